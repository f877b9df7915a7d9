/-
  The law OctetOwn answers true and turns nothing that was there. Condition: errors.errorType holds the handle of the type error; the slice holds at most 2^47 bytes.
-/
import Derived.Test.YthfmacmchiidlaaDoorOctetLaws
import Derived.Laws.BitsAllLaws
namespace Go.Proofs.YthfmacmchiidlaaDoor
open Go.RowKit Go.Extern.Stop Go.Stop Go.Extern

theorem le_alloc (w : World) (o : Obj) : w.heap.size ≤ (w.alloc o).heap.size := by simp
theorem xor_lt (x : UInt8) : (UInt8.ofNat (x.toNat ^^^ 255)).toNat = x.toNat ^^^ 255 := by
  have hx : x.toNat < 256 := x.toNat_lt
  have hy : x.toNat ^^^ 255 < 2 ^ 8 := Nat.xor_lt_two_pow (by omega) (by omega)
  rw [UInt8.toNat_ofNat']
  omega
theorem xor_u8 (x : UInt8) : bits BinOp.xor IntKind.u8 ((x.toNat : Nat) : Int) 255 = ((x.toNat ^^^ 255 : Nat) : Int) :=
  u8_xor_nat x.toNat 255 x.toNat_lt (by decide)

/-- a reader is as it was where only another reader's block has turned -/
theorem RdAt.blk {w : World} {g k c : Nat} {A : Option Addr} {l : List UInt8} {e : Value} (h : RdAt w g A c l k e) : Blk w g 54 #[.slice A l.length c, .int .i64 k, e] := h.2.2.1
theorem Rd.other {w w' : World} {g g' k k' : Nat} {l l' : List UInt8} {e : Value} (h : Rd w g l k e) (h' : Rd w g' l' k' .nilIface) (hne : g ≠ g') (hg : w.grownBy w' (some g')) : Rd w' g l k e := by
  obtain ⟨A, c, h⟩ := h
  obtain ⟨A', c', h'⟩ := h'
  refine ⟨A, c, h.1, h.2.1, h.2.2.1.grown hg (by simpa using hne), fun hn => ?_⟩
  obtain ⟨b, o, hA, hb, hc⟩ := h.2.2.2 hn
  have hbg : b ≠ g' := by
    rintro rfl
    have h0 := hc 0 hn
    rw [h'.blk.cell] at h0
    match o, h0 with
    | 0, h0 => simp at h0
    | 1, h0 => simp at h0
    | 2, h0 => simp at h0
    | o + 3, h0 => simp at h0
  refine ⟨b, o, hA, hb, fun j hj => ?_⟩
  have hlt : b < w.heap.size := by have := h.2.2.1.lt; omega
  rw [World.cell?_of_block (w := w) (a := ⟨b, o + j, none⟩) (hg.block b hlt (by simpa using hbg))]
  exact hc j hj

def BytesPost' (w : World) (g : Nat) (l : List UInt8) (k n : Nat) (e : Ending) (w' : World) : Prop :=
  ∃ A c, e = .returned (.slice A n c) ∧ Own w' w.heap.size 5 (.slice A n c) ((l.take (k + n)).drop k) ∧ Bs w' w'.heap.size A ((l.take (k + n)).drop k) ∧ Rd w' g l (k + n) .nilIface ∧ w.grownBy w' (some g)
theorem cut_length {l : List UInt8} {k n : Nat} (h : k + n ≤ l.length) : ((l.take (k + n)).drop k).length = n := by simp; omega
theorem bytes_at' (g : Nat) (l : List UInt8) (k n : Nat) (w : World) (h : Rd w g l k .nilIface) (hle : k + n ≤ l.length) (hl : l.length ≤ 140737488355328) :
    Calls Tryd.prog 22 #[.pointer (some ⟨g, 0, none⟩), .int .i64 n] w (BytesPost' w g l k n) := by
  refine (bytes_at g l k n w h hle hl).mono ?_
  rintro e w' ⟨v, rfl, hown, hrd, hg⟩
  obtain ⟨A, c, rfl, hb, _⟩ := hown.slice
  refine ⟨A, c, ?_, ?_, hb, hrd, hg⟩
  · rw [cut_length hle]
  · rw [cut_length hle] at hown; exact hown

theorem bytes_at_int (g : Nat) (l : List UInt8) (k n : Nat) (n' : Int) (hn : n' = n) (w : World) (h : Rd w g l k .nilIface) (hle : k + n ≤ l.length) (hl : l.length ≤ 140737488355328) :
    Calls Tryd.prog 22 #[.pointer (some ⟨g, 0, none⟩), .int .i64 n'] w (BytesPost' w g l k n) := by
  subst hn
  exact bytes_at' g l k n w h hle hl

theorem left_rd (g : Nat) (l : List UInt8) (k : Nat) (ev : Value) (w : World) (h : Rd w g l k ev) (hk : k ≤ l.length) :
    Calls Tryd.prog 20 #[.pointer (some ⟨g, 0, none⟩)] w fun e w' => e = .returned (.int .i64 ((l.length : Int) - k)) ∧ ∃ n, w' = w.drewN n := by
  obtain ⟨A, c, h⟩ := h
  exact left_at g A c l k ev w h hk
theorem Rd.drewN {w : World} {g k : Nat} {l : List UInt8} {e : Value} (h : Rd w g l k e) (n : Nat) : Rd (w.drewN n) g l k e := h
theorem cat_cut (l : List UInt8) {k : Nat} (hk : k ≤ l.length) : ([] ++ (l.take (0 + k)).drop 0) ++ ((l.take (0 + k + (l.length - k))).drop (0 + k)) = l := by
  have e : 0 + k + (l.length - k) = l.length := by omega
  rw [e, List.take_length, Nat.zero_add, List.drop_zero, List.nil_append, List.take_append_drop]

def OwnK (w : World) (base : Nat) (A : Option Addr) (k c : Nat) : Prop := ∃ lx : List UInt8, lx.length = k ∧ Own w base 5 (.slice A k c) lx
theorem OwnK.round {w : World} {base k c j : Nat} {A : Option Addr} (h : OwnK w base A k c) (hj : j < k) :
    ∃ (g : Nat) (x : UInt8), A = some ⟨g, 0, none⟩ ∧ base ≤ g ∧ w.cell? ⟨g, j, none⟩ = some (.int .u8 (x.toNat : Int)) ∧ w.frozen? ⟨g, j, none⟩ = false ∧
      ∀ y : UInt8, OwnK (w.setCell ⟨g, j, none⟩ (.int .u8 (y.toNat : Int))) base A k c := by
  obtain ⟨lx, hlx, hown⟩ := h
  have hrow := hown.row hlx
  rcases hrow.2 with ⟨h0, hk⟩ | ⟨g, cap, cur, hv, hg, _⟩
  · omega
  · injection hv with hA hk hc
    subst hA hc
    refine ⟨g, lx[j]'(by omega), rfl, hg, ?_, hrow.frozenAt j, fun y => ?_⟩
    · rw [hrow.cellAt j (by omega), bv_get (by omega)]
    · have hst := (hrow.stored j (.int .u8 (y.toNat : Int))).1
      have e : (bv lx).set j (.int .u8 (y.toNat : Int)) = bv (lx.set j y) := by simp [bv, List.map_set]
      rw [e] at hst
      exact ⟨lx.set j y, by simpa using hlx, Own.of_row hst (by simpa using hlx)⟩

theorem wpList_append_bytes_n {P : Program} (w : World) {ops : Array Oper} {rest : List Oper} {o : Oper} {a : Act} {Q : Exit → Act → World → Prop} (hgd : o.guard = none) (s x : Operand) (t : TypeId)
    (ho : o.op = .call { callee := .builtin .append, args := #[s, x], argTypes := #[t, t] })
    (base : Nat) (e : TypeId) (i : TypeInfo) (z : Value) (ht : P.underlying t = some (.slice e)) (hi : P.info? e = some i) (hz : i.zero = some z)
    (hsize : i.size = 1) (hby : i.bytes = 1) (hzs : z.cells.size = 1)
    (v : Value) (l : List UInt8) (hs : a.eval s = v) (hown : Own w base e v l)
    (B : Nat) (A : Option Addr) (c n : Nat) (m : List UInt8) (hm : m.length = n) (hx : a.eval x = .slice A n c) (hr : Bs w B A m)
    (hbytes : l.length + m.length ≤ 140737488355328) (hbase : base ≤ w.heap.size)
    (h : ∀ v' w', Own w' base e v' (l ++ m) → w.grownBy w' v.ownBlock → (v'.ownBlock = v.ownBlock ∨ v'.ownBlock = some w.heap.size) → wpList P ops Q rest (a.put o.dst v') w') :
    wpList P ops Q (o :: rest) a w := by
  subst hm
  exact wpList_append_bytes w hgd s x t ho base e i z ht hi hz hsize hby hzs v l hs hown B A c m hx hr hbytes hbase h

set_option maxRecDepth 100000 in
set_option maxHeartbeats 4000000 in
theorem octetOwn_calls (A : Option Addr) (l : List UInt8) (c : Nat) (n : Int) (w : World) (hb : Bs w w.heap.size A l) (hl : l.length ≤ 140737488355328) (hg0 : w.cell? gErr = some hErr) :
    Calls Tryd.prog 7 #[.slice A l.length c, .int .i64 n] w fun ev w' => ev = .returned (.bool true) ∧ Below w.heap.size w w' := by
  have HA := Lib.hid (awake_true w hg0)
  have HG := Lib.hid hg0
  have HL := Lib.hid hl
  clear hg0 hl
  by_cases h0 : n < 0
  · go_enter Tryd.func7, Tryd.ntmps7
    go_wp2_with fail
    refine HA.out.mono ?_
    rintro e w0 ⟨rfl, hb0⟩
    go_wp2_with fail
    go_ret
    exact ⟨rfl, hb0⟩
  · obtain ⟨k, rfl⟩ : ∃ k : Nat, n = k := ⟨n.toNat, by omega⟩
    by_cases h1 : l.length < k
    · have hd0 : decide ((k : Int) < 0) = false := by simp
      go_enter Tryd.func7, Tryd.ntmps7
      go_wp2_with fail
      refine HA.out.mono ?_
      rintro e w0 ⟨rfl, hb0⟩
      go_wp2_with fail
      go_ret
      exact ⟨rfl, hb0⟩
    · have hk : k ≤ l.length := by omega
      have hd0 : decide ((k : Int) < 0) = false := by simp
      have hd1 : decide (l.length < k) = false := by simp; omega
      have hd2 : decide ((l.length : Int) < (k : Int)) = false := by simp; omega
      clear HA h0
      obtain ⟨i0, hi0, hz0, hz1, hz2⟩ := info_parts u8info
      go_enter Tryd.func7, Tryd.ntmps7
      go_wp2_with fail
      refine (read_any A l c _ w hb (Nat.le_refl _) HL.out).mono ?_
      rintro e w1 ⟨g1, rfl, hg1, hr1, hb1⟩
      have HR1 := Lib.hid hr1
      clear hr1
      go_wp2_with fail
      refine (read_any A l c _ w1 (hb.below hb1) hb1.size HL.out).mono ?_
      rintro e w2 ⟨g2, rfl, hg2, hr2, hb2⟩
      have HR2 := Lib.hid hr2
      have hlt1 := HR1.out.lt
      have hlt2 := HR2.out.lt
      have HR1' := Lib.hid (HR1.out.below hb2 hlt1)
      clear hr2 HR1
      go_wp2_with fail
      refine (bytes_at' g1 l 0 k w2 HR1'.out (by omega) HL.out).mono ?_
      rintro e w3 ⟨A3, c3, rfl, hown3, hbs3, hr3, hgr3⟩
      have HR3 := Lib.hid hr3
      have HQ3 := Lib.hid (HR2.out.other HR1'.out (by omega) hgr3)
      clear hr3 HR2 HR1'
      go_wp2_with fail
      have hbk : OwnK w3 w2.heap.size A3 k c3 := ⟨_, cut_length (by omega), hown3⟩
      clear hown3 hbs3
      go_loopw [8] (fun i wr => ∃ j : Nat, j ≤ k ∧ i = .int .i64 j ∧ OwnK wr w2.heap.size A3 k c3 ∧ Below w2.heap.size w3 wr) (fun i _ => k - (intOf i).toNat)
      case atStart => exact ⟨0, Nat.zero_le _, rfl, hbk, Below.refl _ _⟩
      case round =>
        obtain ⟨j, hj, rfl, hok, hbw⟩ := hrel
        by_cases hlt : j < k
        · obtain ⟨g, x, rfl, hgb, hcell, hfr, hset⟩ := hok.round hlt
          have hx := xor_u8 x
          have hs := hset (UInt8.ofNat (x.toNat ^^^ 255))
          rw [xor_lt] at hs
          have HS := Lib.hid hs
          have hkb : k ≤ 140737488355328 := by have := HL.out; omega
          clear hs
          clear hset
          go_wp2_with fail
          go_roundw
          case rel => exact ⟨j + 1, by omega, by go_num, HS.out, hbw.setCell hgb _⟩
          case measure => simp [intOf]; omega
        · obtain rfl : k = j := by omega
          have HQw := Lib.hid (HQ3.out.below hbw hlt2)
          have HRw := Lib.hid (HR3.out.below hbw (Nat.lt_of_lt_of_le hlt1 hb2.size))
          have hBw : Below w.heap.size w wr := ((hb1.trans (hb2.mono hb1.size)).grown hgr3 (Nat.le_trans hb1.size hb2.size) (fun g hg => by injection hg with hg; omega)).trans (hbw.mono (Nat.le_trans hb1.size hb2.size))
          clear hok hbw HQ3 HR3
          go_wp2_with fail
          refine (bytes_at' g2 l 0 k wr HQw.out (by omega) HL.out).mono ?_
          rintro e w4 ⟨A4, c4, rfl, hown4, hbs4, hr4, hgr4⟩
          have HQ4 := Lib.hid hr4
          have HR4 := Lib.hid (HRw.out.other HQw.out (by omega) hgr4)
          have hB4 : Below w.heap.size w w4 := hBw.grown hgr4 hBw.size (fun g hg => by injection hg with hg; omega)
          have HBS4 := Lib.hid hbs4
          have hlk : (l.length : Int) - k = ((l.length - k : Nat) : Int) := by omega
          have HLK := Lib.hid hlk
          have hlm : l.length ≤ 9223372036854775807 := by have := HL.out; omega
          clear hown4 hbs4 hr4 hgr4 HQw HRw hBw hlk
          have hlt24 := HQ4.out.lt
          have hlt14 := HR4.out.lt
          have HC1 := Lib.hid (cut_length (l := l) (k := 0) (n := k) (by omega))
          have HX1 := Lib.hid (show ([] : List UInt8).length + ((l.take (0 + k)).drop 0).length ≤ 140737488355328 by rw [HC1.out]; have := HL.out; simp; omega)
          have HC2 := Lib.hid (cut_length (l := l) (k := 0 + k) (n := l.length - k) (by omega))
          have HX2 := Lib.hid (show ([] ++ ((l.take (0 + k)).drop 0)).length + ((l.take (0 + k + (l.length - k))).drop (0 + k)).length ≤ 140737488355328 by rw [HC2.out, List.nil_append, HC1.out]; have := HL.out; omega)
          go_wp2_with (at_builtin; (refine wpList_append_bytes_n _ rfl (.tmp 44) (.tmp 45) 25 rfl w4.heap.size 5 i0 (.int .u8 0) Tryd.underlying25 hi0 hz0 hz1 hz2 rfl (.slice (some ⟨w4.heap.size, 0, none⟩) 0 0) [] rfl (Own.empty w4 _ _ (Nat.le_refl _)) w4.heap.size A4 c4 k ((l.take (0 + k)).drop 0) HC1.out rfl (HBS4.out.alloc (Nat.le_refl _) _) HX1.out (le_alloc _ _) ?_); intro v5 w5 hown5 hgr5 _)
          have hB45 : Below w4.heap.size w4 w5 := ((Below.refl _ _).alloc (Nat.le_refl _) _).grown hgr5 (by simp) (fun g hg => by injection hg with hg; subst hg; exact Nat.le_refl _)
          have HQ5 := Lib.hid (HQ4.out.below hB45 hlt24)
          have HR5 := Lib.hid (HR4.out.below hB45 hlt14)
          have hob : ∀ g, v5.ownBlock = some g → w4.heap.size ≤ g := fun g hg => (World.ownsRow.lt hown5 g hg).1
          clear hgr5 HQ4 HR4 HBS4
          with_reducible refine (bytes_at_int g2 l (0 + k) (l.length - k) _ HLK.out w5 HQ5.out (by omega) HL.out).mono ?_
          rintro e w6 ⟨A6, c6, rfl, hown6, hbs6, hr6, hgr6⟩
          have HQ6 := Lib.hid hr6
          have HR6 := Lib.hid (HR5.out.other HQ5.out (by omega) hgr6)
          have hown5' : Own w6 w4.heap.size 5 v5 ([] ++ (l.take (0 + k)).drop 0) := World.ownsRow.kept hown5 hgr6 (by
            rcases hv : v5.ownBlock with _ | g
            · exact .inl rfl
            · refine .inr fun h => ?_
              injection h with h
              have := hob g hv
              omega)
          have hB46 : Below w.heap.size w w6 := (hB4.trans (hB45.mono hB4.size)).grown hgr6 (Nat.le_trans hB4.size hB45.size) (fun g hg => by injection hg with hg; omega)
          have hz46 : w4.heap.size ≤ w6.heap.size := Nat.le_trans hB45.size hgr6.size
          have HBS6 := Lib.hid hbs6
          have HOB := Lib.hid hob
          clear hown5 hown6 hbs6 hr6 hgr6 HQ5 HR5 hob hB45 HLK
          go_wp2_with (at_builtin; refine wpList_append_bytes_n _ rfl (.tmp 46) (.tmp 52) 25 rfl w4.heap.size 5 i0 (.int .u8 0) Tryd.underlying25 hi0 hz0 hz1 hz2 rfl v5 _ rfl hown5' w6.heap.size A6 c6 (l.length - k) _ HC2.out rfl HBS6.out HX2.out hz46 ?_; intro v7 w7 hown7 hgr7 _; rw [cat_cut l hk] at hown7; obtain ⟨A7, c7, rfl, hbs7, _⟩ := hown7.slice; have HBS7 := Lib.hid hbs7; have HGR7 := Lib.hid hgr7; clear hown7 hbs7 hgr7)
          have hB67 : Below w4.heap.size w6 w7 := (Below.refl _ _).grown HGR7.out hz46 HOB.out
          have hB7 : Below w.heap.size w w7 := hB46.trans (hB67.mono hB4.size)
          have HQ7 := Lib.hid (HQ6.out.below hB67 hlt24)
          have HR7 := Lib.hid (HR6.out.below hB67 hlt14)
          have z7 : w4.heap.size ≤ w7.heap.size := Nat.le_trans hz46 hB67.size
          clear hB67 HGR7 HOB HQ6 HR6 hB46 HBS6
          refine (awake_true w7 ((hB7.cell (p := gErr) (cell_size HG.out)).trans HG.out)).mono ?_
          rintro e w8 ⟨rfl, hb8⟩
          have hB8 : Below w.heap.size w w8 := hB7.trans (hb8.mono hB7.size)
          have HQ8 := Lib.hid (HQ7.out.below hb8 (by omega))
          have HR8 := Lib.hid (HR7.out.below hb8 (by omega))
          have HBS8 := Lib.hid (HBS7.out.below hb8)
          go_wp2_with fail
          refine (same_true A7 A l l _ _ c7 c _ _ w8 rfl rfl HBS8.out (hb.below hB8) rfl).mono ?_
          rintro e w' ⟨rfl, rfl⟩
          go_wp2_with fail
          refine (left_rd g1 l (0 + k) _ w8 HR8.out (by omega)).mono ?_
          rintro e w' ⟨rfl, m1, rfl⟩
          go_wp2_with fail
          have HE8 : Rd (w8.drewN m1) g2 l l.length .nilIface := by have h := HQ8.out; rw [show 0 + k + (l.length - k) = l.length by omega] at h; exact h
          refine (end_nil g2 l (w8.drewN m1) HE8).mono ?_
          rintro e w' ⟨rfl, m2, rfl⟩
          go_wp2_with fail
          go_ret
          exact ⟨rfl, below_drewN hB8 (m1 + m2)⟩
end Go.Proofs.YthfmacmchiidlaaDoor
