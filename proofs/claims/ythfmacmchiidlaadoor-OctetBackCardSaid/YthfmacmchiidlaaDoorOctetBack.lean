/-
  The law OctetBack, first part: what the puts come to, and the loop that puts them, one behind the other. Condition: the slice of puts reads as the list ps.
-/
import Derived.Test.YthfmacmchiidlaaDoorOctetLaws3
import Derived.Deep.RegionHeld3
import Derived.Deep.DrawnRows
import Derived.StillTailTactics
namespace Go.Proofs.YthfmacmchiidlaaDoor
open Go.RowKit Go.Extern.Stop Go.Stop Go.Extern
attribute [local go_sem ↓] Go.wp_at_zero Go.wp_at_succ

structure PutV where
  n : Nat
  size : Int
  s : ByteArray
  text : Bool
def enc1 (p : PutV) : List UInt8 := if p.text = true then textL p.s else putL p.n p.size
def encL (ps : List PutV) : List UInt8 := ps.flatMap enc1
theorem putL_len (n : Nat) (s : Int) : (putL n s).length ≤ 8 := by
  unfold putL
  split
  · rw [leB_length]; omega
  · simp
theorem textL_len (s : ByteArray) : (textL s).length ≤ 256 := by
  unfold textL
  split
  · simp; omega
  · simp
theorem enc1_len (p : PutV) : (enc1 p).length ≤ 256 := by
  unfold enc1
  split
  · exact textL_len _
  · have := putL_len p.n p.size; omega
theorem encL_len (ps : List PutV) : (encL ps).length ≤ 256 * ps.length := by
  induction ps with
  | nil => simp [encL]
  | cons p ps ih =>
    have := enc1_len p
    simp only [encL, List.flatMap_cons, List.length_append, List.length_cons] at ih ⊢
    omega
theorem encL_snoc (ps : List PutV) {k : Nat} (h : k < ps.length) : encL (ps.take (k + 1)) = encL (ps.take k) ++ enc1 ps[k] := by
  unfold encL
  rw [List.take_succ_eq_append_getElem h, List.flatMap_append, List.flatMap_singleton]

/-- the slice '.slice A n c' of puts reads as ps, and lies below block B -/
def Puts (w : World) (B : Nat) (A : Option Addr) (ps : List PutV) : Prop :=
  ∀ i (h : i < ps.length), ∃ b o, A = some ⟨b, o, none⟩ ∧ b < B ∧ w.cell? ⟨b, o + i * 4, none⟩ = some (.int .u64 (ps[i].n : Int)) ∧ w.cell? ⟨b, o + i * 4 + 1, none⟩ = some (.int .i64 ps[i].size) ∧
    w.cell? ⟨b, o + i * 4 + 2, none⟩ = some (.string ps[i].s) ∧ w.cell? ⟨b, o + i * 4 + 3, none⟩ = some (.bool ps[i].text) ∧ ps[i].n < 18446744073709551616
theorem Puts.keep {w w' : World} {B : Nat} {A : Option Addr} {ps : List PutV} (h : Puts w B A ps) (hk : ∀ p : Addr, p.block < B → w'.cell? p = w.cell? p) : Puts w' B A ps := fun i hi => by
  obtain ⟨b, o, hA, hb, h0, h1, h2, h3, h4⟩ := h i hi
  exact ⟨b, o, hA, hb, (hk ⟨b, _, none⟩ hb).trans h0, (hk ⟨b, _, none⟩ hb).trans h1, (hk ⟨b, _, none⟩ hb).trans h2, (hk ⟨b, _, none⟩ hb).trans h3, h4⟩
theorem Puts.below {w w' : World} {B : Nat} {A : Option Addr} {ps : List PutV} (h : Puts w B A ps) (hb : Below B w w') : Puts w' B A ps := h.keep fun _ hp => hb.cell hp

theorem below_undrew {w w' : World} (h : Below w.drew.heap.size w.drew w') : Below w.heap.size w w' := ⟨h.os, h.tape, h.output, h.size, h.block⟩

theorem step_append_bytes {P : Program} (w : World) {ops : Array Oper} {o : Oper} {a : Act} {K : Act → World → Prop} {Q : Exit → Act → World → Prop} {E : Prop} (hgd : o.guard = none) (s x : Operand) (t : TypeId)
    (ho : o.op = .call { callee := .builtin .append, args := #[s, x], argTypes := #[t, t] })
    (base : Nat) (e : TypeId) (i : TypeInfo) (z : Value) (ht : P.underlying t = some (.slice e)) (hi : P.info? e = some i) (hz : i.zero = some z)
    (hsize : i.size = 1) (hby : i.bytes = 1) (hzs : z.cells.size = 1)
    (v : Value) (l : List UInt8) (hs : a.eval s = v) (hown : Own w base e v l)
    (B : Nat) (A : Option Addr) (c : Nat) (m : List UInt8) (hx : a.eval x = .slice A m.length c) (hr : Bs w B A m)
    (hbytes : l.length + m.length ≤ 140737488355328) (hbase : base ≤ w.heap.size)
    (h : ∀ v' w', Own w' base e v' (l ++ m) → w.grownBy w' v.ownBlock → (v'.ownBlock = v.ownBlock ∨ v'.ownBlock = some w.heap.size) → K (a.put o.dst v') w') :
    if Region.wanted o (yielded ops a.tmps) = true then Oper.wp P o a w K Q else E := by
  have hw : Region.wanted o (yielded ops a.tmps) = true := by simp [Region.wanted, hgd]
  rw [if_pos hw]
  obtain ⟨v', w', hr, h2, h3, h4⟩ := run_append_bytes (P := P) w base t o.type e i z ht hi hz hsize hby hzs v l hown B A c m hr hbytes hbase
  unfold Oper.wp execOp
  simp only [ho, resolve, invoke, builtin, Sem.run_bind, Sem.run_pure, Result.andThen_ok, List.map_toArray, List.map_cons, List.map_nil, hs, hx, hr]
  exact h v' w' h2 h3 h4

/-- where the j-th put begins -/
def offL (ps : List PutV) (j : Nat) : Nat := (encL (ps.take j)).length
theorem offL_succ (ps : List PutV) {j : Nat} {p : PutV} (h : ps[j]? = some p) : offL ps (j + 1) = offL ps j + (enc1 p).length := by
  obtain ⟨hj, e⟩ := List.getElem?_eq_some_iff.1 h
  unfold offL
  rw [encL_snoc ps hj, List.length_append, e]
theorem encL_mid (ps : List PutV) {j k : Nat} {p : PutV} (h : ps[j]? = some p) (hjk : j < k) : ∃ suf, encL (ps.take k) = encL (ps.take j) ++ enc1 p ++ suf := by
  obtain ⟨hj, e⟩ := List.getElem?_eq_some_iff.1 h
  refine ⟨encL ((ps.take k).drop (j + 1)), ?_⟩
  have h1 : (ps.take k).take (j + 1) = ps.take (j + 1) := by rw [List.take_take, Nat.min_eq_left (by omega)]
  rw [← e, ← encL_snoc ps hj, ← h1]
  unfold encL
  rw [← List.flatMap_append, List.take_append_drop]
theorem mid_cut (pre mid suf : List UInt8) : ((pre ++ mid ++ suf).take (pre.length + mid.length)).drop pre.length = mid := by
  rw [← List.length_append, List.take_left' rfl, List.drop_left' rfl]

theorem text_round (g : Nat) (ps : List PutV) (L : List UInt8) (j k : Nat) (p : PutV) (w : World) (hL : L = encL (ps.take k)) (hp : ps[j]? = some p) (hjk : j < k) (h : Rd w g L (offL ps j) .nilIface) (ht : p.text = true) (hs : p.s.size ≤ 255) :
    Calls Tryd.prog 17 #[.pointer (some ⟨g, 0, none⟩)] w fun e w' => e = .returned (.string p.s) ∧ Rd w' g L (offL ps (j + 1)) .nilIface ∧ w.grownBy w' (some g) := by
  obtain ⟨suf, hm⟩ := encL_mid ps hp hjk
  have he : enc1 p = UInt8.ofNat p.s.size :: p.s.data.toList := by simp [enc1, ht, textL, hs]
  have hsz : p.s.data.toList.length = p.s.size := by simp
  rw [← hL, he] at hm
  have ho : offL ps (j + 1) = offL ps j + 1 + p.s.size := by rw [offL_succ ps hp, he, List.length_cons, hsz]; omega
  have hpre : (encL (ps.take j)).length = offL ps j := rfl
  have hlen : L.length = offL ps j + (1 + p.s.size) + suf.length := by rw [hm]; simp [hpre]; omega
  have hb : L[offL ps j]? = some (UInt8.ofNat p.s.size) := by
    rw [hm, ← hpre, List.append_assoc, List.getElem?_append_right (Nat.le_refl _), Nat.sub_self]
    rfl
  have hcut : (L.take (offL ps j + 1 + p.s.size)).drop (offL ps j + 1) = p.s.data.toList := by
    have e2 : L = (encL (ps.take j) ++ [UInt8.ofNat p.s.size]) ++ p.s.data.toList ++ suf := by rw [hm]; simp
    have := mid_cut (encL (ps.take j) ++ [UInt8.ofNat p.s.size]) p.s.data.toList suf
    rw [← e2, List.length_append, hpre, hsz] at this
    exact this
  refine (text_at g L (offL ps j) p.s.size w h hs hb (by omega)).mono ?_
  rintro e w' ⟨rfl, h2, h3⟩
  refine ⟨?_, ho ▸ h2, h3⟩
  rw [hcut]

theorem num_round (g : Nat) (ps : List PutV) (L : List UInt8) (j k s : Nat) (p : PutV) (w : World) (hL : L = encL (ps.take k)) (hp : ps[j]? = some p) (hjk : j < k) (h : Rd w g L (offL ps j) .nilIface) (ht : p.text = false) (hs : p.size = s) (h1 : 1 ≤ s) (h8 : s ≤ 8) :
    Calls Tryd.prog 18 #[.pointer (some ⟨g, 0, none⟩), .int .i64 s] w fun e w' => e = .returned (.int .u64 (p.n % 256 ^ s : Nat)) ∧ Rd w' g L (offL ps (j + 1)) .nilIface ∧ w.grownBy w' (some g) := by
  obtain ⟨suf, hm⟩ := encL_mid ps hp hjk
  have hin : (1 : Int) ≤ (s : Int) ∧ (s : Int) ≤ 8 := by omega
  have he : enc1 p = leB p.n s := by simp only [enc1, ht, putL, hs]; rw [if_neg (by simp), if_pos hin, Int.toNat_natCast]
  rw [← hL, he] at hm
  have ho : offL ps (j + 1) = offL ps j + s := by rw [offL_succ ps hp, he, leB_length]
  have hpre : (encL (ps.take j)).length = offL ps j := rfl
  have hlen : L.length = offL ps j + s + suf.length := by rw [hm]; simp [hpre, leB_length]; omega
  have hcut : (L.take (offL ps j + s)).drop (offL ps j) = leB p.n s := by
    have := mid_cut (encL (ps.take j)) (leB p.n s) suf
    rw [← hm, hpre, leB_length] at this
    exact this
  refine (num_at g L (offL ps j) s w h h1 h8 (by omega)).mono ?_
  rintro e w' ⟨rfl, h2, h3⟩
  refine ⟨?_, ho ▸ h2, h3⟩
  rw [hcut, leN_leB]
theorem off_same (ps : List PutV) {j : Nat} {p : PutV} (h : ps[j]? = some p) (he : enc1 p = []) : offL ps (j + 1) = offL ps j := by rw [offL_succ ps h, he]; rfl

theorem lt_alloc (w : World) (o : Obj) : w.heap.size < (w.alloc o).drew.heap.size := by simp
theorem some_ne {a b : Nat} (h : a ≠ b) : (some a : Option Nat) ≠ some b := fun e => h (by injection e)

/-- Read, with where its copy lies -/
def ReadFrom (w : World) (l : List UInt8) (e : Ending) (w' : World) : Prop :=
  ∃ g A c, e = .returned (.pointer (some ⟨g, 0, none⟩)) ∧ w.heap.size ≤ g ∧ RdAt w' g A c l 0 .nilIface ∧ (∀ a, A = some a → w.heap.size ≤ a.block) ∧ Below w.heap.size w w'
theorem read_from (A : Option Addr) (l : List UInt8) (c B : Nat) (w : World) (hb : Bs w B A l) (hB : B ≤ w.heap.size) (hl : l.length ≤ 140737488355328) :
    Calls Tryd.prog 16 #[.slice A l.length c] w (ReadFrom w l) := by
  have hclone := Lib.hid (clone_any A l c B w hb hB hl)
  clear hl
  go_enter Tryd.func16, Tryd.ntmps16
  go_wp2_with (go_at_call 25; refine (hclone.out).mono ?_; rintro e w1 ⟨v, rfl, hown, hbel⟩; obtain ⟨A1, c1, rfl, hc1, hc2, hbs, hob⟩ := hown.slice_cap)
  go_ret
  exact ⟨w1.heap.size, A1, c1, rfl, hbel.size, ⟨hc1, hc2, Blk.new _ _ _, hbs.alloc (Nat.le_refl _) _⟩, fun a ha => (hob a.block (by subst ha; rfl)).1, hbel.alloc hbel.size _⟩
theorem RdAt.far {w : World} {g k c lo : Nat} {A : Option Addr} {l : List UInt8} {e : Value} (h : RdAt w g A c l k e) (hg : lo ≤ g) (ha : ∀ a, A = some a → lo ≤ a.block) {p : Addr} (hp : p.block < lo) (u : Value) : RdAt (w.setCell p u) g A c l k e :=
  ⟨h.1, h.2.1, h.2.2.1.far (by omega) u, fun hn => by
    obtain ⟨b, o, hA, hb, hc⟩ := h.2.2.2 hn
    have := ha _ hA
    refine ⟨b, o, hA, hb, fun j hj => ?_⟩
    rw [World.cell?_setCell_other w p ⟨b, o + j, none⟩ u (fun e => by subst e; simp at hp; simp at this; omega)]
    exact hc j hj⟩

set_option maxRecDepth 100000 in
set_option maxHeartbeats 8000000 in
theorem octetBack_calls (A : Option Addr) (ps : List PutV) (c : Nat) (w : World) (hb : Puts w w.heap.size A ps) (hg0 : w.cell? gErr = some hErr) :
    Calls Tryd.prog 5 #[.slice A ps.length c] w fun ev w' => ev = .returned (.bool true) ∧ Below w.heap.size w w' := by
  obtain ⟨i0, hi0, hz0, hz1, hz2⟩ := info_parts u8info
  have HG := Lib.hid hg0
  clear hg0
  go_enter Tryd.func5, Tryd.ntmps5
  go_wp2_with fail
  go_loopw [3, 4] (fun v i wr => ∃ k : Nat, k ≤ ps.length ∧ k ≤ 40 ∧ i = .int .i64 k ∧ Own wr w.heap.size 5 v (encL (ps.take k)) ∧ Below w.heap.size w wr) (fun _ i _ => 40 - (intOf i).toNat)
  case atStart => exact ⟨0, Nat.zero_le _, Nat.zero_le _, rfl, Own.nil_ _ _ _, Below.refl _ _⟩
  case round =>
    obtain ⟨k, hk, hk4, rfl, hown, hbel⟩ := hrel
    have hB := hbel.size
    by_cases hin : k < ps.length ∧ k < 40
    · obtain ⟨hlt, h4⟩ := hin
      obtain ⟨b, o, rfl, hbb, c0, c1, c2, c3, hn⟩ := hb k hlt
      have hcw : ∀ j, wr.cell? ⟨b, j, none⟩ = w.cell? ⟨b, j, none⟩ := fun j => hbel.cell (p := ⟨b, j, none⟩) hbb
      rw [← hcw] at c0 c1 c2 c3
      have HB := Lib.hid hb
      have HE := Lib.hid (encL_snoc ps hlt)
      have hln : (encL (ps.take k)).length ≤ 10240 := by
        have h1 := encL_len (ps.take k)
        have h2 : (ps.take k).length = k := by rw [List.length_take]; omega
        omega
      have h4' : (k : Int) < 40 := by omega
      clear hb hcw
      generalize ps[k] = p at *
      have hbw : b < wr.heap.size := by omega
      cases htx : p.text
      · rw [htx] at c3
        have HEn := Lib.hid (show enc1 p = putL p.n p.size by simp [enc1, htx])
        have HP := Lib.hid fun w => put_all p.n p.size w hn
        have hl8 := putL_len p.n p.size
        have HX := Lib.hid (show (encL (ps.take k)).length + (putL p.n p.size).length ≤ 140737488355328 by omega)
        have p1 : (0 : Int) ≤ (k : Int) := by omega
        have p2 : (k : Int) < (ps.length : Int) := by omega
        clear htx c2
        go_wp2_with fail
        go_region_held3 (fun w' => w'.cell? ⟨b, o + k * 4, none⟩ = some (.int .u64 p.n) ∧ w'.cell? ⟨b, o + k * 4 + 1, none⟩ = some (.int .i64 p.size)) (go_keep)
          (first
            | (go_at_call 10; refine (HP.out _).mono ?_; rintro e w1 ⟨A1, c5, rfl, hs1, hb0⟩; have hb1 := below_undrew hb0; clear hb0; have k0 := (hb1.cell (p := ⟨b, o + k * 4, none⟩) hbw).trans c0; have k1 := (hb1.cell (p := ⟨b, o + k * 4 + 1, none⟩) hbw).trans c1; have hown1 := hown.below hb1)
            | ((have hguard := hown1; clear hguard; refine step_append_bytes _ (by rfl) _ _ 25 (by rfl) w.heap.size 5 i0 (.int .u8 0) Tryd.underlying25 hi0 hz0 hz1 hz2 (by rfl) _ (encL (ps.take k)) (by rfl) hown1 _ A1 c5 (putL p.n p.size) (by rfl) hs1 HX.out (Nat.le_trans hB hb1.size) ?_; intro v2 w2 hown2 hg2 _; have hb2 : Below w.heap.size w1 w2 := (Below.refl _ _).grown hg2 (Nat.le_trans hB hb1.size) (fun g hg => (World.ownsRow.lt hown1 g hg).1); have k2 := (hb2.cell (p := ⟨b, o + k * 4, none⟩) hbb).trans k0; have k3 := (hb2.cell (p := ⟨b, o + k * 4 + 1, none⟩) hbb).trans k1)))
        go_wp2_with fail
        go_roundw
        case rel => exact ⟨k + 1, by omega, by omega, by go_num, by rw [HE.out, HEn.out]; exact hown2, (hbel.trans (hb1.mono hB)).trans hb2⟩
        case measure => simp [intOf]; omega
      · rw [htx] at c3
        have HEn := Lib.hid (show enc1 p = textL p.s by simp [enc1, htx])
        have hl8 := textL_len p.s
        have HX := Lib.hid (show (encL (ps.take k)).length + (textL p.s).length ≤ 140737488355328 by omega)
        clear htx
        go_wp2_with (first
          | (go_at_call 12; refine (text_all p.s _).mono ?_; rintro e w1 ⟨A1, c5, rfl, hs1, hb1⟩; have hown1 := hown.below hb1)
          | (at_builtin; refine wpList_append_bytes _ rfl (.tmp 25) (.tmp 31) 25 rfl w.heap.size 5 i0 (.int .u8 0) Tryd.underlying25 hi0 hz0 hz1 hz2 rfl _ (encL (ps.take k)) rfl hown1 _ A1 c5 (textL p.s) rfl hs1 HX.out (Nat.le_trans hB hb1.size) ?_; intro v2 w2 hown2 hg2 _))
        go_roundw
        case rel => exact ⟨k + 1, by omega, by omega, by go_num, by rw [HE.out, HEn.out]; exact hown2, (hbel.trans (hb1.mono hB)).grown hg2 (Nat.le_trans hB hb1.size) (fun g hg => (World.ownsRow.lt hown1 g hg).1)⟩
        case measure => simp [intOf]; omega
    · have hex : (ps.length ≤ k) ∨ (k < ps.length ∧ 40 ≤ k) := by omega
      have hln : (encL (ps.take k)).length ≤ 10240 := by
        have h1 := encL_len (ps.take k)
        have h2 : (ps.take k).length = k := by rw [List.length_take]; omega
        omega
      obtain ⟨A3, c3, rfl, hbs3, hob⟩ := hown.slice
      obtain ⟨L, hL⟩ : ∃ L, L = encL (ps.take k) := ⟨_, rfl⟩
      rw [← hL] at hown hbs3 hln hob ⊢
      have HLe := Lib.hid hL
      have HO := Lib.hid hown
      have HOB := Lib.hid hob
      have HB := Lib.hid hb
      have HS := Lib.hid hbs3
      have HR := Lib.hid (read_from A3 L c3 wr.heap.size wr hbs3 (Nat.le_refl _) (by omega))
      clear hL hown hob hb hbs3 hin
      have hlnI : (L.length : Int) ≤ 10240 := by omega
      have hkI : (k : Int) ≤ 40 := by omega
      rcases hex with hx | ⟨hx, hx'⟩
      · have hd : ¬ (k : Int) < ps.length := by omega
        go_wp2_with fail
        refine HR.out.mono ?_
        rintro e w1 ⟨g, Ar, cr, rfl, hg, hrd, hlo, hb1⟩
        have hok : OwnK w1 w.heap.size A3 L.length c3 := ⟨L, rfl, HO.out.below hb1⟩
        have hB1 : Below w.heap.size w w1 := hbel.trans (hb1.mono hB)
        have HLO := Lib.hid hlo
        have hgw : w.heap.size ≤ g := by omega
        clear hb1 hlo HO HS HR hbel
        go_wp2_with fail
        go_loopw [6] (fun i w2 => ∃ j : Nat, j ≤ L.length ∧ i = .int .i64 j ∧ OwnK w2 w.heap.size A3 L.length c3 ∧ RdAt w2 g Ar cr L 0 .nilIface ∧ Below w.heap.size w w2) (fun i _ => L.length - (intOf i).toNat)
        case atStart => exact ⟨0, Nat.zero_le _, rfl, hok, hrd, hB1⟩
        case round =>
          rename_i w2
          obtain ⟨j, hj, rfl, hok2, hrd2, hB2⟩ := hrel
          clear hok hrd hB1
          by_cases hlt : j < L.length
          · obtain ⟨g', x, rfl, hgb, hcell, hfr, hset⟩ := hok2.round hlt
            have HS := Lib.hid (hset 255)
            have hg' := (HOB.out g' rfl).2
            clear hset
            go_wp2_with fail
            go_roundw
            case rel => exact ⟨j + 1, by omega, by go_num, HS.out, hrd2.far hg HLO.out hg' _, hB2.setCell hgb _⟩
            case measure => simp [intOf]; omega
          · obtain rfl : L.length = j := by omega
            go_wp2_with fail
            go_loopw [7] (fun i w6 => ∃ j : Nat, j ≤ k ∧ i = .int .i64 j ∧ Rd w6 g L (offL ps j) .nilIface ∧ Below w.heap.size w w6) (fun i _ => k - (intOf i).toNat)
            case atStart => exact ⟨0, Nat.zero_le _, rfl, ⟨Ar, cr, hrd2⟩, hB2⟩
            case round =>
              clear hrd2 hB2 hok2
              rename_i w6
              obtain ⟨j, hj, rfl, hrd3, hB3⟩ := hrel
              have hgl := hrd3.lt
              by_cases hjk : j < k
              · have hjl : j < ps.length := by omega
                obtain ⟨b, o, rfl, hbb, c0, c1, c2, c3', hn⟩ := HB.out j hjl
                have hcw : ∀ i, wr.cell? ⟨b, i, none⟩ = w.cell? ⟨b, i, none⟩ := fun i => hB3.cell (p := ⟨b, i, none⟩) hbb
                rw [← hcw] at c0 c1 c2 c3'
                have hp := List.getElem?_eq_getElem hjl
                clear hcw
                generalize ps[j] = p at *
                have HP := Lib.hid hp
                have hj1 : (j : Int) < ps.length := by omega
                have hj2 : (j : Int) < 40 := by omega
                have HRD := Lib.hid hrd3
                clear hp hrd3
                cases htx : p.text
                · rw [htx] at c3'
                  by_cases hsz : 1 ≤ p.size ∧ p.size ≤ 8
                  · obtain ⟨s, hs1⟩ : ∃ s : Nat, p.size = s := ⟨p.size.toNat, by omega⟩
                    have h1 : 1 ≤ s := by omega
                    have h8 : s ≤ 8 := by omega
                    have HN0 := Lib.hid fun w' h => num_round g ps L j k s p w' HLe.out HP.out hjk h htx hs1 h1 h8
                    rw [hs1] at c1
                    clear hsz
                    have h1I : (1 : Int) ≤ s := by omega
                    have h8I : (s : Int) ≤ 8 := by omega
                    by_cases h7 : s < 8
                    · obtain ⟨P, hP⟩ : ∃ P : Nat, P = 256 ^ s := ⟨_, rfl⟩
                      have hP1 : P ≤ 256 ^ 7 := by rw [hP]; exact Nat.pow_le_pow_right (by decide) (by omega)
                      have hP0 : 0 < P := by rw [hP]; exact Nat.pow_pos (by decide)
                      have p3 : IntKind.u64.wrap (2 ^ (8 * (s : Int)).toNat) = (P : Int) := by
                        have e1 : (8 * (s : Int)).toNat = 8 * s := by omega
                        have e2 : (2 : Int) ^ (8 * s) = ((256 ^ s : Nat) : Int) := by
                          rw [Int.pow_mul]; push_cast; rfl
                        rw [e1, e2, ← hP, IntKind.wrap_u64]
                        omega
                      have p4 : (1 : Int) ≤ P := by omega
                      have p5 : (P : Int) ≤ 72057594037927936 := by omega
                      have HN := Lib.hid (show ∀ w', Rd w' g L (offL ps j) .nilIface → Calls Tryd.prog 18 #[.pointer (some ⟨g, 0, none⟩), .int .i64 s] w' fun e w'' => e = .returned (.int .u64 ((p.n : Int) % (P : Int))) ∧ Rd w'' g L (offL ps (j + 1)) .nilIface ∧ w'.grownBy w'' (some g) from fun w' h => by
                        refine (HN0.out w' h).mono fun e w'' hh => ?_
                        rw [← hP, Int.natCast_emod] at hh
                        exact hh)
                      have h7I : (s : Int) < 8 := by omega
                      clear hP hP1 HN0
                      obtain ⟨X, hX⟩ : ∃ X, X = Obj.cells #[.int .u64 (p.n : Int), .int .i64 (s : Int), .string p.s, .bool false] 36 := ⟨_, rfl⟩
                      have HXe := Lib.hid hX
                      clear hX
                      have hBX : Below w.heap.size w (wr.alloc X) := hB3.alloc hB3.size X
                      have HR7 := Lib.hid (HRD.out.below ((Below.refl _ _).alloc (Nat.le_refl _) X) hgl)
                      clear htx hs1
                      go_wp2_with fail
                      rw [← HXe.out]
                      refine (HN.out (wr.alloc X) HR7.out).mono ?_
                      rintro e w7 ⟨rfl, hr7, hg7⟩
                      go_wp2_with fail
                      go_roundw
                      case rel => exact ⟨j + 1, by omega, by go_num, hr7, hBX.grown hg7 hBX.size (fun g' h => by injection h with h; omega)⟩
                      case measure => simp [intOf]; omega
                    · obtain rfl : s = 8 := by omega
                      have HN := Lib.hid (show ∀ w', Rd w' g L (offL ps j) .nilIface → Calls Tryd.prog 18 #[.pointer (some ⟨g, 0, none⟩), .int .i64 (8 : Int)] w' fun e w'' => e = .returned (.int .u64 (p.n : Int)) ∧ Rd w'' g L (offL ps (j + 1)) .nilIface ∧ w'.grownBy w'' (some g) from fun w' h => by
                        refine (HN0.out w' h).mono fun e w'' hh => ?_
                        rw [show 256 ^ 8 = 18446744073709551616 from rfl, Nat.mod_eq_of_lt hn] at hh
                        exact hh)
                      clear HN0 h7
                      obtain ⟨X, hX⟩ : ∃ X, X = Obj.cells #[.int .u64 (p.n : Int), .int .i64 (8 : Int), .string p.s, .bool false] 36 := ⟨_, rfl⟩
                      have HXe := Lib.hid hX
                      clear hX
                      have hBX : Below w.heap.size w (wr.alloc X) := hB3.alloc hB3.size X
                      have HR7 := Lib.hid (HRD.out.below ((Below.refl _ _).alloc (Nat.le_refl _) X) hgl)
                      clear htx hs1
                      go_wp2_with fail
                      rw [← HXe.out]
                      refine (HN.out (wr.alloc X) HR7.out).mono ?_
                      rintro e w7 ⟨rfl, hr7, hg7⟩
                      go_wp2_with fail
                      go_roundw
                      case rel => exact ⟨j + 1, by omega, by go_num, hr7, hBX.grown hg7 hBX.size (fun g' h => by injection h with h; omega)⟩
                      case measure => simp [intOf]; omega
                  · have he : enc1 p = [] := by simp only [enc1, htx, putL]; rw [if_neg (by simp), if_neg hsz]
                    by_cases h1 : 1 ≤ p.size
                    · have h8 : 8 < p.size := by omega
                      clear hsz
                      obtain ⟨X, hX⟩ : ∃ X, X = Obj.cells #[.int .u64 (p.n : Int), .int .i64 p.size, .string p.s, .bool false] 36 := ⟨_, rfl⟩
                      have HXe := Lib.hid hX
                      clear hX
                      have hBX : Below w.heap.size w (wr.alloc X) := hB3.alloc hB3.size X
                      have HR7 := Lib.hid (HRD.out.below ((Below.refl _ _).alloc (Nat.le_refl _) X) hgl)
                      have HO := Lib.hid (off_same ps HP.out he)
                      clear he htx

                      go_wp2_with fail
                      rw [← HXe.out]
                      go_roundw
                      case rel => exact ⟨j + 1, by omega, by go_num, by rw [HO.out]; exact HR7.out, hBX⟩
                      case measure => simp [intOf]; omega
                    · clear hsz
                      obtain ⟨X, hX⟩ : ∃ X, X = Obj.cells #[.int .u64 (p.n : Int), .int .i64 p.size, .string p.s, .bool false] 36 := ⟨_, rfl⟩
                      have HXe := Lib.hid hX
                      clear hX
                      have hBX : Below w.heap.size w (wr.alloc X) := hB3.alloc hB3.size X
                      have HR7 := Lib.hid (HRD.out.below ((Below.refl _ _).alloc (Nat.le_refl _) X) hgl)
                      have HO := Lib.hid (off_same ps HP.out he)
                      clear he htx

                      go_wp2_with fail
                      rw [← HXe.out]
                      go_roundw
                      case rel => exact ⟨j + 1, by omega, by go_num, by rw [HO.out]; exact HR7.out, hBX⟩
                      case measure => simp [intOf]; omega
                · rw [htx] at c3'
                  by_cases hs : p.s.size ≤ 255
                  · have HT := Lib.hid fun w' h => text_round g ps L j k p w' HLe.out HP.out hjk h htx hs
                    clear htx
                    obtain ⟨X, hX⟩ : ∃ X, X = Obj.cells #[.int .u64 (p.n : Int), .int .i64 p.size, .string p.s, .bool true] 36 := ⟨_, rfl⟩
                    have HC2 := Lib.hid (show (wr.alloc X).cell? ⟨wr.heap.size, 2, none⟩ = some (.string p.s) by subst hX; simp)
                    have HXe := Lib.hid hX
                    clear hX
                    have HR7 := Lib.hid (HRD.out.below ((Below.refl _ _).alloc (Nat.le_refl _) X) hgl)
                    have hsI : (p.s.size : Int) ≤ 255 := by omega
                    have hzX : (wr.alloc X).heap.size = wr.heap.size + 1 := by simp
                    have HZX := Lib.hid hzX
                    clear hzX
                    go_wp2_with fail
                    rw [← HXe.out]
                    have c2x := HC2.out
                    go_region_held3 (fun w' => w'.cell? ⟨wr.heap.size, 2, none⟩ = some (.string p.s)) (go_keep)
                      (first
                        | (go_at_call 17; refine (HT.out ((wr.alloc X).drew) HR7.out).mono ?_; rintro e w7 ⟨rfl, hr7, hg7⟩; have k2 : w7.cell? ⟨wr.heap.size, 2, none⟩ = some (.string p.s) := (World.cell?_of_block (w := (wr.alloc X).drew) (a := ⟨wr.heap.size, 2, none⟩) (hg7.block wr.heap.size (lt_alloc wr X) (some_ne (Nat.ne_of_gt hgl)))).trans HC2.out)
                        | fail)
                    go_wp2_with fail
                    go_roundw
                    case rel => exact ⟨j + 1, by omega, by go_num, hr7, (hB3.alloc hB3.size X).drew.grown hg7 (Nat.le_trans hB3.size (Nat.le_of_lt (lt_alloc wr X))) (fun g' h => by injection h with h; omega)⟩
                    case measure => simp [intOf]; omega
                  · have he : enc1 p = [] := by simp [enc1, htx, textL, hs]
                    obtain ⟨X, hX⟩ : ∃ X, X = Obj.cells #[.int .u64 (p.n : Int), .int .i64 p.size, .string p.s, .bool true] 36 := ⟨_, rfl⟩
                    have HXe := Lib.hid hX
                    clear hX
                    have hBX : Below w.heap.size w (wr.alloc X) := hB3.alloc hB3.size X
                    have HR7 := Lib.hid (HRD.out.below ((Below.refl _ _).alloc (Nat.le_refl _) X) hgl)
                    have HO := Lib.hid (off_same ps HP.out he)
                    clear he htx
                    have hsI : (255 : Int) < (p.s.size : Int) := by omega
                    go_wp2_with fail
                    rw [← HXe.out]
                    go_roundw
                    case rel => exact ⟨j + 1, by omega, by go_num, by rw [HO.out]; exact HR7.out, hBX⟩
                    case measure => simp [intOf]; omega
              · obtain rfl : k = j := by omega
                have hoff : offL ps k = L.length := by rw [HLe.out]; rfl
                rw [hoff] at hrd3
                clear hoff
                have HRD := Lib.hid hrd3
                clear hrd3
                go_wp2_with fail
                refine (awake_true wr ((hB3.cell (p := gErr) (cell_size HG.out)).trans HG.out)).mono ?_
                rintro e w7 ⟨rfl, hb7⟩
                have HR7 := Lib.hid (HRD.out.below hb7 hgl)
                have hB7 := hB3.trans (hb7.mono hB3.size)
                clear hb7
                go_wp2_with fail
                refine (end_nil g L w7 HR7.out).mono ?_
                rintro e w' ⟨rfl, m, rfl⟩
                go_wp2_with fail
                refine (left_rd g L L.length .nilIface (w7.drewN m) HR7.out (Nat.le_refl _)).mono ?_
                rintro e w' ⟨rfl, m2, rfl⟩
                go_wp2_with fail
                refine (at_any g L.length L .nilIface (w7.drewN (m + m2)) HR7.out).mono ?_
                rintro e w' ⟨rfl, rfl⟩
                go_wp2_with fail
                go_ret
                exact ⟨rfl, below_drewN hB7 (m + m2)⟩
      · have hd : (k : Int) < ps.length := by omega
        have hd4 : (40 : Int) ≤ k := by omega
        go_wp2_with fail
        refine HR.out.mono ?_
        rintro e w1 ⟨g, Ar, cr, rfl, hg, hrd, hlo, hb1⟩
        have hok : OwnK w1 w.heap.size A3 L.length c3 := ⟨L, rfl, HO.out.below hb1⟩
        have hB1 : Below w.heap.size w w1 := hbel.trans (hb1.mono hB)
        have HLO := Lib.hid hlo
        have hgw : w.heap.size ≤ g := by omega
        clear hb1 hlo HO HS HR hbel
        go_wp2_with fail
        go_loopw [6] (fun i w2 => ∃ j : Nat, j ≤ L.length ∧ i = .int .i64 j ∧ OwnK w2 w.heap.size A3 L.length c3 ∧ RdAt w2 g Ar cr L 0 .nilIface ∧ Below w.heap.size w w2) (fun i _ => L.length - (intOf i).toNat)
        case atStart => exact ⟨0, Nat.zero_le _, rfl, hok, hrd, hB1⟩
        case round =>
          rename_i w2
          obtain ⟨j, hj, rfl, hok2, hrd2, hB2⟩ := hrel
          clear hok hrd hB1
          by_cases hlt : j < L.length
          · obtain ⟨g', x, rfl, hgb, hcell, hfr, hset⟩ := hok2.round hlt
            have HS := Lib.hid (hset 255)
            have hg' := (HOB.out g' rfl).2
            clear hset
            go_wp2_with fail
            go_roundw
            case rel => exact ⟨j + 1, by omega, by go_num, HS.out, hrd2.far hg HLO.out hg' _, hB2.setCell hgb _⟩
            case measure => simp [intOf]; omega
          · obtain rfl : L.length = j := by omega
            go_wp2_with fail
            go_loopw [7] (fun i w6 => ∃ j : Nat, j ≤ k ∧ i = .int .i64 j ∧ Rd w6 g L (offL ps j) .nilIface ∧ Below w.heap.size w w6) (fun i _ => k - (intOf i).toNat)
            case atStart => exact ⟨0, Nat.zero_le _, rfl, ⟨Ar, cr, hrd2⟩, hB2⟩
            case round =>
              clear hrd2 hB2 hok2
              rename_i w6
              obtain ⟨j, hj, rfl, hrd3, hB3⟩ := hrel
              have hgl := hrd3.lt
              by_cases hjk : j < k
              · have hjl : j < ps.length := by omega
                obtain ⟨b, o, rfl, hbb, c0, c1, c2, c3', hn⟩ := HB.out j hjl
                have hcw : ∀ i, wr.cell? ⟨b, i, none⟩ = w.cell? ⟨b, i, none⟩ := fun i => hB3.cell (p := ⟨b, i, none⟩) hbb
                rw [← hcw] at c0 c1 c2 c3'
                have hp := List.getElem?_eq_getElem hjl
                clear hcw
                generalize ps[j] = p at *
                have HP := Lib.hid hp
                have hj1 : (j : Int) < ps.length := by omega
                have hj2 : (j : Int) < 40 := by omega
                have HRD := Lib.hid hrd3
                clear hp hrd3
                cases htx : p.text
                · rw [htx] at c3'
                  by_cases hsz : 1 ≤ p.size ∧ p.size ≤ 8
                  · obtain ⟨s, hs1⟩ : ∃ s : Nat, p.size = s := ⟨p.size.toNat, by omega⟩
                    have h1 : 1 ≤ s := by omega
                    have h8 : s ≤ 8 := by omega
                    have HN0 := Lib.hid fun w' h => num_round g ps L j k s p w' HLe.out HP.out hjk h htx hs1 h1 h8
                    rw [hs1] at c1
                    clear hsz
                    have h1I : (1 : Int) ≤ s := by omega
                    have h8I : (s : Int) ≤ 8 := by omega
                    by_cases h7 : s < 8
                    · obtain ⟨P, hP⟩ : ∃ P : Nat, P = 256 ^ s := ⟨_, rfl⟩
                      have hP1 : P ≤ 256 ^ 7 := by rw [hP]; exact Nat.pow_le_pow_right (by decide) (by omega)
                      have hP0 : 0 < P := by rw [hP]; exact Nat.pow_pos (by decide)
                      have p3 : IntKind.u64.wrap (2 ^ (8 * (s : Int)).toNat) = (P : Int) := by
                        have e1 : (8 * (s : Int)).toNat = 8 * s := by omega
                        have e2 : (2 : Int) ^ (8 * s) = ((256 ^ s : Nat) : Int) := by
                          rw [Int.pow_mul]; push_cast; rfl
                        rw [e1, e2, ← hP, IntKind.wrap_u64]
                        omega
                      have p4 : (1 : Int) ≤ P := by omega
                      have p5 : (P : Int) ≤ 72057594037927936 := by omega
                      have HN := Lib.hid (show ∀ w', Rd w' g L (offL ps j) .nilIface → Calls Tryd.prog 18 #[.pointer (some ⟨g, 0, none⟩), .int .i64 s] w' fun e w'' => e = .returned (.int .u64 ((p.n : Int) % (P : Int))) ∧ Rd w'' g L (offL ps (j + 1)) .nilIface ∧ w'.grownBy w'' (some g) from fun w' h => by
                        refine (HN0.out w' h).mono fun e w'' hh => ?_
                        rw [← hP, Int.natCast_emod] at hh
                        exact hh)
                      have h7I : (s : Int) < 8 := by omega
                      clear hP hP1 HN0
                      obtain ⟨X, hX⟩ : ∃ X, X = Obj.cells #[.int .u64 (p.n : Int), .int .i64 (s : Int), .string p.s, .bool false] 36 := ⟨_, rfl⟩
                      have HXe := Lib.hid hX
                      clear hX
                      have hBX : Below w.heap.size w (wr.alloc X) := hB3.alloc hB3.size X
                      have HR7 := Lib.hid (HRD.out.below ((Below.refl _ _).alloc (Nat.le_refl _) X) hgl)
                      clear htx hs1
                      go_wp2_with fail
                      rw [← HXe.out]
                      refine (HN.out (wr.alloc X) HR7.out).mono ?_
                      rintro e w7 ⟨rfl, hr7, hg7⟩
                      go_wp2_with fail
                      go_roundw
                      case rel => exact ⟨j + 1, by omega, by go_num, hr7, hBX.grown hg7 hBX.size (fun g' h => by injection h with h; omega)⟩
                      case measure => simp [intOf]; omega
                    · obtain rfl : s = 8 := by omega
                      have HN := Lib.hid (show ∀ w', Rd w' g L (offL ps j) .nilIface → Calls Tryd.prog 18 #[.pointer (some ⟨g, 0, none⟩), .int .i64 (8 : Int)] w' fun e w'' => e = .returned (.int .u64 (p.n : Int)) ∧ Rd w'' g L (offL ps (j + 1)) .nilIface ∧ w'.grownBy w'' (some g) from fun w' h => by
                        refine (HN0.out w' h).mono fun e w'' hh => ?_
                        rw [show 256 ^ 8 = 18446744073709551616 from rfl, Nat.mod_eq_of_lt hn] at hh
                        exact hh)
                      clear HN0 h7
                      obtain ⟨X, hX⟩ : ∃ X, X = Obj.cells #[.int .u64 (p.n : Int), .int .i64 (8 : Int), .string p.s, .bool false] 36 := ⟨_, rfl⟩
                      have HXe := Lib.hid hX
                      clear hX
                      have hBX : Below w.heap.size w (wr.alloc X) := hB3.alloc hB3.size X
                      have HR7 := Lib.hid (HRD.out.below ((Below.refl _ _).alloc (Nat.le_refl _) X) hgl)
                      clear htx hs1
                      go_wp2_with fail
                      rw [← HXe.out]
                      refine (HN.out (wr.alloc X) HR7.out).mono ?_
                      rintro e w7 ⟨rfl, hr7, hg7⟩
                      go_wp2_with fail
                      go_roundw
                      case rel => exact ⟨j + 1, by omega, by go_num, hr7, hBX.grown hg7 hBX.size (fun g' h => by injection h with h; omega)⟩
                      case measure => simp [intOf]; omega
                  · have he : enc1 p = [] := by simp only [enc1, htx, putL]; rw [if_neg (by simp), if_neg hsz]
                    by_cases h1 : 1 ≤ p.size
                    · have h8 : 8 < p.size := by omega
                      clear hsz
                      obtain ⟨X, hX⟩ : ∃ X, X = Obj.cells #[.int .u64 (p.n : Int), .int .i64 p.size, .string p.s, .bool false] 36 := ⟨_, rfl⟩
                      have HXe := Lib.hid hX
                      clear hX
                      have hBX : Below w.heap.size w (wr.alloc X) := hB3.alloc hB3.size X
                      have HR7 := Lib.hid (HRD.out.below ((Below.refl _ _).alloc (Nat.le_refl _) X) hgl)
                      have HO := Lib.hid (off_same ps HP.out he)
                      clear he htx

                      go_wp2_with fail
                      rw [← HXe.out]
                      go_roundw
                      case rel => exact ⟨j + 1, by omega, by go_num, by rw [HO.out]; exact HR7.out, hBX⟩
                      case measure => simp [intOf]; omega
                    · clear hsz
                      obtain ⟨X, hX⟩ : ∃ X, X = Obj.cells #[.int .u64 (p.n : Int), .int .i64 p.size, .string p.s, .bool false] 36 := ⟨_, rfl⟩
                      have HXe := Lib.hid hX
                      clear hX
                      have hBX : Below w.heap.size w (wr.alloc X) := hB3.alloc hB3.size X
                      have HR7 := Lib.hid (HRD.out.below ((Below.refl _ _).alloc (Nat.le_refl _) X) hgl)
                      have HO := Lib.hid (off_same ps HP.out he)
                      clear he htx

                      go_wp2_with fail
                      rw [← HXe.out]
                      go_roundw
                      case rel => exact ⟨j + 1, by omega, by go_num, by rw [HO.out]; exact HR7.out, hBX⟩
                      case measure => simp [intOf]; omega
                · rw [htx] at c3'
                  by_cases hs : p.s.size ≤ 255
                  · have HT := Lib.hid fun w' h => text_round g ps L j k p w' HLe.out HP.out hjk h htx hs
                    clear htx
                    obtain ⟨X, hX⟩ : ∃ X, X = Obj.cells #[.int .u64 (p.n : Int), .int .i64 p.size, .string p.s, .bool true] 36 := ⟨_, rfl⟩
                    have HC2 := Lib.hid (show (wr.alloc X).cell? ⟨wr.heap.size, 2, none⟩ = some (.string p.s) by subst hX; simp)
                    have HXe := Lib.hid hX
                    clear hX
                    have HR7 := Lib.hid (HRD.out.below ((Below.refl _ _).alloc (Nat.le_refl _) X) hgl)
                    have hsI : (p.s.size : Int) ≤ 255 := by omega
                    have hzX : (wr.alloc X).heap.size = wr.heap.size + 1 := by simp
                    have HZX := Lib.hid hzX
                    clear hzX
                    go_wp2_with fail
                    rw [← HXe.out]
                    have c2x := HC2.out
                    go_region_held3 (fun w' => w'.cell? ⟨wr.heap.size, 2, none⟩ = some (.string p.s)) (go_keep)
                      (first
                        | (go_at_call 17; refine (HT.out ((wr.alloc X).drew) HR7.out).mono ?_; rintro e w7 ⟨rfl, hr7, hg7⟩; have k2 : w7.cell? ⟨wr.heap.size, 2, none⟩ = some (.string p.s) := (World.cell?_of_block (w := (wr.alloc X).drew) (a := ⟨wr.heap.size, 2, none⟩) (hg7.block wr.heap.size (lt_alloc wr X) (some_ne (Nat.ne_of_gt hgl)))).trans HC2.out)
                        | fail)
                    go_wp2_with fail
                    go_roundw
                    case rel => exact ⟨j + 1, by omega, by go_num, hr7, (hB3.alloc hB3.size X).drew.grown hg7 (Nat.le_trans hB3.size (Nat.le_of_lt (lt_alloc wr X))) (fun g' h => by injection h with h; omega)⟩
                    case measure => simp [intOf]; omega
                  · have he : enc1 p = [] := by simp [enc1, htx, textL, hs]
                    obtain ⟨X, hX⟩ : ∃ X, X = Obj.cells #[.int .u64 (p.n : Int), .int .i64 p.size, .string p.s, .bool true] 36 := ⟨_, rfl⟩
                    have HXe := Lib.hid hX
                    clear hX
                    have hBX : Below w.heap.size w (wr.alloc X) := hB3.alloc hB3.size X
                    have HR7 := Lib.hid (HRD.out.below ((Below.refl _ _).alloc (Nat.le_refl _) X) hgl)
                    have HO := Lib.hid (off_same ps HP.out he)
                    clear he htx
                    have hsI : (255 : Int) < (p.s.size : Int) := by omega
                    go_wp2_with fail
                    rw [← HXe.out]
                    go_roundw
                    case rel => exact ⟨j + 1, by omega, by go_num, by rw [HO.out]; exact HR7.out, hBX⟩
                    case measure => simp [intOf]; omega
              · obtain rfl : k = j := by omega
                have hoff : offL ps k = L.length := by rw [HLe.out]; rfl
                rw [hoff] at hrd3
                clear hoff
                have HRD := Lib.hid hrd3
                clear hrd3
                go_wp2_with fail
                refine (awake_true wr ((hB3.cell (p := gErr) (cell_size HG.out)).trans HG.out)).mono ?_
                rintro e w7 ⟨rfl, hb7⟩
                have HR7 := Lib.hid (HRD.out.below hb7 hgl)
                have hB7 := hB3.trans (hb7.mono hB3.size)
                clear hb7
                go_wp2_with fail
                refine (end_nil g L w7 HR7.out).mono ?_
                rintro e w' ⟨rfl, m, rfl⟩
                go_wp2_with fail
                refine (left_rd g L L.length .nilIface (w7.drewN m) HR7.out (Nat.le_refl _)).mono ?_
                rintro e w' ⟨rfl, m2, rfl⟩
                go_wp2_with fail
                refine (at_any g L.length L .nilIface (w7.drewN (m + m2)) HR7.out).mono ?_
                rintro e w' ⟨rfl, rfl⟩
                go_wp2_with fail
                go_ret
                exact ⟨rfl, below_drewN hB7 (m + m2)⟩
end Go.Proofs.YthfmacmchiidlaaDoor
