/-
  The law's text, by its contract. Conditions: the theorem's own premises.
-/
import Derived.Test.YthfbmihpdkkcjaaDoorGramFew
import Derived.Test.YthfbmihpdkkcjaaDoorOctetMk
import Derived.BigQuiet
import Derived.Deep.RegionHeld
namespace Go.Proofs.YthfbmihpdkkcjaaDoor
open Go.RowKit

/-- what text answers: where it is true, a text that is derived, and choices that are left, of those that came in -/
def TextP (w : World) (B : Nat) (G : Gm) (X : Int) (e : Ending) (w' : World) : Prop := ∃ v u ok, e = .returned (.tuple #[v, u, .bool ok]) ∧ Below w.heap.size w w' ∧
  (ok = true → ∃ (t : List UInt8) (C : Option Addr) (cl : List UInt8) (m cq : Nat), Own w' w.heap.size 5 v t ∧ t.length ≤ 100 ∧ u = .slice C m cq ∧ Bs w B C cl ∧ cl.length = m ∧ m ≤ cq ∧ m ≤ 1000 ∧ Der G [⟨X, 0, 0⟩] (toN t))
theorem sg_at {w : World} {B : Nat} {A : Option Addr} {l : List Sg} (h : Vs w B A (svs l)) {j : Nat} (hj : j < l.length) : ∃ b o s, A = some ⟨b, o, none⟩ ∧ b < B ∧ l[j]? = some s ∧
    ∀ W, Below B w W → W.cell? ⟨b, o + j * 3, none⟩ = some (.int .i64 s.n) ∧ W.cell? ⟨b, o + j * 3 + 1, none⟩ = some (.int .u8 (s.lo : Int)) ∧ W.cell? ⟨b, o + j * 3 + 2, none⟩ = some (.int .u8 (s.hi : Int)) := by
  obtain ⟨b, o, e, hb, hc⟩ := h (by rw [svs_length]; omega)
  have hg : l.getD j ⟨0, 0, 0⟩ = l[j] := by rw [List.getD_eq_getElem?_getD, List.getElem?_eq_getElem hj]; rfl
  refine ⟨b, o, l[j], e, hb, List.getElem?_eq_getElem hj, fun W hW => ?_⟩
  have c0 := hc _ _ (svs_get (l := l) (j := j) (t := 0) hj (by rw [hg]; rfl))
  have c1 := hc _ _ (svs_get (l := l) (j := j) (t := 1) hj (by rw [hg]; rfl))
  have c2 := hc _ _ (svs_get (l := l) (j := j) (t := 2) hj (by rw [hg]; rfl))
  exact ⟨(hW.cell (p := ⟨b, o + j * 3, none⟩) hb).trans c0, (hW.cell (p := ⟨b, o + j * 3 + 1, none⟩) hb).trans (by rw [Nat.add_assoc]; exact c1), (hW.cell (p := ⟨b, o + j * 3 + 2, none⟩) hb).trans (by rw [Nat.add_assoc]; exact c2)⟩
theorem fm_at {w : World} {B : Nat} {A : Option Addr} {L : List FmV} (h : Vs w B A (fvs L)) {j : Nat} (hj : j < L.length) : ∃ b o x, A = some ⟨b, o, none⟩ ∧ b < B ∧ L[j]? = some x ∧
    ∀ W, Below B w W → W.cell? ⟨b, o + j * 2, none⟩ = some (.int .i64 x.f.n) ∧ W.cell? ⟨b, o + j * 2 + 1, none⟩ = some (.slice x.A x.f.b.length x.c) := by
  obtain ⟨b, o, e, hb, hc⟩ := h (by rw [fvs_length]; omega)
  have hx := List.getElem?_eq_getElem hj
  refine ⟨b, o, L[j], e, hb, hx, fun W hW => ?_⟩
  have c0 := hc _ _ (fvs_get hx (t := 0) rfl)
  have c1 := hc _ _ (fvs_get hx (t := 1) rfl)
  exact ⟨(hW.cell (p := ⟨b, o + j * 2, none⟩) hb).trans c0, (hW.cell (p := ⟨b, o + j * 2 + 1, none⟩) hb).trans (by rw [Nat.add_assoc]; exact c1)⟩
/-- text on its way through a body -/
structure TxAt (w wz : World) (B : Nat) (G : Gm) (A : Option Addr) (n c : Nat) (x : FmV) (k : Nat) (v : Value) (t : List UInt8) (C2 : Option Addr) (cl2 : List UInt8) (m2 cq2 : Nat) : Prop where
  b0 : Blk wz w.heap.size 25 #[.int .i64 G.k, .slice A n c]
  own : Own wz (w.heap.size + 1) 5 v t
  len : t.length ≤ 60 + k
  der : Der G (x.f.b.take k) (toN t)
  bel : Below w.heap.size w wz
  siz : w.heap.size + 1 ≤ wz.heap.size
  cs : Bs w B C2 cl2
  cm : cl2.length = m2
  cc : m2 ≤ cq2
  c9 : m2 ≤ 1000
theorem TxAt.drewN {w wz : World} {B : Nat} {G : Gm} {A : Option Addr} {n c : Nat} {x : FmV} {k : Nat} {v : Value} {t : List UInt8} {C2 : Option Addr} {cl2 : List UInt8} {m2 cq2 : Nat} (h : TxAt w wz B G A n c x k v t C2 cl2 m2 cq2) (j : Nat) : TxAt w (wz.drewN j) B G A n c x k v t C2 cl2 m2 cq2 :=
  ⟨h.b0.drewN j, h.own.drewN j, h.len, h.der, below_drewN h.bel j, h.siz, h.cs, h.cm, h.cc, h.c9⟩
theorem TxAt.below {w wz W' : World} {B : Nat} {G : Gm} {A : Option Addr} {n c : Nat} {x : FmV} {k : Nat} {v : Value} {t : List UInt8} {C2 : Option Addr} {cl2 : List UInt8} {m2 cq2 : Nat} (h : TxAt w wz B G A n c x k v t C2 cl2 m2 cq2) (hb : Below wz.heap.size wz W') : TxAt w W' B G A n c x k v t C2 cl2 m2 cq2 :=
  ⟨h.b0.below hb h.b0.lt, h.own.below hb, h.len, h.der, h.bel.trans (hb.mono h.bel.size), Nat.le_trans h.siz hb.size, h.cs, h.cm, h.cc, h.c9⟩
/-- choices without the first one -/
theorem bs_tail {w : World} {B b o : Nat} {l : List UInt8} (h : Bs w B (some ⟨b, o, none⟩) l) : Bs w B (some ⟨b, o + 1, none⟩) (l.drop 1) := by
  have := h.cut 1 l.length (Nat.le_refl _)
  rwa [List.take_of_length_le (Nat.le_refl _)] at this
theorem bs_tail1 {w : World} {B : Nat} {l : List UInt8} (h1 : l.length ≤ 1) (C : Option Addr) : Bs w B C (l.drop 1) := by
  have e : l.drop 1 = [] := List.drop_of_length_le h1
  rw [e]
  exact Bs.nil_
theorem u8_small (n : Nat) (h : n < 256) : IntKind.u8.wrap (n : Int) = (n : Int) := by
  have e : IntKind.u8.wrap (n : Int) = (n : Int) % 256 := by simp [IntKind.wrap, IntKind.bits, IntKind.signed]
  rw [e]
  omega
theorem wp_append_b {P : Program} (w : World) {o : Oper} {a : Act} {K : Act → World → Prop} {Q : Exit → Act → World → Prop} (s x : Operand) (t : TypeId)
    (ho : o.op = .call { callee := .builtin .append, args := #[s, x], argTypes := #[t, t] })
    (base : Nat) (e : TypeId) (i : TypeInfo) (z : Value) (ht : P.underlying t = some (.slice e)) (hi : P.info? e = some i) (hz : i.zero = some z)
    (hsize : i.size = 1) (hby : i.bytes = 1) (hzs : z.cells.size = 1)
    (v : Value) (l : List UInt8) (hs : a.eval s = v) (hown : Own w base e v l)
    (B : Nat) (A : Option Addr) (c n : Nat) (m : List UInt8) (hm : m.length = n) (hx : a.eval x = .slice A n c) (hr : Bs w B A m)
    (hbytes : l.length + m.length ≤ 140737488355328) (hbase : base ≤ w.heap.size)
    (h : ∀ v' w', Own w' base e v' (l ++ m) → w.grownBy w' v.ownBlock → (v'.ownBlock = v.ownBlock ∨ v'.ownBlock = some w.heap.size) → K (a.put o.dst v') w') : o.wp P a w K Q := by
  subst hm
  obtain ⟨v', w', hr, h2, h3, h4⟩ := run_append_bytes (P := P) w base t o.type e i z ht hi hz hsize hby hzs v l hown B A c m hr hbytes hbase
  unfold Oper.wp execOp
  simp only [ho, resolve, invoke, builtin, Sem.run_bind, Sem.run_pure, Result.andThen_ok, List.map_toArray, List.map_cons, List.map_nil, hs, hx, hr]
  exact h v' w' h2 h3 h4
theorem tmod_nat (a b : Nat) : ((a : Int)).tmod (b : Int) = ((a % b : Nat) : Int) := by rw [Int.tmod_eq_emod_of_nonneg (by omega)]; omega

theorem der_same {g : Gm} {X : Int} {t : List Nat} (h : Der g [⟨X, 0, 0⟩] t) (hX : 0 ≤ X) {s : Sg} (hs : s.n = X) : Der g [s] t := by
  obtain ⟨f, u, v, rfl, hf, hn, hu, hv⟩ := der_name h rfl hX
  exact .name (by omega) hf (hn.trans hs.symm) hu hv
theorem toN_app (a b : List UInt8) : toN (a ++ b) = toN a ++ toN b := by simp [toN]
def TextAt (d : Nat) : Prop := ∀ (w : World) (B : Nat) (G : Gm) (A : Option Addr) (L : List FmV) (n c : Nat) (X : Int) (C : Option Addr) (cl : List UInt8) (m cq : Nat) (depth : Nat),
    GmAt w B A L G → L.length = n → SmallG G → B ≤ w.heap.size → 0 ≤ X → Bs w B C cl → cl.length = m → m ≤ cq → m ≤ 1000 → depth + d = 21 →
    Calls Tryd.prog 9 #[gmv G.k A n c, .int .i64 X, .slice C m cq, .int .i64 (depth : Int)] w (TextP w B G X)

set_option maxRecDepth 100000 in
set_option maxHeartbeats 8000000 in
set_option linter.unusedSimpArgs false in
theorem gmText1 (d : Nat) (ih : ∀ d', d = d' + 1 → TextAt d') : TextAt d := by
  intro w B G A L n c X C cl m cq depth hA hn hsm hB hX hC hm hmc hm1 hd
  obtain ⟨i1, hi0, hz0, hz1, hz2⟩ := info_parts fm_info
  obtain ⟨i2, hu0, hu1, hu2, hu3⟩ := info_parts u8info
  have hn50 : n ≤ 50 := by have := hsm.1; rw [hA.len] at this; omega
  have H := Lib.hid (And.intro hA (And.intro hn (And.intro hsm (And.intro hB (And.intro hX (And.intro hC (And.intro hm (And.intro hmc hm1))))))))
  have IH := Lib.hid ih
  clear hA hn hsm hB hX hC hm ih
  unfold gmv
  go_enter Tryd.func9, Tryd.ntmps9
  go_wp2_with (first
    | (refine wpList_box rfl 25 (.tmp 0) rfl #[.int .i64 G.k, .slice A n c] rfl ?_; intro w1 hb1 hw1 hz1)
    | fail)
  have hs1 : w.heap.size + 1 ≤ w1.heap.size := by omega
  have H1 := Lib.hid (And.intro hb1 (And.intro hw1 hs1))
  clear hb1 hw1 hz1 hs1
  go_loopw [11, 12] (fun v u wz => ∃ (i : Nat) (A1 : Option Addr) (c1 : Nat) (Lx : List FmV), i ≤ n ∧ u = .int .i64 (i : Int) ∧ v = .slice A1 Lx.length c1 ∧ Lx.length ≤ i ∧ Blk wz w.heap.size 25 #[.int .i64 G.k, .slice A n c] ∧ wz.ownsRow (w.heap.size + 1) 46 2 (.slice A1 Lx.length c1) Lx.length (fvs Lx) ∧ (∀ x ∈ Lx, x ∈ L ∧ x.f.n = X) ∧ Below w.heap.size w wz ∧ w.heap.size + 1 ≤ wz.heap.size) (fun _ u _ => n - (intOf u).toNat)
  case atStart => exact ⟨0, none, 0, [], by omega, rfl, rfl, Nat.le_refl _, H1.out.1, row_nil _ _ _ _, (fun _ h => by cases h), H1.out.2.1, H1.out.2.2⟩
  case round =>
    obtain ⟨i, A1, c1, Lx, hin, rfl, rfl, hLi, kb0, hrow, hLx, hbel, hbs⟩ := hrel
    obtain ⟨q, eq⟩ : ∃ q, Lx.length = q := ⟨_, rfl⟩
    rw [eq] at hLi hrow ⊢
    have m1 : wr.cell? ⟨w.heap.size, 1, none⟩ = some (.slice A n c) := by rw [kb0.cell]; rfl
    by_cases hlt : i < n
    · have hin' : (i : Int) < (n : Int) := by omega
      have hi0' : (0 : Int) ≤ (i : Int) := by omega
      obtain ⟨b, o, x, rfl, hbB, hx, hce⟩ := fm_at H.out.1.vs (j := i) (by rw [H.out.2.1]; exact hlt)
      have hBw : Below B w wr := hbel.mono H.out.2.2.2.1
      obtain ⟨fn, efn⟩ : ∃ z, x.f.n = z := ⟨_, rfl⟩
      have d0 := (hce wr hBw).1
      have d1 := (hce wr hBw).2
      rw [efn] at d0
      have HI := Lib.hid (And.intro kb0 (And.intro hrow (And.intro hLx (And.intro hbel (And.intro hbs (And.intro eq (And.intro hx efn)))))))
      clear kb0 hrow hLx hbel hbs hce hBw eq hx efn
      by_cases hfx : fn = X
      · subst hfx
        go_wp2_with (first
          | (at_builtin; refine wpList_append_row _ rfl (.tmp 35) (.tmp 41) 23 rfl (w.heap.size + 1) 46 i1 _ 2 32 Tryd.underlying23 hi0 hz0 hz1 hz2 rfl (by decide) (.slice A1 q c1) q (fvs Lx) rfl (row_alloc HI.out.2.1 _) (wr.heap.size + 1) (some ⟨wr.heap.size, 0, none⟩) 1 1 [.int .i64 fn, .slice x.A x.f.b.length x.c] rfl (vs_of_blk (Blk.new wr 46 #[.int .i64 fn, .slice x.A x.f.b.length x.c]) (Nat.lt_succ_self _)) rfl (two_one _ _ _ _) (by omega) (by unfold maxLen; omega) (by have := HI.out.2.2.2.2.1; rw [sizeAl]; omega) ?_; intro v9 w9 hown9 hg9 hb9)
          | fail)
        have hlr := World.ownsRow.lt (row_alloc HI.out.2.1 (.cells #[.int .i64 fn, .slice x.A x.f.b.length x.c] 46))
        have q0 := (HI.out.1.alloc (.cells #[.int .i64 fn, .slice x.A x.f.b.length x.c] 46)).grown hg9 (fun e => by have := (hlr _ e.symm).1; omega)
        have q3 := (HI.out.2.2.2.1.alloc HI.out.2.2.2.1.size (.cells #[.int .i64 fn, .slice x.A x.f.b.length x.c] 46)).grown hg9 (by rw [sizeAl]; have := HI.out.2.2.2.2.1; omega) (fun j e => by have := (hlr j e).1; omega)
        have q4 : w.heap.size + 1 ≤ w9.heap.size := by have h1 := hg9.size; rw [sizeAl] at h1; have := HI.out.2.2.2.2.1; omega
        have e9 : fvs Lx ++ [Value.int .i64 fn, .slice x.A x.f.b.length x.c] = fvs (Lx ++ [x]) := by
          rw [fvs_append, ← HI.out.2.2.2.2.2.2.2]
          rfl
        rw [e9] at hown9
        obtain ⟨A9, c9, rfl, _, _, _, _⟩ := vs_of_row hown9
        have hl9 : (Lx ++ [x]).length = q + 1 := by rw [List.length_append, HI.out.2.2.2.2.2.1]; rfl
        go_roundw
        case rel => exact ⟨i + 1, A9, c9, Lx ++ [x], by omega, by go_num, by rw [hl9], by rw [hl9]; omega, q0, by rw [hl9]; exact hown9, (fun y hy => by
          rcases List.mem_append.1 hy with hy | hy
          · exact HI.out.2.2.1 y hy
          · rw [List.mem_singleton.1 hy]; exact ⟨List.mem_of_getElem? HI.out.2.2.2.2.2.2.1, HI.out.2.2.2.2.2.2.2⟩), q3, q4⟩
        case measure => simp only [intOf]; omega
      · have hfb : (fn == X) = false := by rw [beq_eq_false_iff_ne]; exact hfx
        go_wp2_with fail
        go_roundw
        case rel => exact ⟨i + 1, A1, c1, Lx, by omega, by go_num, by rw [HI.out.2.2.2.2.2.1], by rw [HI.out.2.2.2.2.2.1]; omega, HI.out.1, by rw [HI.out.2.2.2.2.2.1]; exact HI.out.2.1, HI.out.2.2.1, HI.out.2.2.2.1, HI.out.2.2.2.2.1⟩
        case measure => simp only [intOf]; omega
    · have hni : ¬ (i : Int) < (n : Int) := by omega
      have HI := Lib.hid (And.intro kb0 (And.intro hrow (And.intro hLx (And.intro hbel (And.intro hbs eq)))))
      clear kb0 hrow hLx hbel hbs eq
      by_cases hq0 : q = 0
      · have hqb : ((q : Int) == 0) = true := by rw [hq0]; rfl
        go_wp2_with fail
        go_ret3
        exact ⟨_, _, _, rfl, HI.out.2.2.2.1, (fun h => by cases h)⟩
      have hqb : ((q : Int) == 0) = false := by rw [beq_eq_false_iff_ne]; omega
      by_cases hm0 : m = 0
      · have hmb : ((m : Int) == 0) = true := by rw [hm0]; rfl
        go_wp2_with fail
        go_ret3
        exact ⟨_, _, _, rfl, HI.out.2.2.2.1, (fun h => by cases h)⟩
      have hmb : ((m : Int) == 0) = false := by rw [beq_eq_false_iff_ne]; omega
      by_cases hd20 : (depth : Int) > 20
      · go_wp2_with fail
        go_ret3
        exact ⟨_, _, _, rfl, HI.out.2.2.2.1, (fun h => by cases h)⟩
      obtain ⟨d', ed⟩ : ∃ d', d = d' + 1 := ⟨d - 1, by omega⟩
      subst ed
      have IH' := Lib.hid (IH.out d' rfl)
      have hBw : Below B w wr := HI.out.2.2.2.1.mono H.out.2.2.2.1
      obtain ⟨bc, oc, rfl, hbc, hcc⟩ := H.out.2.2.2.2.2.1.at_ (k := 0) (by rw [H.out.2.2.2.2.2.2.1]; omega)
      have k0 := (hBw.cell (p := ⟨bc, oc + 0, none⟩) hbc).trans hcc
      rw [Nat.add_zero] at k0
      obtain ⟨cz, ecz⟩ : ∃ z, (cl[0]'(by rw [H.out.2.2.2.2.2.2.1]; omega)).toNat = z := ⟨_, rfl⟩
      rw [ecz] at k0
      have hcz : cz < 256 := by rw [← ecz]; exact UInt8.toNat_lt _
      have hczi : (cz : Int) < 256 := by omega
      obtain ⟨j, ej⟩ : ∃ j, cz % q = j := ⟨_, rfl⟩
      have hmod := tmod_nat cz q
      rw [ej] at hmod
      have hjq : j < q := by rw [← ej]; exact Nat.mod_lt _ (by omega)
      have hj0 : (0 : Int) ≤ (j : Int) := by omega
      have hji : (j : Int) < (q : Int) := by omega
      obtain ⟨A9, c9, e9, _, _, hvs, _⟩ := vs_of_row HI.out.2.1
      cases e9
      obtain ⟨bf, of, x, rfl, hbf, hx, hce⟩ := fm_at hvs (j := j) (by rw [HI.out.2.2.2.2.2]; exact hjq)
      have d1 := (hce wr (Below.refl _ _)).2
      have hxL := HI.out.2.2.1 x (List.mem_of_getElem? hx)
      have hbx := H.out.1.bs x hxL.1
      obtain ⟨xl, exl⟩ : ∃ z, x.f.b.length = z := ⟨_, rfl⟩
      rw [exl] at d1
      obtain ⟨xA, exA⟩ : ∃ z, x.A = z := ⟨_, rfl⟩
      rw [exA] at d1
      have hxl9 : xl ≤ 9 := by rw [← exl]; exact H.out.2.2.1.2 x.f (by rw [← H.out.1.fs]; exact List.mem_map_of_mem hxL.1)
      have HX := Lib.hid (And.intro hxL (And.intro hbx (And.intro exl exA)))
      have hc1 : (1 : Int) ≤ (m : Int) := by omega
      have hc2 : (1 : Int) ≤ (cq : Int) := by omega
      have hownE : Own wr (w.heap.size + 1) 5 (.slice none 0 0) [] := Own.nil_ _ _ _
      have HT1 := Lib.hid (fun (C2 : Option Addr) (cl2 : List UInt8) (m2 cq2 : Nat) (h1 : Bs w B C2 cl2) (h2 : cl2.length = m2) (h3 : m2 ≤ cq2) (h4 : m2 ≤ 1000) => TxAt.mk (w := w) (wz := wr) (x := x) (k := 0) (t := []) HI.out.1 hownE (by simp) (by rw [List.take_zero]; exact Der.nil) HI.out.2.2.2.1 HI.out.2.2.2.2.1 h1 h2 h3 h4)
      have hx9 : x.f ∈ G.fs := by rw [← H.out.1.fs]; exact List.mem_map_of_mem hxL.1
      have HXF := Lib.hid hx9
      clear hvs hce hBw hcc hx ecz ej hxL hbx exl exA hownE hx9
      go_wp2_with fail
      all_goals
        go_loopw [2, 14, 15] (fun z v u wz => ∃ (k : Nat) (t : List UInt8) (C2 : Option Addr) (cl2 : List UInt8) (m2 cq2 : Nat), k ≤ xl ∧ u = .int .i64 (k : Int) ∧ z = .slice C2 m2 cq2 ∧ TxAt w wz B G A n c x k v t C2 cl2 m2 cq2) (fun _ _ u _ => xl - (intOf u).toNat)
        case atStart =>
          have hbs0 := H.out.2.2.2.2.2.1
          have hlc := H.out.2.2.2.2.2.2.1
          refine ⟨0, [], _, cl.drop 1, m - 1, _, Nat.zero_le _, rfl, rfl, HT1.out _ _ _ _ ?_ (by rw [List.length_drop, hlc]) (by omega) (by omega)⟩
          first
            | exact bs_tail hbs0
            | exact bs_tail1 (by rw [hlc]; omega) _
        case round =>
          obtain ⟨k, t, C2, cl2, m2, cq2, hk, rfl, rfl, hT⟩ := hrel
          obtain ⟨Ao, co, rfl, hto, hco, _, _⟩ := hT.own.slice_cap
          obtain ⟨tl, etl⟩ : ∃ z, t.length = z := ⟨_, rfl⟩
          rw [etl]
          rw [etl] at hT
          by_cases hlt2 : k < xl
          · have hki : (k : Int) < (xl : Int) := by omega
            have hk0 : (0 : Int) ≤ (k : Int) := by omega
            obtain ⟨bs, os, s, eA, hbsB, hsk, hse⟩ := sg_at HX.out.2.1.vs (j := k) (by rw [HX.out.2.2.1]; exact hlt2)
            obtain rfl := HX.out.2.2.2.symm.trans eA
            have hBw : Below B w wr := hT.bel.mono H.out.2.2.2.1
            obtain ⟨sn, esn⟩ : ∃ z, s.n = z := ⟨_, rfl⟩
            obtain ⟨lo, elo⟩ : ∃ z, s.lo = z := ⟨_, rfl⟩
            obtain ⟨hi, ehi⟩ : ∃ z, s.hi = z := ⟨_, rfl⟩
            rw [esn, elo, ehi] at hse
            obtain ⟨e0, e1, e2⟩ := hse wr hBw
            have hsok : SgOk s := HX.out.2.1.ok.2 s (List.mem_of_getElem? hsk)
            have hlo9 : lo < 256 := by rw [← elo]; exact hsok.2.1
            have hhi9 : hi < 256 := by rw [← ehi]; exact hsok.2.2
            have hloi : (lo : Int) < 256 := by omega
            have hhii : (hi : Int) < 256 := by omega
            have g1 : wr.cell? ⟨w.heap.size, 1, none⟩ = some (.slice A n c) := by rw [hT.b0.cell]; rfl
            have g0 : wr.cell? ⟨w.heap.size, 0, none⟩ = some (.int .i64 G.k) := by rw [hT.b0.cell]; rfl
            have htk : x.f.b.take (k + 1) = x.f.b.take k ++ [s] := by
              obtain ⟨hl', ex⟩ := List.getElem?_eq_some_iff.1 hsk
              rw [List.take_succ_eq_append_getElem hl', ex]
            have HS := Lib.hid (And.intro hse (And.intro htk (And.intro esn (And.intro elo (And.intro ehi (And.intro etl (hsok.1)))))))
            have HT := Lib.hid hT
            clear hse hsk esn elo ehi hsok hBw hT htk etl hto hco
            by_cases hsn : sn < 0
            · by_cases hm2 : m2 = 0
              · have hm2b : ((m2 : Int) == 0) = true := by rw [hm2]; rfl
                go_wp2_with fail
                go_quiet (fail)
                go_wp2_with fail
                go_ret3
                exact ⟨_, _, _, rfl, below_drewN HT.out.bel _, (fun h => by cases h)⟩
              · have hm2b : ((m2 : Int) == 0) = false := by rw [beq_eq_false_iff_ne]; omega
                by_cases hlh : lo > hi
                · have hlhi : decide ((lo : Int) > (hi : Int)) = true := by rw [decide_eq_true_iff]; omega
                  go_wp2_with fail
                  go_quiet (fail)
                  go_wp2_with fail
                  go_ret3
                  exact ⟨_, _, _, rfl, below_drewN HT.out.bel _, (fun h => by cases h)⟩
                · have hlhi : decide ((lo : Int) > (hi : Int)) = false := by rw [decide_eq_false_iff_not]; omega
                  go_wp2_with fail
                  go_quiet (fail)
                  go_wp2_with fail
                  obtain ⟨w5, ew5⟩ : ∃ W, wr.drewN nq = W := ⟨_, rfl⟩
                  have hT5 := HT.out.drewN nq
                  have e15 : (wr.drewN nq).cell? ⟨bs, os + k * 3 + 1, none⟩ = some (.int .u8 (lo : Int)) := e1
                  have e25 : (wr.drewN nq).cell? ⟨bs, os + k * 3 + 2, none⟩ = some (.int .u8 (hi : Int)) := e2
                  rw [ew5] at hT5 e15 e25 ⊢
                  have H5 := Lib.hid hT5
                  clear hT5 ew5
                  go_quiet (fail)
                  skip
                  obtain ⟨wd, ewd⟩ : ∃ z, hi + 1 - lo = z := ⟨_, rfl⟩
                  rw [show (hi : Int) - (lo : Int) + 1 = (wd : Int) by omega]
                  have hT6 := H5.out.drewN nq
                  obtain ⟨w6, ew6⟩ : ∃ W, w5.drewN nq = W := ⟨_, rfl⟩
                  rw [ew6] at hT6 ⊢
                  have H6 := Lib.hid hT6
                  clear hT6 ew6 e15 e25 e0 e1 e2 g0 g1
                  obtain ⟨b2, o2, rfl, hb2, hc2'⟩ := H6.out.cs.at_ (k := 0) (by rw [H6.out.cm]; omega)
                  obtain ⟨cz2, ecz2⟩ : ∃ z, (cl2[0]'(by rw [H6.out.cm]; omega)).toNat = z := ⟨_, rfl⟩
                  rw [ecz2, Nat.add_zero] at hc2'
                  have hcz2 : cz2 < 256 := by rw [← ecz2]; exact UInt8.toNat_lt _
                  obtain ⟨r2, er2⟩ : ∃ z, cz2 % wd = z := ⟨_, rfl⟩
                  have hrm := tmod_nat cz2 wd
                  rw [er2] at hrm
                  have hr2 : r2 < wd := by rw [← er2]; exact Nat.mod_lt _ (by omega)
                  obtain ⟨y, ey⟩ : ∃ z, lo + r2 = z := ⟨_, rfl⟩
                  have hy256 : y < 256 := by omega
                  have hbB2 : B ≤ w.heap.size := H.out.2.2.2.1
                  have fLo : ∀ W, Below w.heap.size w W → W.cell? ⟨bs, os + k * 3 + 1, none⟩ = some (.int .u8 (lo : Int)) := fun W h => (HS.out.1 W (h.mono hbB2)).2.1
                  have fCz : ∀ W, Below w.heap.size w W → W.cell? ⟨b2, o2, none⟩ = some (.int .u8 (cz2 : Int)) := fun W h => (h.cell (p := ⟨b2, o2, none⟩) (by show b2 < w.heap.size; omega)).trans hc2'
                  have u1 : IntKind.u8.wrap (r2 : Int) = (r2 : Int) := u8_small r2 (by omega)
                  have u2 : IntKind.u8.wrap ((lo : Int) + (r2 : Int)) = (y : Int) := by rw [show (lo : Int) + (r2 : Int) = ((y : Nat) : Int) by omega]; exact u8_small y hy256
                  have u3 : IntKind.i64.wrap (cz2 : Int) = (cz2 : Int) := by rw [IntWalk.i64_left]; unfold wrap64; omega
                  have hm2i : (0 : Int) < (m2 : Int) := by omega
                  have hm2n : 0 < m2 := by omega
                  have hwdn : ¬ wd = 0 := by omega
                  have hwdb : ((wd : Int) == 0) = false := by rw [beq_eq_false_iff_ne]; omega
                  have HY := Lib.hid (And.intro ey (And.intro hy256 (And.intro hr2 ewd)))
                  clear ey hy256 hr2 ewd er2 ecz2 hcz2 hc2'
                  go_wp2_with fail
                  have hS0 : (fun W : World => Below w.heap.size w W) w6.drew := H6.out.bel.drew
                  refine wp_region_held_drew (S := fun W => Below w.heap.size w W) (by kernel_rfl) hS0 (fun hHeld => ?_)
                  refine wpAnyH_take (i := 0) (v := ?_) (List.getElem?_toArray.trans (List.getElem?_cons_zero)) (by kernel_rfl) (by kernel_rfl) (by kernel_rfl) (fun _ _ _ h => h) (Or.inl ⟨by rfl, ?_⟩) (by assumption) ?_
                  rotate_left
                  · intro w' hSw; (try dsimp only at hSw); go_simp; try with_reducible rfl
                  try simp only [Act.put, List.setIfInBounds_toArray, List.set_cons_zero, List.set_cons_succ]
                  refine wpAnyH_take (i := 1) (v := ?_) (List.getElem?_toArray.trans (List.getElem?_cons_succ.trans (List.getElem?_cons_zero))) (by kernel_rfl) (by kernel_rfl) (by kernel_rfl) (fun _ _ _ h => h) (Or.inl ⟨by rfl, ?_⟩) (by assumption) ?_
                  rotate_left
                  · intro w' hSw; (try dsimp only at hSw); go_simp; try with_reducible rfl
                  try simp only [Act.put, List.setIfInBounds_toArray, List.set_cons_zero, List.set_cons_succ]
                  refine wpAnyH_take (i := 2) (v := ?_) (List.getElem?_toArray.trans (List.getElem?_cons_succ.trans (List.getElem?_cons_succ.trans (List.getElem?_cons_zero)))) (by kernel_rfl) (by kernel_rfl) (by kernel_rfl) (fun _ _ _ h => h) (Or.inl ⟨by rfl, ?_⟩) (by assumption) ?_
                  rotate_left
                  · intro w' hSw; (try dsimp only at hSw); go_simp; try with_reducible rfl
                  try simp only [Act.put, List.setIfInBounds_toArray, List.set_cons_zero, List.set_cons_succ]
                  refine wpAnyH_take (i := 3) (v := ?_) (List.getElem?_toArray.trans (List.getElem?_cons_succ.trans (List.getElem?_cons_succ.trans (List.getElem?_cons_succ.trans (List.getElem?_cons_zero))))) (by kernel_rfl) (by kernel_rfl) (by kernel_rfl) (fun _ _ _ h => h) (Or.inl ⟨by rfl, ?_⟩) (by assumption) ?_
                  rotate_left
                  · intro w' hSw; (try dsimp only at hSw); go_simp; try with_reducible rfl
                  try simp only [Act.put, List.setIfInBounds_toArray, List.set_cons_zero, List.set_cons_succ]
                  refine wpAnyH_take (i := 4) (v := ?_) (List.getElem?_toArray.trans (List.getElem?_cons_succ.trans (List.getElem?_cons_succ.trans (List.getElem?_cons_succ.trans (List.getElem?_cons_succ.trans (List.getElem?_cons_zero)))))) (by kernel_rfl) (by kernel_rfl) (by kernel_rfl) (fun _ _ _ h => h) (Or.inl ⟨by rfl, ?_⟩) (by assumption) ?_
                  rotate_left
                  · intro w' hSw; (try dsimp only at hSw); go_simp; try with_reducible rfl
                  try simp only [Act.put, List.setIfInBounds_toArray, List.set_cons_zero, List.set_cons_succ]
                  refine wpAnyH_take (i := 5) (v := ?_) (List.getElem?_toArray.trans (List.getElem?_cons_succ.trans (List.getElem?_cons_succ.trans (List.getElem?_cons_succ.trans (List.getElem?_cons_succ.trans (List.getElem?_cons_succ.trans (List.getElem?_cons_zero))))))) (by kernel_rfl) (by kernel_rfl) (by kernel_rfl) (fun _ _ _ h => h) (Or.inl ⟨by rfl, ?_⟩) (by assumption) ?_
                  rotate_left
                  · intro w' hSw; (try dsimp only at hSw); go_simp; try with_reducible rfl
                  try simp only [Act.put, List.setIfInBounds_toArray, List.set_cons_zero, List.set_cons_succ]
                  refine wpAnyH_take (i := 6) (v := ?_) (List.getElem?_toArray.trans (List.getElem?_cons_succ.trans (List.getElem?_cons_succ.trans (List.getElem?_cons_succ.trans (List.getElem?_cons_succ.trans (List.getElem?_cons_succ.trans (List.getElem?_cons_succ.trans (List.getElem?_cons_zero)))))))) (by kernel_rfl) (by kernel_rfl) (by kernel_rfl) (fun _ _ _ h => h) (Or.inl ⟨by rfl, ?_⟩) (by assumption) ?_
                  rotate_left
                  · intro w' hSw; (try dsimp only at hSw); go_simp; try with_reducible rfl
                  try simp only [Act.put, List.setIfInBounds_toArray, List.set_cons_zero, List.set_cons_succ]
                  refine wpAnyH_take (i := 7) (v := ?_) (List.getElem?_toArray.trans (List.getElem?_cons_succ.trans (List.getElem?_cons_succ.trans (List.getElem?_cons_succ.trans (List.getElem?_cons_succ.trans (List.getElem?_cons_succ.trans (List.getElem?_cons_succ.trans (List.getElem?_cons_succ.trans (List.getElem?_cons_zero))))))))) (by kernel_rfl) (by kernel_rfl) (by kernel_rfl) (fun _ _ _ h => h) (Or.inl ⟨by rfl, ?_⟩) (by assumption) ?_
                  rotate_left
                  · intro w' hSw; (try dsimp only at hSw); go_simp; try with_reducible rfl
                  try simp only [Act.put, List.setIfInBounds_toArray, List.set_cons_zero, List.set_cons_succ]
                  refine wpAnyH_take (i := 8) (v := ?_) (List.getElem?_toArray.trans (List.getElem?_cons_succ.trans (List.getElem?_cons_succ.trans (List.getElem?_cons_succ.trans (List.getElem?_cons_succ.trans (List.getElem?_cons_succ.trans (List.getElem?_cons_succ.trans (List.getElem?_cons_succ.trans (List.getElem?_cons_succ.trans (List.getElem?_cons_zero)))))))))) (by kernel_rfl) (by kernel_rfl) (by kernel_rfl) (fun _ _ _ h => h) (Or.inl ⟨by rfl, ?_⟩) (by assumption) ?_
                  rotate_left
                  · intro w' hSw; (try dsimp only at hSw); go_simp; try with_reducible rfl
                  try simp only [Act.put, List.setIfInBounds_toArray, List.set_cons_zero, List.set_cons_succ]
                  refine wpAnyH_take (i := 9) (v := ?_) (List.getElem?_toArray.trans (List.getElem?_cons_succ.trans (List.getElem?_cons_succ.trans (List.getElem?_cons_succ.trans (List.getElem?_cons_succ.trans (List.getElem?_cons_succ.trans (List.getElem?_cons_succ.trans (List.getElem?_cons_succ.trans (List.getElem?_cons_succ.trans (List.getElem?_cons_succ.trans (List.getElem?_cons_zero))))))))))) (by kernel_rfl) (by kernel_rfl) (by kernel_rfl) (fun _ _ _ h => h) (Or.inl ⟨by rfl, ?_⟩) (by assumption) ?_
                  rotate_left
                  · intro w' hSw; (try dsimp only at hSw); go_simp; try with_reducible rfl
                  try simp only [Act.put, List.setIfInBounds_toArray, List.set_cons_zero, List.set_cons_succ]
                  refine wpAnyH_take (i := 10) (v := ?_) (List.getElem?_toArray.trans (List.getElem?_cons_succ.trans (List.getElem?_cons_succ.trans (List.getElem?_cons_succ.trans (List.getElem?_cons_succ.trans (List.getElem?_cons_succ.trans (List.getElem?_cons_succ.trans (List.getElem?_cons_succ.trans (List.getElem?_cons_succ.trans (List.getElem?_cons_succ.trans (List.getElem?_cons_succ.trans (List.getElem?_cons_zero)))))))))))) (by kernel_rfl) (by kernel_rfl) (by kernel_rfl) (fun _ _ _ h => h) (Or.inl ⟨by rfl, ?_⟩) (by assumption) ?_
                  rotate_left
                  · intro w' hSw; (try dsimp only at hSw); go_simp; try with_reducible rfl
                  try simp only [Act.put, List.setIfInBounds_toArray, List.set_cons_zero, List.set_cons_succ]
                  refine wpAnyH_take (i := 11) (v := ?_) (List.getElem?_toArray.trans (List.getElem?_cons_succ.trans (List.getElem?_cons_succ.trans (List.getElem?_cons_succ.trans (List.getElem?_cons_succ.trans (List.getElem?_cons_succ.trans (List.getElem?_cons_succ.trans (List.getElem?_cons_succ.trans (List.getElem?_cons_succ.trans (List.getElem?_cons_succ.trans (List.getElem?_cons_succ.trans (List.getElem?_cons_succ.trans (List.getElem?_cons_zero))))))))))))) (by kernel_rfl) (by kernel_rfl) (by kernel_rfl) (fun _ _ _ h => h) (Or.inl ⟨by rfl, ?_⟩) (by assumption) ?_
                  rotate_left
                  · intro w' hSw; (try dsimp only at hSw); go_simp; try with_reducible rfl
                  try simp only [Act.put, List.setIfInBounds_toArray, List.set_cons_zero, List.set_cons_succ]
                  refine wpAnyH_take (i := 12) (v := ?_) (List.getElem?_toArray.trans (List.getElem?_cons_succ.trans (List.getElem?_cons_succ.trans (List.getElem?_cons_succ.trans (List.getElem?_cons_succ.trans (List.getElem?_cons_succ.trans (List.getElem?_cons_succ.trans (List.getElem?_cons_succ.trans (List.getElem?_cons_succ.trans (List.getElem?_cons_succ.trans (List.getElem?_cons_succ.trans (List.getElem?_cons_succ.trans (List.getElem?_cons_succ.trans (List.getElem?_cons_zero)))))))))))))) (by kernel_rfl) (by kernel_rfl) (by kernel_rfl) (fun _ _ _ h => h) (Or.inl ⟨by rfl, ?_⟩) (by assumption) ?_
                  rotate_left
                  · intro w' hSw; (try dsimp only at hSw); go_simp; try with_reducible rfl
                  try simp only [Act.put, List.setIfInBounds_toArray, List.set_cons_zero, List.set_cons_succ]
                  refine wpAnyH_take (i := 13) (v := ?_) (List.getElem?_toArray.trans (List.getElem?_cons_succ.trans (List.getElem?_cons_succ.trans (List.getElem?_cons_succ.trans (List.getElem?_cons_succ.trans (List.getElem?_cons_succ.trans (List.getElem?_cons_succ.trans (List.getElem?_cons_succ.trans (List.getElem?_cons_succ.trans (List.getElem?_cons_succ.trans (List.getElem?_cons_succ.trans (List.getElem?_cons_succ.trans (List.getElem?_cons_succ.trans (List.getElem?_cons_succ.trans (List.getElem?_cons_zero))))))))))))))) (by kernel_rfl) (by kernel_rfl) (by kernel_rfl) (fun _ _ _ h => h) (Or.inl ⟨by rfl, ?_⟩) (by assumption) ?_
                  rotate_left
                  · intro w' hSw; (try dsimp only at hSw); go_simp; try with_reducible rfl
                  try simp only [Act.put, List.setIfInBounds_toArray, List.set_cons_zero, List.set_cons_succ]
                  refine wpAnyH_ready (rs := [14]) (by kernel_rfl) (by simp) ?_
                  refine AllReadyH.cons (List.getElem?_toArray.trans (List.getElem?_cons_succ.trans (List.getElem?_cons_succ.trans (List.getElem?_cons_succ.trans (List.getElem?_cons_succ.trans (List.getElem?_cons_succ.trans (List.getElem?_cons_succ.trans (List.getElem?_cons_succ.trans (List.getElem?_cons_succ.trans (List.getElem?_cons_succ.trans (List.getElem?_cons_succ.trans (List.getElem?_cons_succ.trans (List.getElem?_cons_succ.trans (List.getElem?_cons_succ.trans (List.getElem?_cons_succ.trans (List.getElem?_cons_zero)))))))))))))))) (fun K hK => ?_) AllReadyH.nil
                  go_simp
                  refine hK.out _ _ (hS0.alloc (by have := H6.out.siz; show w.heap.size ≤ w6.heap.size; omega) _) (fun _ => ?_)
                  clear hK K
                  try simp only [Act.put, List.setIfInBounds_toArray, List.set_cons_zero, List.set_cons_succ]
                  have hA6 := H6.out.below (W' := w6.drew.alloc (.cells #[.int .u8 (y : Int)] 5)) ((Below.refl _ _).drew.alloc (Nat.le_refl _) _)
                  have hby : Bs (w6.drew.alloc (.cells #[.int .u8 (y : Int)] 5)) (w6.heap.size + 1) (some ⟨w6.heap.size, 0, none⟩) [UInt8.ofNat y] := fun _ => ⟨w6.heap.size, 0, rfl, Nat.lt_succ_self _, fun j hj => by
                    have hj0 : j = 0 := by simp at hj; omega
                    subst hj0
                    have hnew := Blk.new w6.drew 5 #[.int .u8 (y : Int)]
                    rw [show (⟨w6.heap.size, 0 + 0, none⟩ : Addr) = ⟨w6.drew.heap.size, 0, none⟩ from rfl, hnew.cell]
                    have : (UInt8.ofNat y).toNat = y := by rw [UInt8.toNat_ofNat']; have := HY.out.2.1; omega
                    simp [this]⟩
                  refine wpAnyH_ready (rs := [15]) (by kernel_rfl) (by simp) ?_
                  refine AllReadyH.cons (List.getElem?_toArray.trans (List.getElem?_cons_succ.trans (List.getElem?_cons_succ.trans (List.getElem?_cons_succ.trans (List.getElem?_cons_succ.trans (List.getElem?_cons_succ.trans (List.getElem?_cons_succ.trans (List.getElem?_cons_succ.trans (List.getElem?_cons_succ.trans (List.getElem?_cons_succ.trans (List.getElem?_cons_succ.trans (List.getElem?_cons_succ.trans (List.getElem?_cons_succ.trans (List.getElem?_cons_succ.trans (List.getElem?_cons_succ.trans (List.getElem?_cons_succ.trans (List.getElem?_cons_zero))))))))))))))))) (fun K hK => ?_) AllReadyH.nil
                  refine wp_append_b _ (.tmp 110) (.tmp 124) 26 rfl (w.heap.size + 1) 5 i2 _ Tryd.underlying26 hu0 hu1 hu2 hu3 rfl (.slice Ao tl co) t rfl hA6.own (w6.heap.size + 1) (some ⟨w6.heap.size, 0, none⟩) 1 1 [UInt8.ofNat y] rfl rfl hby (by have := H6.out.len; simp; omega) hA6.siz ?_
                  intro v9 w9 hown9 hg9 _
                  have hlr := World.ownsRow.lt hA6.own
                  have q0 := hA6.b0.grown hg9 (fun e => by have := (hlr _ e.symm).1; omega)
                  have q3 := hA6.bel.grown hg9 hA6.bel.size (fun j e => by have := (hlr j e).1; omega)
                  have q4 := Nat.le_trans hA6.siz hg9.size
                  refine hK.out _ _ q3 (fun _ => ?_)
                  clear hK K
                  try simp only [Act.put, List.setIfInBounds_toArray, List.set_cons_zero, List.set_cons_succ]
                  refine wpAnyH_take (i := 16) (v := ?_) (List.getElem?_toArray.trans (List.getElem?_cons_succ.trans (List.getElem?_cons_succ.trans (List.getElem?_cons_succ.trans (List.getElem?_cons_succ.trans (List.getElem?_cons_succ.trans (List.getElem?_cons_succ.trans (List.getElem?_cons_succ.trans (List.getElem?_cons_succ.trans (List.getElem?_cons_succ.trans (List.getElem?_cons_succ.trans (List.getElem?_cons_succ.trans (List.getElem?_cons_succ.trans (List.getElem?_cons_succ.trans (List.getElem?_cons_succ.trans (List.getElem?_cons_succ.trans (List.getElem?_cons_succ.trans (List.getElem?_cons_zero)))))))))))))))))) (by kernel_rfl) (by kernel_rfl) (by kernel_rfl) (fun _ _ _ h => h) (Or.inl ⟨by rfl, ?_⟩) (by assumption) ?_
                  rotate_left
                  · intro w' hSw; (try dsimp only at hSw); go_simp; try with_reducible rfl
                  try simp only [Act.put, List.setIfInBounds_toArray, List.set_cons_zero, List.set_cons_succ]
                  refine wpAnyH_done (by kernel_rfl) ?_ _
                  have hder : Der G (x.f.b.take (k + 1)) (toN (t ++ [UInt8.ofNat y])) := by
                    have h1 : Der G [s] [y] := Der.byte (by rw [HS.out.2.2.1]; exact hsn) (by rw [HS.out.2.2.2.1]; have := HY.out.1; omega) (by rw [HS.out.2.2.2.2.1]; have := HY.out; omega) Der.nil
                    have h2 := der_app H6.out.der h1
                    rw [← HS.out.2.1] at h2
                    have h3 : toN (t ++ [UInt8.ofNat y]) = toN t ++ [y] := by
                      have : (UInt8.ofNat y).toNat = y := by rw [UInt8.toNat_ofNat']; have := HY.out.2.1; omega
                      simp [toN, this]
                    rw [h3]
                    exact h2
                  have hlen9 : (t ++ [UInt8.ofNat y]).length ≤ 60 + (k + 1) := by have := H6.out.len; simp; omega
                  have HT9 := Lib.hid (fun (C2 : Option Addr) (cl2 : List UInt8) (m2 cq2 : Nat) (h1 : Bs w B C2 cl2) (h2 : cl2.length = m2) (h3 : m2 ≤ cq2) (h4 : m2 ≤ 1000) => TxAt.mk (w := w) (wz := w9) (x := x) (k := k + 1) q0 hown9 hlen9 hder q3 q4 h1 h2 h3 h4)
                  have HC6 := Lib.hid (And.intro H6.out.cs (And.intro H6.out.cm (And.intro H6.out.cc H6.out.c9)))
                  have hc1' : (1 : Int) ≤ (m2 : Int) := by omega
                  have hc2' : (1 : Int) ≤ (cq2 : Int) := by have := H6.out.cc; omega
                  clear q0 q3 q4 hown9 hg9 hlr hA6 hby hder hlen9 fLo fCz u1 u2 u3 hrm hwdb hwdn
                  go_wp2_with fail
                  all_goals
                    go_roundw
                    case rel =>
                      refine ⟨k + 1, t ++ [UInt8.ofNat y], _, cl2.drop 1, m2 - 1, _, by omega, by go_num, rfl, HT9.out _ _ _ _ ?_ (by rw [List.length_drop, HC6.out.2.1]) (by have := HC6.out.2.2.1; omega) (by have := HC6.out.2.2.2; omega)⟩
                      first
                        | exact bs_tail HC6.out.1
                        | exact bs_tail1 (by rw [HC6.out.2.1]; have := HC6.out.2.2.1; omega) _
                        | (split; exact bs_tail1 (by rw [HC6.out.2.1]; have := HC6.out.2.2.1; omega) _; exact bs_tail HC6.out.1)
                    case measure => simp only [intOf]; omega
            · have hsn0 : (0 : Int) ≤ sn := by omega
              have fG0 : ∀ W, Below wr.heap.size wr W → W.cell? ⟨w.heap.size, 0, none⟩ = some (.int .i64 G.k) := fun W h => (h.cell (p := ⟨w.heap.size, 0, none⟩) HT.out.b0.lt).trans g0
              have fG1 : ∀ W, Below wr.heap.size wr W → W.cell? ⟨w.heap.size, 1, none⟩ = some (.slice A n c) := fun W h => (h.cell (p := ⟨w.heap.size, 1, none⟩) HT.out.b0.lt).trans g1
              have hbsr : bs < wr.heap.size := by have := HT.out.siz; have := H.out.2.2.2.1; omega
              have fSn : ∀ W, Below wr.heap.size wr W → W.cell? ⟨bs, os + k * 3, none⟩ = some (.int .i64 sn) := fun W h => (h.cell (p := ⟨bs, os + k * 3, none⟩) hbsr).trans e0
              have hdw : IntKind.i64.wrap ((depth : Int) + 1) = (depth : Int) + 1 := by rw [IntWalk.i64_left]; unfold wrap64; omega
              have hIH : ∀ W, Below wr.heap.size wr W → Calls Tryd.prog 9 #[.agg #[.int .i64 G.k, .slice A n c], .int .i64 sn, .slice C2 m2 cq2, .int .i64 ((depth : Int) + 1)] W (TextP W B G sn) := fun W h => by
                have hwW : Below w.heap.size w W := HT.out.bel.trans (h.mono HT.out.bel.size)
                have h9 := IH'.out W B G A L n c sn C2 cl2 m2 cq2 (depth + 1) (H.out.1.below (hwW.mono H.out.2.2.2.1)) H.out.2.1 H.out.2.2.1 (Nat.le_trans H.out.2.2.2.1 hwW.size) hsn0 (HT.out.cs.below (hwW.mono H.out.2.2.2.1)) HT.out.cm HT.out.cc HT.out.c9 (by omega)
                rw [show ((depth + 1 : Nat) : Int) = (depth : Int) + 1 by omega] at h9
                exact h9
              have HIH := Lib.hid hIH
              clear hIH
              go_wp2_with fail
              clear e0 e1 e2 g0 g1
              have hS0 : (fun W : World => Below wr.heap.size wr W) wr.drew := (Below.refl _ _).drew
              refine wp_region_held_drew (S := fun W => Below wr.heap.size wr W) (by kernel_rfl) hS0 (fun hHeld => ?_)
              refine wpAnyH_take (i := 0) (v := ?_) (List.getElem?_toArray.trans (List.getElem?_cons_zero)) (by kernel_rfl) (by kernel_rfl) (by kernel_rfl) (fun _ _ _ h => h) (Or.inl ⟨by rfl, ?_⟩) (by assumption) ?_
              rotate_left
              · intro w' hSw; (try dsimp only at hSw); go_simp; try with_reducible rfl
              try simp only [Act.put, List.setIfInBounds_toArray, List.set_cons_zero, List.set_cons_succ]
              refine wpAnyH_take (i := 1) (v := ?_) (List.getElem?_toArray.trans (List.getElem?_cons_succ.trans (List.getElem?_cons_zero))) (by kernel_rfl) (by kernel_rfl) (by kernel_rfl) (fun _ _ _ h => h) (Or.inl ⟨by rfl, ?_⟩) (by assumption) ?_
              rotate_left
              · intro w' hSw; (try dsimp only at hSw); go_simp; try with_reducible rfl
              try simp only [Act.put, List.setIfInBounds_toArray, List.set_cons_zero, List.set_cons_succ]
              refine wpAnyH_take (i := 2) (v := ?_) (List.getElem?_toArray.trans (List.getElem?_cons_succ.trans (List.getElem?_cons_succ.trans (List.getElem?_cons_zero)))) (by kernel_rfl) (by kernel_rfl) (by kernel_rfl) (fun _ _ _ h => h) (Or.inl ⟨by rfl, ?_⟩) (by assumption) ?_
              rotate_left
              · intro w' hSw; (try dsimp only at hSw); go_simp; try with_reducible rfl
              try simp only [Act.put, List.setIfInBounds_toArray, List.set_cons_zero, List.set_cons_succ]
              refine wpAnyH_take (i := 3) (v := ?_) (List.getElem?_toArray.trans (List.getElem?_cons_succ.trans (List.getElem?_cons_succ.trans (List.getElem?_cons_succ.trans (List.getElem?_cons_zero))))) (by kernel_rfl) (by kernel_rfl) (by kernel_rfl) (fun _ _ _ h => h) (Or.inl ⟨by rfl, ?_⟩) (by assumption) ?_
              rotate_left
              · intro w' hSw; (try dsimp only at hSw); go_simp; try with_reducible rfl
              try simp only [Act.put, List.setIfInBounds_toArray, List.set_cons_zero, List.set_cons_succ]
              refine wpAnyH_take (i := 4) (v := ?_) (List.getElem?_toArray.trans (List.getElem?_cons_succ.trans (List.getElem?_cons_succ.trans (List.getElem?_cons_succ.trans (List.getElem?_cons_succ.trans (List.getElem?_cons_zero)))))) (by kernel_rfl) (by kernel_rfl) (by kernel_rfl) (fun _ _ _ h => h) (Or.inl ⟨by rfl, ?_⟩) (by assumption) ?_
              rotate_left
              · intro w' hSw; (try dsimp only at hSw); go_simp; try with_reducible rfl
              try simp only [Act.put, List.setIfInBounds_toArray, List.set_cons_zero, List.set_cons_succ]
              refine wpAnyH_take (i := 5) (v := ?_) (List.getElem?_toArray.trans (List.getElem?_cons_succ.trans (List.getElem?_cons_succ.trans (List.getElem?_cons_succ.trans (List.getElem?_cons_succ.trans (List.getElem?_cons_succ.trans (List.getElem?_cons_zero))))))) (by kernel_rfl) (by kernel_rfl) (by kernel_rfl) (fun _ _ _ h => h) (Or.inl ⟨by rfl, ?_⟩) (by assumption) ?_
              rotate_left
              · intro w' hSw; (try dsimp only at hSw); go_simp; try with_reducible rfl
              try simp only [Act.put, List.setIfInBounds_toArray, List.set_cons_zero, List.set_cons_succ]
              refine wpAnyH_take (i := 6) (v := ?_) (List.getElem?_toArray.trans (List.getElem?_cons_succ.trans (List.getElem?_cons_succ.trans (List.getElem?_cons_succ.trans (List.getElem?_cons_succ.trans (List.getElem?_cons_succ.trans (List.getElem?_cons_succ.trans (List.getElem?_cons_zero)))))))) (by kernel_rfl) (by kernel_rfl) (by kernel_rfl) (fun _ _ _ h => h) (Or.inl ⟨by rfl, ?_⟩) (by assumption) ?_
              rotate_left
              · intro w' hSw; (try dsimp only at hSw); go_simp; try with_reducible rfl
              try simp only [Act.put, List.setIfInBounds_toArray, List.set_cons_zero, List.set_cons_succ]
              refine wpAnyH_take (i := 7) (v := ?_) (List.getElem?_toArray.trans (List.getElem?_cons_succ.trans (List.getElem?_cons_succ.trans (List.getElem?_cons_succ.trans (List.getElem?_cons_succ.trans (List.getElem?_cons_succ.trans (List.getElem?_cons_succ.trans (List.getElem?_cons_succ.trans (List.getElem?_cons_zero))))))))) (by kernel_rfl) (by kernel_rfl) (by kernel_rfl) (fun _ _ _ h => h) (Or.inl ⟨by rfl, ?_⟩) (by assumption) ?_
              rotate_left
              · intro w' hSw; (try dsimp only at hSw); go_simp; try with_reducible rfl
              try simp only [Act.put, List.setIfInBounds_toArray, List.set_cons_zero, List.set_cons_succ]
              refine wpAnyH_take (i := 8) (v := ?_) (List.getElem?_toArray.trans (List.getElem?_cons_succ.trans (List.getElem?_cons_succ.trans (List.getElem?_cons_succ.trans (List.getElem?_cons_succ.trans (List.getElem?_cons_succ.trans (List.getElem?_cons_succ.trans (List.getElem?_cons_succ.trans (List.getElem?_cons_succ.trans (List.getElem?_cons_zero)))))))))) (by kernel_rfl) (by kernel_rfl) (by kernel_rfl) (fun _ _ _ h => h) (Or.inl ⟨by rfl, ?_⟩) (by assumption) ?_
              rotate_left
              · intro w' hSw; (try dsimp only at hSw); go_simp; try with_reducible rfl
              try simp only [Act.put, List.setIfInBounds_toArray, List.set_cons_zero, List.set_cons_succ]
              refine wpAnyH_ready (rs := [9]) (by kernel_rfl) (by simp) ?_
              refine AllReadyH.cons (List.getElem?_toArray.trans (List.getElem?_cons_succ.trans (List.getElem?_cons_succ.trans (List.getElem?_cons_succ.trans (List.getElem?_cons_succ.trans (List.getElem?_cons_succ.trans (List.getElem?_cons_succ.trans (List.getElem?_cons_succ.trans (List.getElem?_cons_succ.trans (List.getElem?_cons_succ.trans (List.getElem?_cons_zero))))))))))) (fun K hK => ?_) AllReadyH.nil
              go_simp
              go_at_call 9
              refine (HIH.out _ hS0).mono ?_
              rintro e w7 ⟨v7, u7, ok7, rfl, hb7, hok7⟩
              have hb7' : Below wr.heap.size wr w7 := hS0.trans (hb7.mono hS0.size)
              refine hK.out _ _ hb7' (fun hHeld => ?_)
              clear hK K
              try simp only [Act.put, List.setIfInBounds_toArray, List.set_cons_zero, List.set_cons_succ]
              refine wpAnyH_take (i := 10) (v := ?_) (List.getElem?_toArray.trans (List.getElem?_cons_succ.trans (List.getElem?_cons_succ.trans (List.getElem?_cons_succ.trans (List.getElem?_cons_succ.trans (List.getElem?_cons_succ.trans (List.getElem?_cons_succ.trans (List.getElem?_cons_succ.trans (List.getElem?_cons_succ.trans (List.getElem?_cons_succ.trans (List.getElem?_cons_succ.trans (List.getElem?_cons_zero)))))))))))) (by kernel_rfl) (by kernel_rfl) (by kernel_rfl) (fun _ _ _ h => h) (Or.inl ⟨by rfl, ?_⟩) (by assumption) ?_
              rotate_left
              · intro w' hSw; (try dsimp only at hSw); go_simp; try with_reducible rfl
              try simp only [Act.put, List.setIfInBounds_toArray, List.set_cons_zero, List.set_cons_succ]
              refine wpAnyH_take (i := 11) (v := ?_) (List.getElem?_toArray.trans (List.getElem?_cons_succ.trans (List.getElem?_cons_succ.trans (List.getElem?_cons_succ.trans (List.getElem?_cons_succ.trans (List.getElem?_cons_succ.trans (List.getElem?_cons_succ.trans (List.getElem?_cons_succ.trans (List.getElem?_cons_succ.trans (List.getElem?_cons_succ.trans (List.getElem?_cons_succ.trans (List.getElem?_cons_succ.trans (List.getElem?_cons_zero))))))))))))) (by kernel_rfl) (by kernel_rfl) (by kernel_rfl) (fun _ _ _ h => h) (Or.inl ⟨by rfl, ?_⟩) (by assumption) ?_
              rotate_left
              · intro w' hSw; (try dsimp only at hSw); go_simp; try with_reducible rfl
              try simp only [Act.put, List.setIfInBounds_toArray, List.set_cons_zero, List.set_cons_succ]
              refine wpAnyH_take (i := 12) (v := ?_) (List.getElem?_toArray.trans (List.getElem?_cons_succ.trans (List.getElem?_cons_succ.trans (List.getElem?_cons_succ.trans (List.getElem?_cons_succ.trans (List.getElem?_cons_succ.trans (List.getElem?_cons_succ.trans (List.getElem?_cons_succ.trans (List.getElem?_cons_succ.trans (List.getElem?_cons_succ.trans (List.getElem?_cons_succ.trans (List.getElem?_cons_succ.trans (List.getElem?_cons_succ.trans (List.getElem?_cons_zero)))))))))))))) (by kernel_rfl) (by kernel_rfl) (by kernel_rfl) (fun _ _ _ h => h) (Or.inl ⟨by rfl, ?_⟩) (by assumption) ?_
              rotate_left
              · intro w' hSw; (try dsimp only at hSw); go_simp; try with_reducible rfl
              try simp only [Act.put, List.setIfInBounds_toArray, List.set_cons_zero, List.set_cons_succ]
              refine wpAnyH_take (i := 13) (v := ?_) (List.getElem?_toArray.trans (List.getElem?_cons_succ.trans (List.getElem?_cons_succ.trans (List.getElem?_cons_succ.trans (List.getElem?_cons_succ.trans (List.getElem?_cons_succ.trans (List.getElem?_cons_succ.trans (List.getElem?_cons_succ.trans (List.getElem?_cons_succ.trans (List.getElem?_cons_succ.trans (List.getElem?_cons_succ.trans (List.getElem?_cons_succ.trans (List.getElem?_cons_succ.trans (List.getElem?_cons_succ.trans (List.getElem?_cons_zero))))))))))))))) (by kernel_rfl) (by kernel_rfl) (by kernel_rfl) (fun _ _ _ h => h) (Or.inl ⟨by rfl, ?_⟩) (by assumption) ?_
              rotate_left
              · intro w' hSw; (try dsimp only at hSw); go_simp; try with_reducible rfl
              try simp only [Act.put, List.setIfInBounds_toArray, List.set_cons_zero, List.set_cons_succ]
              refine wpAnyH_take (i := 14) (v := ?_) (List.getElem?_toArray.trans (List.getElem?_cons_succ.trans (List.getElem?_cons_succ.trans (List.getElem?_cons_succ.trans (List.getElem?_cons_succ.trans (List.getElem?_cons_succ.trans (List.getElem?_cons_succ.trans (List.getElem?_cons_succ.trans (List.getElem?_cons_succ.trans (List.getElem?_cons_succ.trans (List.getElem?_cons_succ.trans (List.getElem?_cons_succ.trans (List.getElem?_cons_succ.trans (List.getElem?_cons_succ.trans (List.getElem?_cons_succ.trans (List.getElem?_cons_zero)))))))))))))))) (by kernel_rfl) (by kernel_rfl) (by kernel_rfl) (fun _ _ _ h => h) (Or.inl ⟨by rfl, ?_⟩) (by assumption) ?_
              rotate_left
              · intro w' hSw; (try dsimp only at hSw); go_simp; try with_reducible rfl
              try simp only [Act.put, List.setIfInBounds_toArray, List.set_cons_zero, List.set_cons_succ]
              refine wpAnyH_take (i := 15) (v := ?_) (List.getElem?_toArray.trans (List.getElem?_cons_succ.trans (List.getElem?_cons_succ.trans (List.getElem?_cons_succ.trans (List.getElem?_cons_succ.trans (List.getElem?_cons_succ.trans (List.getElem?_cons_succ.trans (List.getElem?_cons_succ.trans (List.getElem?_cons_succ.trans (List.getElem?_cons_succ.trans (List.getElem?_cons_succ.trans (List.getElem?_cons_succ.trans (List.getElem?_cons_succ.trans (List.getElem?_cons_succ.trans (List.getElem?_cons_succ.trans (List.getElem?_cons_succ.trans (List.getElem?_cons_zero))))))))))))))))) (by kernel_rfl) (by kernel_rfl) (by kernel_rfl) (fun _ _ _ h => h) (Or.inl ⟨by rfl, ?_⟩) (by assumption) ?_
              rotate_left
              · intro w' hSw; (try dsimp only at hSw); go_simp; try with_reducible rfl
              try simp only [Act.put, List.setIfInBounds_toArray, List.set_cons_zero, List.set_cons_succ]
              refine wpAnyH_take (i := 16) (v := ?_) (List.getElem?_toArray.trans (List.getElem?_cons_succ.trans (List.getElem?_cons_succ.trans (List.getElem?_cons_succ.trans (List.getElem?_cons_succ.trans (List.getElem?_cons_succ.trans (List.getElem?_cons_succ.trans (List.getElem?_cons_succ.trans (List.getElem?_cons_succ.trans (List.getElem?_cons_succ.trans (List.getElem?_cons_succ.trans (List.getElem?_cons_succ.trans (List.getElem?_cons_succ.trans (List.getElem?_cons_succ.trans (List.getElem?_cons_succ.trans (List.getElem?_cons_succ.trans (List.getElem?_cons_succ.trans (List.getElem?_cons_zero)))))))))))))))))) (by kernel_rfl) (by kernel_rfl) (by kernel_rfl) (fun _ _ _ h => h) (Or.inl ⟨by rfl, ?_⟩) (by assumption) ?_
              rotate_left
              · intro w' hSw; (try dsimp only at hSw); go_simp; try with_reducible rfl
              try simp only [Act.put, List.setIfInBounds_toArray, List.set_cons_zero, List.set_cons_succ]
              refine wpAnyH_done (by kernel_rfl) ?_ _
              have H7 := Lib.hid (And.intro (HT.out.below hb7') hok7)
              clear hb7 hok7 fG0 fG1 fSn hS0 hdw
              cases ok7
              · go_wp2_with fail
                go_ret3
                exact ⟨_, _, _, rfl, H7.out.1.bel, (fun h => by cases h)⟩
              · obtain ⟨t7, C7, cl7, m7, cq7, hown7, hlen7, rfl, hcs7, hcm7, hcc7, hc97, hder7⟩ := H7.out.2 rfl
                obtain ⟨A7, c7, rfl, _, _, hbs7, _⟩ := hown7.slice_cap
                obtain ⟨tm, etm⟩ : ∃ z, t7.length = z := ⟨_, rfl⟩
                rw [etm]
                have hcsw : Bs w B C7 cl7 := fun hp => by
                  obtain ⟨b, o, e, hb, hc⟩ := hcs7 hp
                  refine ⟨b, o, e, hb, fun j hj => ?_⟩
                  rw [← hc j hj]
                  exact (((HT.out.bel.drew).mono H.out.2.2.2.1).cell (p := ⟨b, o + j, none⟩) hb).symm
                have HG := Lib.hid (And.intro hbs7 (And.intro etm (And.intro hcsw (And.intro hcm7 (And.intro hcc7 (And.intro hc97 hder7))))))
                clear hown7 hbs7 etm hcs7 hcm7 hcc7 hc97 hder7 hcsw
                have htl9 : tl ≤ 100 := by have h1 := HT.out.len; have h2 := HS.out.2.2.2.2.2.1; omega
                have htm9 : tm ≤ 100 := by have h2 := HG.out.2.1; omega
                by_cases h60 : (tl : Int) + (tm : Int) > 60
                · have h60w : ((tl : Int) + (tm : Int)) > 60 := h60
                  go_wp2_with fail
                  go_ret3
                  exact ⟨_, _, _, rfl, H7.out.1.bel, (fun h => by cases h)⟩
                · have hsum : (tl : Int) + (tm : Int) ≤ 60 := by omega
                  go_wp2_with (first
                    | (at_builtin; refine stopped ?_)
                    | fail)
                  refine go_on ?_
                  refine wpList_append_bytes_n _ rfl (.tmp 152) (.tmp 153) 26 rfl (w.heap.size + 1) 5 i2 _ Tryd.underlying26 hu0 hu1 hu2 hu3 rfl (.slice Ao tl co) t rfl H7.out.1.own w7.heap.size A7 c7 tm t7 HG.out.2.1 rfl HG.out.1 (by have h1 := HG.out.2.1; have h2 := HS.out.2.2.2.2.2.1; omega) H7.out.1.siz ?_
                  intro v9 w9 hown9 hg9 hb9
                  have hlr := World.ownsRow.lt H7.out.1.own
                  have q0 := H7.out.1.b0.grown hg9 (fun e => by have := (hlr _ e.symm).1; omega)
                  have q3 := H7.out.1.bel.grown hg9 H7.out.1.bel.size (fun j e => by have := (hlr j e).1; omega)
                  have q4 := Nat.le_trans H7.out.1.siz hg9.size
                  have hder : Der G (x.f.b.take (k + 1)) (toN (t ++ t7)) := by
                    rw [HS.out.2.1, toN_app]
                    exact der_app H7.out.1.der (der_same HG.out.2.2.2.2.2.2 hsn0 HS.out.2.2.1)
                  have hlen9 : (t ++ t7).length ≤ 60 + (k + 1) := by rw [List.length_append, HG.out.2.1, HS.out.2.2.2.2.2.1]; omega
                  have HT9 := Lib.hid (TxAt.mk (w := w) (wz := w9) (x := x) (k := k + 1) q0 hown9 hlen9 hder q3 q4 HG.out.2.2.1 HG.out.2.2.2.1 HG.out.2.2.2.2.1 HG.out.2.2.2.2.2.1)
                  clear q0 q3 q4 hown9 hg9 hlr hder hlen9 hb9
                  simp only [Act.put, List.setIfInBounds_toArray, List.set_cons_zero, List.set_cons_succ]
                  go_wp2_with fail
                  go_roundw
                  case rel => exact ⟨k + 1, t ++ t7, C7, cl7, m7, cq7, by omega, by go_num, rfl, HT9.out⟩
                  case measure => simp only [intOf]; omega
          · obtain rfl : k = xl := by omega
            have hkn : ¬ (k : Int) < (k : Int) := by omega
            have htl : x.f.b.take k = x.f.b := List.take_of_length_le (by rw [HX.out.2.2.1]; exact Nat.le_refl _)
            have hder := hT.der
            rw [htl] at hder
            have HT := Lib.hid (And.intro hT hder)
            clear hT hder htl
            go_wp2_with fail
            go_ret3
            refine ⟨_, _, true, rfl, HT.out.1.bel, fun _ => ⟨t, C2, cl2, m2, cq2, HT.out.1.own.mono (Nat.le_succ _), by have := HT.out.1.len; omega, rfl, HT.out.1.cs, HT.out.1.cm, HT.out.1.cc, HT.out.1.c9, ?_⟩⟩
            have h9 := Der.name (g := G) (s := ⟨X, 0, 0⟩) H.out.2.2.2.2.1 HXF.out HX.out.1.2 HT.out.2 Der.nil
            rwa [List.append_nil] at h9
theorem gmText : ∀ d, TextAt d
  | 0 => gmText1 0 (fun d' e => by cases e)
  | d + 1 => gmText1 (d + 1) (fun d' e => by cases e; exact gmText d)
end Go.Proofs.YthfbmihpdkkcjaaDoor
