/-
  Package code's Reached, by its contract. Conditions: the theorem's own premises.
-/
import Derived.Test.YtbpmmklnjbkmlaaDoorCodeFnR
namespace Go.Proofs.YtbpmmklnjbkmlaaDoor
open Go.RowKit

theorem bool_info : (Tryd.prog.info? 4).map (fun i => (i.zero, i.size, i.bytes)) = some (some (.bool false), 1, 1) := by kernel_rfl
theorem made_bools (m : Nat) : madeCells #[Value.bool false] m = (bcs (List.replicate m false)).toArray := by
  apply Array.ext
  · simp [madeCells, bcs]
  · intro i h1 h2
    simp [madeCells, bcs, Nat.mod_one]

theorem RS.below {w w' : World} {gr gw gm base n : Nat} {v : Value} {R : List Bool} {Q : List Nat} (h : RS w gr gw gm base n v R Q) (hb : Below w.heap.size w w') : RS w' gr gw gm base n v R Q :=
  ⟨h.br.below hb h.br.lt, h.bm.below hb h.bm.lt, h.bw.below hb h.bw.lt, row_below h.row hb, h.len, h.qn, h.sum⟩
theorem foundOk_row {w : World} {base gm gw m c : Nat} {v : Value} {F : Option Addr} {N : List Nat} (hr : w.ownsRow base 3 1 (.slice F m c) m (natV N)) (h1 : gm < base) (h2 : gw < base) (h3 : ∀ g, v.ownBlock = some g → g < base) : FoundOk w gm gw v F N := by
  refine ⟨fun h0 => ?_⟩
  have hlt := World.ownsRow.lt hr
  rcases hr.2 with ⟨_, hm0⟩ | ⟨g, cap, cur, hv, hg, hh, _⟩
  · have := hr.1
    rw [natV_length] at this
    omega
  · injection hv with e1 e2 e3
    subst e1
    refine ⟨g, 0, rfl, (hlt g rfl).2, by omega, by omega, fun e => ?_, fun j u hj => ?_⟩
    · have := h3 g e
      omega
    · have := World.ownsRow.cells hr (g := g) rfl j _ hj
      rwa [Addr.add_lit] at this
theorem falses_rep (n : Nat) : falses (List.replicate n false) = n := by
  induction n with
  | zero => rfl
  | succ n ih => rw [List.replicate_succ, falses, ih]
/-- what of the marks and of what waits is true while they are sought -/
structure Reaching (l : List Ins) (n : Nat) (R : List Bool) (Q : List Nat) : Prop where
  head : 0 < n → R.getD 0 false = true
  next : ∀ k, R.getD k false = true → k ∈ Q ∨ ∀ m ∈ nextL l (k : Int), R.getD m false = true
theorem Reaching.step {l : List Ins} {n k : Nat} {R R' : List Bool} {Q Q' : List Nat} (h : Reaching l n R (Q ++ [k])) (hM : Marked (nextL l (k : Int)) R R' Q Q') : Reaching l n R' Q' :=
  ⟨fun h0 => hM.mono 0 (h.head h0), fun j hj => by
    rcases hM.new_ j hj with h9 | h9
    · rcases h.next j h9 with h8 | h8
      · rcases List.mem_append.1 h8 with h7 | h7
        · exact .inl (hM.keep j h7)
        · rw [List.mem_singleton] at h7
          subst h7
          exact .inr hM.all
      · exact .inr (fun m hm => hM.mono m (h8 m hm))
    · exact .inl h9⟩
/-- how much is to be done -/
def falsesV : List Value → Nat
  | [] => 0
  | .bool false :: r => falsesV r + 1
  | _ :: r => falsesV r
theorem falsesV_bcs : ∀ R : List Bool, falsesV (bcs R) = falses R
  | [] => rfl
  | true :: r => by simp only [bcs, List.map_cons, falsesV, falses]; exact falsesV_bcs r
  | false :: r => by simp only [bcs, List.map_cons, falsesV, falses]; exact congrArg (· + 1) (falsesV_bcs r)
def cellsOf : Option Obj → List Value
  | some (.cells cs _ _) => cs.toList
  | _ => []
def toDo (gw gm : Nat) (w : World) : Nat := sliceLen ((w.cell? ⟨gw, 0, none⟩).getD .nilIface) + falsesV (cellsOf w.heap[gm]?)
theorem RS.toDo {w : World} {gr gw gm base n : Nat} {v : Value} {R : List Bool} {Q : List Nat} (h : RS w gr gw gm base n v R Q) : toDo gw gm w = Q.length + falses R := by
  obtain ⟨A1, c1, ev, _⟩ := vs_of_row h.row
  have hm : w.heap[gm]? = some (.cells (bcs R).toArray 4 (0, 0)) := h.bm
  unfold Proofs.YtbpmmklnjbkmlaaDoor.toDo
  rw [h.bw.cell, hm, ev]
  simp [sliceLen, cellsOf, falsesV_bcs]

theorem rs0 (w : World) (n : Nat) (o : Obj) : RS ((((w.alloc (.cells (bcs (List.replicate n false)).toArray 4)).alloc (.cells #[.slice (some ⟨w.heap.size, 0, none⟩) n n] 43)).alloc (.cells #[.slice none 0 0] 33)).alloc o) (w.heap.size + 1) (w.heap.size + 1 + 1) w.heap.size (w.heap.size + 1 + 1 + 1) n (.slice none 0 0) (List.replicate n false) [] := by
  have hb1 := Blk.new w 4 (bcs (List.replicate n false)).toArray
  have hb2 := Blk.new (w.alloc (.cells (bcs (List.replicate n false)).toArray 4)) 43 #[.slice (some ⟨w.heap.size, 0, none⟩) n n]
  have hb3 := Blk.new ((w.alloc (.cells (bcs (List.replicate n false)).toArray 4)).alloc (.cells #[.slice (some ⟨w.heap.size, 0, none⟩) n n] 43)) 33 #[.slice none 0 0]
  have s1 : (w.alloc (.cells (bcs (List.replicate n false)).toArray 4)).heap.size = w.heap.size + 1 := by simp
  have s2 : ((w.alloc (.cells (bcs (List.replicate n false)).toArray 4)).alloc (.cells #[.slice (some ⟨w.heap.size, 0, none⟩) n n] 43)).heap.size = w.heap.size + 1 + 1 := by simp
  rw [s1] at hb2
  rw [s2] at hb3
  exact ⟨(hb2.alloc _).alloc _, ((hb1.alloc _).alloc _).alloc _, hb3.alloc _, row_nil _ _ _ _, by simp, fun k hk => absurd hk (by simp), by rw [falses_rep]; simp⟩

/-- the last one that waits is taken -/
theorem RS.pop {w : World} {gr gw gm base n t c1 k : Nat} {A1 : Option Addr} {R : List Bool} {Q : List Nat} (h : RS w gr gw gm base n (.slice A1 (t + 1) c1) R (Q ++ [k])) (hQ : Q.length = t) (h2 : gr < base ∧ gw < base ∧ gm < base ∧ gr ≠ gw ∧ gr ≠ gm ∧ gw ≠ gm) :
    RS (w.setCell ⟨gw, 0, none⟩ (.slice A1 t c1)) gr gw gm base n (.slice A1 t c1) R Q := by
  obtain ⟨p1, p2, p3, p4, p5, p6⟩ := h2
  refine ⟨h.br.far p4 _, h.bm.far (Ne.symm p6) _, h.bw.set_ 0 _, ?_, h.len, fun j hj => h.qn j (List.mem_append_left _ hj), ?_⟩
  · refine row_kept (g := gw) ?_ (only_setCell (g := gw) (p := ⟨gw, 0, none⟩) (only_refl w _) (.inl rfl) _) p2
    refine ⟨by rw [natV_length, Nat.mul_one], ?_⟩
    rcases h.row.2 with ⟨h9, _⟩ | ⟨g, cap, cur, hv, hg, hh, hc1, hc2, hc3, hc4⟩
    · simp at h9
    · rw [List.length_append, List.length_singleton, hQ] at hv hc1 hc4
      injection hv with e1 e2 e3
      subst e1 e3
      refine .inr ⟨g, _, cur, by rw [hQ], hg, hh, by omega, hc2, hc3, ?_⟩
      have h9 := congrArg (List.take t) hc4
      rw [List.take_take, show min t ((t + 1) * 1) = t by omega, ← natV_snoc, List.take_append_of_le_length (by rw [natV_length, hQ]; exact Nat.le_refl _), List.take_of_length_le (l := natV Q) (by rw [natV_length, hQ]; exact Nat.le_refl _)] at h9
      rw [hQ, Nat.mul_one]
      exact h9
  · have := h.sum
    rw [List.length_append, List.length_singleton] at this
    omega
theorem RS.last {w : World} {gr gw gm base n t c1 k : Nat} {A1 : Option Addr} {R : List Bool} {Q : List Nat} (h : RS w gr gw gm base n (.slice A1 (t + 1) c1) R (Q ++ [k])) (hQ : Q.length = t) : ∃ bq, A1 = some ⟨bq, 0, none⟩ ∧ t + 1 ≤ c1 ∧ w.cell? ⟨bq, t, none⟩ = some (.int .i64 (k : Int)) := by
  rcases h.row.2 with ⟨h9, _⟩ | ⟨g, cap, cur, hv, hg, hh, hc1, hc2, hc3, hc4⟩
  · simp at h9
  · rw [List.length_append, List.length_singleton, hQ] at hv hc1
    injection hv with e1 e2 e3
    subst e1 e3
    refine ⟨g, rfl, hc1, ?_⟩
    have := World.ownsRow.cells h.row (g := g) rfl t (.int .i64 (k : Int)) (by rw [natV_at (by rw [List.length_append, List.length_singleton]; omega)]; simp [List.getD, ← hQ])
    rw [Addr.add_lit, Nat.zero_add] at this
    exact this
theorem nextL_len (l : List Ins) (a : Int) : (nextL l a).length ≤ 2 := by
  unfold nextL
  split
  · simp
  · refine Nat.le_trans (List.length_filter_le _ _) ?_
    unfold cands
    split
    · simp
    · split
      · simp
      · split
        · split
          · simp
          · split <;> simp
        · simp

set_option maxRecDepth 100000 in
set_option maxHeartbeats 4000000 in
set_option linter.unusedSimpArgs false in
theorem coReached (A : Option Addr) (l : List Ins) (n cp : Nat) (hl : l.length = n) (hn : n ≤ 1000000) (w : World) (hA : InsAt w A l) : Calls Tryd.prog 19 #[.slice A n cp] w (ReachPost w l) := by
  obtain ⟨i1, hi0, hz0, hz1, hz2⟩ := info_parts bool_info
  have H := Lib.hid (And.intro hl hA)
  clear hl hA
  have hmk : ∀ W : World, (Instr.makeSlice 43 (.int .i64 (n : Int)) (.int .i64 (n : Int))).run Tryd.prog W = .ok (.slice (some ⟨W.heap.size, 0, none⟩) n n) (W.alloc (.cells (bcs (List.replicate n false)).toArray 4)) := fun W => by
    have h := run_make (P := Tryd.prog) W 43 4 i1 _ Tryd.underlying43 hi0 hz0 .i64 .i64 n n (by omega) (by omega) (by rw [hz2]; omega) (by omega)
    simp only [Int.toNat_natCast, hz1, Nat.mul_one] at h
    rw [show (Value.bool false).cells = #[Value.bool false] from rfl, made_bools] at h
    exact h
  go_enter Tryd.func19, Tryd.ntmps19
  go_wp2_with fail
  refine (coPlaces A n cp _ [(0 : Int)] 1 1 rfl (by decide) _ (vsNew _ _ (by simp) [(0 : Int)])).mono ?_
  rintro e w9 ⟨v9, rfl, hr9, hb9⟩
  have hsz4 : ((((w.alloc (.cells (bcs (List.replicate n false)).toArray 4)).alloc (.cells #[.slice (some ⟨w.heap.size, 0, none⟩) n n] 43)).alloc (.cells #[.slice none 0 0] 33)).alloc (.cells (zv [0]).toArray 3)).heap.size = w.heap.size + 1 + 1 + 1 + 1 := by simp
  have hbel4 : Below w.heap.size w ((((w.alloc (.cells (bcs (List.replicate n false)).toArray 4)).alloc (.cells #[.slice (some ⟨w.heap.size, 0, none⟩) n n] 43)).alloc (.cells #[.slice none 0 0] 33)).alloc (.cells (zv [0]).toArray 3)) :=
    (((below_alloc w _).alloc (by simp) _).alloc (by simp; omega) _).alloc (by simp; omega) _
  have hbel9 := hbel4.trans (hb9.mono hbel4.size)
  have hS9 := (rs0 w n _).below hb9
  have hsz9 : w.heap.size + 1 + 1 + 1 + 1 ≤ w9.heap.size := by have := hb9.size; rw [hsz4] at this; exact this
  rw [hsz4] at hr9
  obtain ⟨N0, hN0, hN0d⟩ : ∃ N0 : List Nat, placesL n [(0 : Int)] = natI N0 ∧ N0 = [0].filter fun m => decide (m < n) := ⟨_, placesL_nat n [0], rfl⟩
  have hN0n : ∀ k ∈ N0, k < n := fun k hk => by rw [hN0d] at hk; simpa using (List.mem_filter.1 hk).2
  have hN00 : 0 < n → 0 ∈ N0 := fun h0 => by rw [hN0d]; simp [h0]
  have hN0l : N0.length ≤ 1 := by rw [hN0d]; exact List.length_filter_le _ _
  rw [hN0] at hr9
  have hNl : (natI N0).length = N0.length := by simp [natI]
  rw [hNl] at hr9
  obtain ⟨m9, em9⟩ : ∃ m9, N0.length = m9 := ⟨_, rfl⟩
  rw [em9] at hr9 hN0l
  obtain ⟨A9, c9, rfl, _, _, _, _⟩ := vs_of_row hr9
  have hF9 := foundOk_row (v := .slice none 0 0) hr9 (show w.heap.size < w.heap.size + 1 + 1 + 1 + 1 by omega) (show w.heap.size + 1 + 1 < w.heap.size + 1 + 1 + 1 + 1 by omega) (fun g e => by cases e)
  obtain ⟨b0, eb0⟩ : ∃ x, w.heap.size = x := ⟨_, rfl⟩
  rw [eb0] at hS9 hsz9 hF9 hbel9 ⊢
  obtain ⟨gr, egr⟩ : ∃ x, b0 + 1 = x := ⟨_, rfl⟩
  obtain ⟨gw, egw⟩ : ∃ x, b0 + 1 + 1 = x := ⟨_, rfl⟩
  obtain ⟨base, eba⟩ : ∃ x, b0 + 1 + 1 + 1 = x := ⟨_, rfl⟩
  have hg1 : b0 ≤ gr ∧ b0 ≤ gw ∧ b0 ≤ b0 ∧ b0 ≤ base := by omega
  have hg2 : gr < base ∧ gw < base ∧ b0 < base ∧ gr ≠ gw ∧ gr ≠ b0 ∧ gw ≠ b0 := by omega
  have hsz9' : base ≤ w9.heap.size := by omega
  rw [eba, egw, egr] at hS9
  rw [egw] at hF9
  rw [eba, egw, egr]
  have HC := Lib.hid (coReach hn hg1 hg2 A9 N0 m9 c9 em9 (by omega) w9 hsz9' _ _ _ hS9 hF9 hN0n)
  have HG := Lib.hid (And.intro hg1 (And.intro hg2 (And.intro hbel9 (And.intro hsz9' (And.intro hN00 eb0)))))
  clear hsz4 hbel4 hbel9 hS9 hsz9 hr9 hN0 hN0d hN0n hN00 hN0l hNl em9 hF9 eb0 egr egw eba hg1 hg2 hsz9' hb9 hmk
  go_wp2_with (go_at_call 32; refine HC.out.mono ?_; rintro e w10 ⟨rfl, v10, R10, Q10, hS10, hM10, hb10⟩)
  have hR10 : Reaching l n R10 Q10 := ⟨fun h0 => hM10.all 0 (HG.out.2.2.2.2.1 h0), fun k hk => by
    rcases hM10.new_ k hk with h9 | h9
    · exfalso
      have : ∀ (n k : Nat), (List.replicate n false).getD k false = false := fun n k => by simp [List.getD, List.getElem?_replicate]; split <;> rfl
      rw [this] at h9
      cases h9
    · exact .inl h9⟩
  have hbel10 := HG.out.2.2.1.trans hb10
  have hsz10 : base ≤ w10.heap.size := Nat.le_trans HG.out.2.2.2.1 hb10.size
  have H10 := Lib.hid (And.intro hS10 (And.intro hR10 (And.intro hbel10 hsz10)))
  clear hS10 hM10 hR10 hbel10 hsz10 hb10 HC
  go_loopw [] (fun wz => ∃ (v : Value) (R : List Bool) (Q : List Nat), RS wz gr gw b0 base n v R Q ∧ Reaching l n R Q ∧ Below b0 w wz ∧ base ≤ wz.heap.size) (fun wz => toDo gw b0 wz)
  case atStart => exact ⟨v10, R10, Q10, H10.out.1, H10.out.2.1, H10.out.2.2.1, H10.out.2.2.2⟩
  case round =>
    obtain ⟨v, R, Q, hS, hR, hbel, hsz⟩ := hrel
    rcases List.eq_nil_or_concat Q with hQ | ⟨Qd, k, hQ⟩
    · subst hQ
      obtain ⟨A1, c1, ev, _⟩ := vs_of_row hS.row
      have ev' : v = .slice A1 0 c1 := ev
      subst ev'
      have c0 : wr.cell? ⟨gw, 0, none⟩ = some (.slice A1 0 c1) := by rw [hS.bw.cell]; rfl
      have cr : wr.cell? ⟨gr, 0, none⟩ = some (.slice (some ⟨b0, 0, none⟩) n n) := by rw [hS.br.cell]; rfl
      have HF := Lib.hid (And.intro hS (And.intro hR hbel))
      clear hS hR hbel hsz ev
      go_wp2_with fail
      go_ret
      refine ⟨some ⟨b0, 0, none⟩, n, R, (by rw [H.out.1]; rfl), ⟨by rw [HF.out.1.len, H.out.1], fun h0 => HF.out.2.1.head (by rwa [H.out.1] at h0), fun k hk => ?_⟩, vs_of_blk HF.out.1.bm HF.out.1.bm.lt, by rw [HG.out.2.2.2.2.2]; exact HF.out.2.2⟩
      rcases HF.out.2.1.next k hk with h9 | h9
      · exact absurd h9 (by simp)
      · exact h9
    · rw [List.concat_eq_append] at hQ
      subst hQ
      obtain ⟨t, et⟩ : ∃ t, Qd.length = t := ⟨_, rfl⟩
      obtain ⟨A1, c1, ev, _⟩ := vs_of_row hS.row
      rw [List.length_append, List.length_singleton, et] at ev
      subst ev
      have hkn := hS.qn k (List.mem_append_right _ (List.mem_singleton_self k))
      have htn : t + 1 ≤ n := by have := hS.sum; rw [List.length_append, List.length_singleton, et] at this; omega
      obtain ⟨bq, rfl, htc, ct⟩ := hS.last et
      have hpop := hS.pop et HG.out.2.1
      have c0 : wr.cell? ⟨gw, 0, none⟩ = some (.slice (some ⟨bq, 0, none⟩) (t + 1) c1) := by rw [hS.bw.cell]; rfl
      have hfz := hS.bw.frozen 0
      have htodo := hS.toDo
      rw [List.length_append, List.length_singleton] at htodo
      have hbel1 := hbel.setCell (p := ⟨gw, 0, none⟩) HG.out.1.2.1 (.slice (some ⟨bq, 0, none⟩) t c1)
      have hsz1 : base ≤ (wr.setCell ⟨gw, 0, none⟩ (.slice (some ⟨bq, 0, none⟩) t c1)).heap.size := by simpa [World.setCell] using hsz
      obtain ⟨q, eq⟩ : ∃ q, t + 1 = q := ⟨_, rfl⟩
      rw [eq] at c0
      have i1 : ((q : Int) - 1) = (t : Int) := by omega
      have i2 : (t : Int) < (q : Int) := by omega
      have i3 : (0 : Int) ≤ (t : Int) := by omega
      have i4 : (q : Int) > 0 := by omega
      have i5 : (t : Int) ≤ (c1 : Int) := by omega
      have i6 : t ≤ c1 := by omega
      have i8 : t < n := htn
      have i11 : t ≤ 1000000 := by omega
      have i9 : 0 < q := eq ▸ Nat.succ_pos t
      have i10 : t < q := eq ▸ Nat.lt_succ_self t
      have HF := Lib.hid (And.intro hpop (And.intro hR (And.intro hbel1 (And.intro hsz1 (And.intro htodo (And.intro hkn htn))))))
      clear hpop hR hbel1 hsz1 htodo hkn htn hS hbel hsz et
      obtain ⟨w1, ew1⟩ : ∃ x, wr.setCell ⟨gw, 0, none⟩ (.slice (some ⟨bq, 0, none⟩) t c1) = x := ⟨_, rfl⟩
      rw [ew1] at HF
      have hA1 : InsAt w1 A l := H.out.2.below (by rw [HG.out.2.2.2.2.2]; exact HF.out.2.2.1)
      have HN := Lib.hid (coNextOwn A l n cp H.out.1 hn w1 hA1 (k : Int))
      clear hA1 eq
      have HLn := Lib.hid (nextL_len l (k : Int))
      have HLlt := Lib.hid (fun m (hm : m ∈ nextL l (k : Int)) => H.out.1 ▸ nextL_lt (l := l) (a := k) hm)
      obtain ⟨N, eN⟩ : ∃ N, nextL l (k : Int) = N := ⟨_, rfl⟩
      rw [eN] at HN HLn HLlt
      obtain ⟨m, em⟩ : ∃ m, N.length = m := ⟨_, rfl⟩
      have HE := Lib.hid (And.intro eN em)
      clear eN em
      go_wp2_with (first
        | (go_at_call 18; refine HN.out.mono ?_; rintro e w2 ⟨v2, rfl, hr2, hb2⟩; rw [show (natI N).length = m by rw [← HE.out.2]; simp [natI]] at hr2; obtain ⟨A2, c2, rfl, _, _, _, _⟩ := vs_of_row hr2; have HR2 := Lib.hid (And.intro hr2 hb2); clear hr2 hb2)
        | fail)
      have hbs : base ≤ w2.heap.size := Nat.le_trans HF.out.2.2.2.1 HR2.out.2.size
      have hF2 := foundOk_row (v := .slice (some ⟨bq, 0, none⟩) t c1) (N := N) HR2.out.1 (show b0 < w1.heap.size from Nat.lt_of_lt_of_le HG.out.2.1.2.2.1 HF.out.2.2.2.1) (show gw < w1.heap.size from Nat.lt_of_lt_of_le HG.out.2.1.2.1 HF.out.2.2.2.1) (fun g e => (World.ownsRow.lt HF.out.1.row g e).2)
      have hml : m ≤ 1000000 := by have := HLn.out; rw [HE.out.2] at this; exact Nat.le_trans this (by decide)
      have HC := Lib.hid (coReach hn HG.out.1 HG.out.2.1 A2 N m c2 HE.out.2 hml w2 hbs _ R Qd (HF.out.1.below HR2.out.2) hF2 HLlt.out)
      clear hF2 hml
      go_wp2_with (go_at_call 32; refine HC.out.mono ?_; rintro e w3 ⟨rfl, v3, R3, Q3, hS3, hM3, hb3⟩)
      go_roundw
      case rel =>
        refine ⟨v3, R3, Q3, hS3, HF.out.2.1.step (by rw [HE.out.1]; exact hM3), ?_, Nat.le_trans hbs hb3.size⟩
        have h12 : Below b0 w w2 := HF.out.2.2.1.trans (HR2.out.2.mono (Nat.le_trans HG.out.1.2.2.2 HF.out.2.2.2.1))
        exact h12.trans hb3
      case measure =>
        have h1 := HF.out.2.2.2.2.1
        have h2 := hS3.toDo
        have h3 := hM3.sum
        omega
end Go.Proofs.YtbpmmklnjbkmlaaDoor
