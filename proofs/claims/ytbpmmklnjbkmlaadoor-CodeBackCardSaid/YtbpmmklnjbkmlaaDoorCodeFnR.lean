/-
  Package code's Reached: its closure, by its contract. Conditions: each theorem's own premises.
-/
import Derived.Test.YtbpmmklnjbkmlaaDoorCodeFnX
namespace Go.Proofs.YtbpmmklnjbkmlaaDoor
open Go.RowKit

def falses : List Bool → Nat
  | [] => 0
  | true :: r => falses r
  | false :: r => falses r + 1
theorem falses_set : ∀ {R : List Bool} {k : Nat}, k < R.length → R.getD k false = false → falses (R.set k true) + 1 = falses R
  | a :: r, 0, _, h => by
    rw [List.getD_cons_zero] at h
    subst h
    rfl
  | a :: r, k + 1, hk, h => by
    rw [List.getD_cons_succ] at h
    have ih := falses_set (R := r) (k := k) (by simpa using hk) h
    rw [List.set_cons_succ]
    cases a <;> simp only [falses] <;> omega
theorem falses_le : ∀ R : List Bool, falses R ≤ R.length
  | [] => Nat.le_refl _
  | true :: r => Nat.le_succ_of_le (falses_le r)
  | false :: r => Nat.succ_le_succ (falses_le r)
theorem getD_set (R : List Bool) (k j : Nat) (hk : k < R.length) : (R.set k true).getD j false = if j = k then true else R.getD j false := by
  by_cases h : j = k
  · subst h
    simp [List.getD, hk]
  · rw [if_neg h]
    simp [List.getD, Ne.symm h]
theorem bcs_set (R : List Bool) (k : Nat) : (bcs R).toArray.setIfInBounds k (.bool true) = (bcs (R.set k true)).toArray := by simp [bcs, List.map_set]
theorem bcs_at {R : List Bool} {j : Nat} (h : j < R.length) : (bcs R).toArray[j]? = some (.bool (R.getD j false)) := by simp [bcs, List.getD, h]
theorem nextL_lt {l : List Ins} {a m : Nat} (hm : m ∈ nextL l (a : Int)) : m < l.length := by
  unfold nextL at hm
  split at hm
  · cases hm
  · simpa using (List.mem_filter.1 hm).2
theorem natV_length (l : List Nat) : (natV l).length = l.length := by simp [natV, zv]
theorem natV_at {l : List Nat} {j : Nat} (h : j < l.length) : (natV l)[j]? = some (.int .i64 ((l.getD j 0 : Nat) : Int)) := by simp [natV, zv, List.getD, h]
theorem natV_snoc (l : List Nat) (k : Nat) : natV l ++ [.int .i64 (k : Int)] = natV (l ++ [k]) := by simp [natV, zv]

/-- the variables of Reached: the marks R (in block gm), what waits: Q (the slice v) -/
structure RS (w : World) (gr gw gm base n : Nat) (v : Value) (R : List Bool) (Q : List Nat) : Prop where
  br : Blk w gr 43 #[.slice (some ⟨gm, 0, none⟩) n n]
  bm : Blk w gm 4 (bcs R).toArray
  bw : Blk w gw 33 #[v]
  row : w.ownsRow base 3 1 v Q.length (natV Q)
  len : R.length = n
  qn : ∀ k ∈ Q, k < n
  sum : Q.length + falses R ≤ n
/-- what was found: not among what changes -/
structure FoundOk (w : World) (gm gw : Nat) (v : Value) (F : Option Addr) (N : List Nat) : Prop where
  at_ : 0 < N.length → ∃ fb fo, F = some ⟨fb, fo, none⟩ ∧ fb < w.heap.size ∧ fb ≠ gm ∧ fb ≠ gw ∧ v.ownBlock ≠ some fb ∧ ∀ j u, (natV N)[j]? = some u → w.cell? ⟨fb, fo + j, none⟩ = some u
/-- marks R, what waits Q: what it comes to when all of N are marked -/
structure Marked (N : List Nat) (R R' : List Bool) (Q Q' : List Nat) : Prop where
  mono : ∀ k, R.getD k false = true → R'.getD k false = true
  all : ∀ k ∈ N, R'.getD k false = true
  keep : ∀ k ∈ Q, k ∈ Q'
  new_ : ∀ k, R'.getD k false = true → R.getD k false = true ∨ k ∈ Q'
  sum : Q'.length + falses R' = Q.length + falses R
def ReachedPost (b0 gr gw gm base n : Nat) (w : World) (N : List Nat) (R : List Bool) (Q : List Nat) (e : Ending) (w' : World) : Prop :=
  e = .returned (.tuple #[]) ∧ ∃ v' R' Q', RS w' gr gw gm base n v' R' Q' ∧ Marked N R R' Q Q' ∧ Below b0 w w'

section
variable {w : World} {gr gw gm base n : Nat} {v : Value} {R : List Bool} {Q : List Nat}
theorem RS.own_ne (h : RS w gr gw gm base n v R Q) {g : Nat} (hg : g < base) : some g ≠ v.ownBlock := fun e => by
  have := (World.ownsRow.lt h.row g e.symm).1
  omega
/-- one more is marked, and waits -/
theorem RS.push (h : RS w gr gw gm base n v R Q) (h2 : gr < base ∧ gw < base ∧ gm < base ∧ gr ≠ gw ∧ gr ≠ gm ∧ gw ≠ gm) {k : Nat} (hk : k < n) (hR : R.getD k false = false) (o : Obj) {w5 : World} {v5 : Value}
    (hg : ((w.setCell ⟨gm, k, none⟩ (.bool true)).alloc o).grownBy w5 v.ownBlock) (hr : w5.ownsRow base 3 1 v5 (Q.length + 1) (natV Q ++ [.int .i64 (k : Int)])) :
    RS (w5.setCell ⟨gw, 0, none⟩ v5) gr gw gm base n v5 (R.set k true) (Q ++ [k]) := by
  obtain ⟨p1, p2, p3, p4, p5, p6⟩ := h2
  have hkR : k < R.length := by rw [h.len]; exact hk
  refine ⟨?_, ?_, ?_, ?_, by rw [List.length_set]; exact h.len, fun j hj => ?_, ?_⟩
  · exact (((h.br.far p5 _).alloc o).grown hg (h.own_ne p1)).far p4 _
  · have := (((h.bm.set_ k (.bool true)).alloc o).grown hg (h.own_ne p3)).far (p := ⟨gw, 0, none⟩) (Ne.symm p6) v5
    rwa [bcs_set] at this
  · exact (((h.bw.far p6 _).alloc o).grown hg (h.own_ne p2)).set_ 0 v5
  · rw [natV_snoc] at hr
    rw [List.length_append]
    exact row_kept hr (only_setCell (g := gw) (p := ⟨gw, 0, none⟩) (only_refl w5 _) (.inl rfl) v5) p2
  · rcases List.mem_append.1 hj with h9 | h9
    · exact h.qn j h9
    · rw [List.mem_singleton] at h9
      rw [h9]
      exact hk
  · have := falses_set hkR hR
    have := h.sum
    rw [List.length_append, List.length_singleton]
    omega
theorem FoundOk.push {F : Option Addr} {N : List Nat} (h : FoundOk w gm gw v F N) (k : Nat) (o : Obj) {w5 : World} {v5 : Value}
    (hg : ((w.setCell ⟨gm, k, none⟩ (.bool true)).alloc o).grownBy w5 v.ownBlock) (hv : v5.ownBlock = v.ownBlock ∨ ∃ g, v5.ownBlock = some g ∧ w.heap.size ≤ g) : FoundOk (w5.setCell ⟨gw, 0, none⟩ v5) gm gw v5 F N := by
  refine ⟨fun h0 => ?_⟩
  obtain ⟨fb, fo, e, hlt, q1, q2, q3, hc⟩ := h.at_ h0
  have hs : (w.setCell ⟨gm, k, none⟩ (.bool true)).heap.size = w.heap.size := by simp [World.setCell]
  have hs1 : ((w.setCell ⟨gm, k, none⟩ (.bool true)).alloc o).heap.size = w.heap.size + 1 := by simp [World.setCell]
  have hs5 : w.heap.size ≤ w5.heap.size := by
    have := hg.size
    rw [hs1] at this
    omega
  refine ⟨fb, fo, e, by simp [World.setCell]; omega, q1, q2, ?_, fun j u hj => ?_⟩
  · rcases hv with h9 | h9
    · rw [h9]; exact q3
    · obtain ⟨g, hg9, hl9⟩ := h9
      rw [hg9]
      exact fun e => by injection e with e; omega
  · rw [World.cell?_setCell_other w5 ⟨gw, 0, none⟩ ⟨fb, fo + j, none⟩ v5 (fun e => q2 (by injection e with e1; exact e1.symm))]
    rw [World.cell?_of_block (hg.block fb (by rw [hs1]; omega) (Ne.symm q3))]
    rw [World.cell?_alloc_lt _ _ ⟨fb, fo + j, none⟩ (by rw [hs]; exact hlt), World.cell?_setCell_other w ⟨gm, k, none⟩ ⟨fb, fo + j, none⟩ _ (fun e => q1 (by injection e with e1; exact e1.symm))]
    exact hc j u hj
end
theorem Marked.nil (R : List Bool) (Q : List Nat) : Marked [] R R Q Q := ⟨fun _ h => h, fun _ h => absurd h (by simp), fun _ h => h, fun _ h => .inl h, rfl⟩
theorem Marked.skip {N : List Nat} {R R' : List Bool} {Q Q' : List Nat} (h : Marked N R R' Q Q') {k : Nat} (hk : R'.getD k false = true) : Marked (N ++ [k]) R R' Q Q' :=
  ⟨h.mono, fun j hj => by
    rcases List.mem_append.1 hj with h9 | h9
    · exact h.all j h9
    · rw [List.mem_singleton] at h9
      rw [h9]
      exact hk, h.keep, h.new_, h.sum⟩
theorem Marked.push {N : List Nat} {R R' : List Bool} {Q Q' : List Nat} (h : Marked N R R' Q Q') {k : Nat} (hl : k < R'.length) (hk : R'.getD k false = false) : Marked (N ++ [k]) R (R'.set k true) Q (Q' ++ [k]) :=
  ⟨fun j hj => by
    rw [getD_set R' k j hl]
    split
    · rfl
    · exact h.mono j hj, fun j hj => by
    rw [getD_set R' k j hl]
    split
    · rfl
    · rcases List.mem_append.1 hj with h9 | h9
      · exact h.all j h9
      · rw [List.mem_singleton] at h9
        exact absurd h9 (by assumption), fun j hj => List.mem_append_left _ (h.keep j hj), fun j hj => by
    rw [getD_set R' k j hl] at hj
    split at hj
    · rename_i e
      exact .inr (List.mem_append_right _ (by rw [e]; exact List.mem_singleton_self _))
    · rcases h.new_ j hj with h9 | h9
      · exact .inl h9
      · exact .inr (List.mem_append_left _ h9), by
    have := falses_set hl hk
    have := h.sum
    rw [List.length_append, List.length_singleton]
    omega⟩

set_option maxRecDepth 100000 in
set_option maxHeartbeats 4000000 in
set_option linter.unusedSimpArgs false in
theorem coReach {b0 gr gw gm base n : Nat} (hn : n ≤ 1000000) (h1 : b0 ≤ gr ∧ b0 ≤ gw ∧ b0 ≤ gm ∧ b0 ≤ base) (h2 : gr < base ∧ gw < base ∧ gm < base ∧ gr ≠ gw ∧ gr ≠ gm ∧ gw ≠ gm) (F : Option Addr) (N : List Nat) (m c : Nat) (hN : N.length = m) (hm : m ≤ 1000000) (w : World) (hb : base ≤ w.heap.size)
    (v : Value) (R : List Bool) (Q : List Nat) (hS : RS w gr gw gm base n v R Q) (hF : FoundOk w gm gw v F N) (hNn : ∀ k ∈ N, k < n) :
    Calls Tryd.prog 32 #[.slice F m c, .pointer (some ⟨gr, 0, none⟩), .pointer (some ⟨gw, 0, none⟩)] w (ReachedPost b0 gr gw gm base n w N R Q) := by
  obtain ⟨i1, hi0, hz0, hz1, hz2⟩ := info_parts i_info
  have H := Lib.hid (And.intro hN (And.intro hS (And.intro hF (And.intro hNn (And.intro h1 (And.intro h2 hb))))))
  clear hN hS hF hNn h1 h2 hb
  go_enter Tryd.func32, Tryd.ntmps32
  go_wp2_with fail
  go_loopw [8] (fun u wz => ∃ (i : Nat) (v' : Value) (R' : List Bool) (Q' : List Nat), i ≤ m ∧ u = .int .i64 (i : Int) ∧ RS wz gr gw gm base n v' R' Q' ∧ FoundOk wz gm gw v' F N ∧ Marked (N.take i) R R' Q Q' ∧ Below b0 w wz ∧ base ≤ wz.heap.size) (fun u _ => m - (intOf u).toNat)
  case atStart => exact ⟨0, v, R, Q, by omega, rfl, H.out.2.1, H.out.2.2.1, Marked.nil R Q, Below.refl _ _, H.out.2.2.2.2.2.2⟩
  case round =>
    obtain ⟨i, v', R', Q', him, rfl, hS, hF, hM, hbel, hbs⟩ := hrel
    by_cases hlt : i < m
    · have hii : (i : Int) < (m : Int) := by omega
      have hige : (0 : Int) ≤ (i : Int) := by omega
      obtain ⟨k, ek⟩ : ∃ k, N.getD i 0 = k := ⟨_, rfl⟩
      have hkN : k ∈ N := by rw [← ek]; simp [List.getD, show i < N.length by rw [H.out.1]; exact hlt]
      have hkn := H.out.2.2.2.1 k hkN
      have htk : N.take (i + 1) = N.take i ++ [k] := by
        rw [List.take_add_one, ← ek]
        simp [List.getD, show i < N.length by rw [H.out.1]; exact hlt]
      obtain ⟨fb, fo, eF, hflt, q1, q2, q3, hfc⟩ := hF.at_ (by rw [H.out.1]; omega)
      have d0 : wr.cell? ⟨fb, fo + i, none⟩ = some (.int .i64 (k : Int)) := by rw [← ek]; exact hfc i _ (natV_at (by rw [H.out.1]; exact hlt))
      have d1 : wr.cell? ⟨gr, 0, none⟩ = some (.slice (some ⟨gm, 0, none⟩) n n) := by rw [hS.br.cell]; rfl
      have hkR : k < R'.length := by rw [hS.len]; exact hkn
      have hcm := bcs_at (R := R') (j := k) hkR
      obtain ⟨x, ex⟩ : ∃ x, R'.getD k false = x := ⟨_, rfl⟩
      rw [ex] at hcm
      have d2 : wr.cell? ⟨gm, k, none⟩ = some (.bool x) := by rw [hS.bm.cell]; exact hcm
      have hki : (k : Int) < (n : Int) := by omega
      have hk0 : (0 : Int) ≤ (k : Int) := by omega
      have hfm := hS.bm.frozen k
      have HI := Lib.hid (And.intro hS (And.intro hF (And.intro hM (And.intro hbel (And.intro hbs (And.intro ex (And.intro hkn (And.intro hkR htk))))))))
      subst eF
      clear hS hF hM hbel hbs ex hkn hkR htk hfc hcm q1 q2 q3 ek hkN
      cases x
      · have hgw : (wr.setCell ⟨gm, k, none⟩ (.bool true)).cell? ⟨gw, 0, none⟩ = some v' := by rw [(HI.out.1.bw.far H.out.2.2.2.2.2.1.2.2.2.2.2 _).cell]; rfl
        have hrow1 := row_kept HI.out.1.row (only_setCell (g := gm) (p := ⟨gm, k, none⟩) (only_refl wr _) (.inl rfl) (.bool true)) H.out.2.2.2.2.2.1.2.2.1
        have hsz1 : (wr.setCell ⟨gm, k, none⟩ (.bool true)).heap.size = wr.heap.size := by simp [World.setCell]
        obtain ⟨A1, c1, ev, _⟩ := vs_of_row HI.out.1.row
        obtain ⟨q, eq⟩ : ∃ q, Q'.length = q := ⟨_, rfl⟩
        have hqn : q ≤ n := by have := HI.out.1.sum; omega
        rw [eq] at ev hrow1
        subst ev
        have HR := Lib.hid (And.intro hrow1 (And.intro hsz1 eq))
        clear hrow1 eq
        go_wp2_with (first
          | (at_builtin; refine wpList_append_row _ rfl (.tmp 20) (.tmp 22) 33 rfl base 3 i1 _ 1 8 Tryd.underlying33 hi0 hz0 hz1 hz2 rfl (by decide) (.slice A1 q c1) q (natV Q') rfl (row_alloc HR.out.1 _) (wr.heap.size + 1) (some ⟨wr.heap.size, 0, none⟩) 1 1 [.int .i64 (k : Int)] rfl (by have := vs_of_blk (B := wr.heap.size + 1) (Blk.new (wr.setCell ⟨gm, k, none⟩ (.bool true)) 3 #[.int .i64 (k : Int)]) (by rw [HR.out.2.1]; exact Nat.lt_succ_self _); rw [HR.out.2.1] at this; exact this) rfl (zv_one [(k : Int)]) (by omega) (by unfold maxLen; omega) (by have := HI.out.2.2.2.2.1; simp; omega) ?_; refine fun v5 w5 hown5 hg5 hv5 => stopped ?_)
          | fail)
        obtain ⟨p1, p2, p3, p4, p5, p6⟩ := H.out.2.2.2.2.2.1
        have hRS := HI.out.1.push H.out.2.2.2.2.2.1 HI.out.2.2.2.2.2.2.1 HI.out.2.2.2.2.2.1 (.cells #[.int .i64 (k : Int)] 3) hg5 (by rw [HR.out.2.2]; exact hown5)
        have hFO := HI.out.2.1.push k (.cells #[.int .i64 (k : Int)] 3) hg5 (hv5.imp id (fun e => ⟨_, e, by simp [World.setCell]⟩))
        have hbw5 := ((HI.out.1.bw.far (p := ⟨gm, k, none⟩) p6 (.bool true)).alloc (.cells #[.int .i64 (k : Int)] 3)).grown hg5 (HI.out.1.own_ne p2)
        have hbel5 : Below b0 w w5 := by
          have hs0 : b0 ≤ wr.heap.size := Nat.le_trans H.out.2.2.2.2.1.2.2.2 HI.out.2.2.2.2.1
          have ha := ((HI.out.2.2.2.1.setCell (p := ⟨gm, k, none⟩) H.out.2.2.2.2.1.2.2.1 (.bool true)).alloc (by rw [HR.out.2.1]; exact hs0) (.cells #[.int .i64 (k : Int)] 3))
          exact ha.grown hg5 (by have := HR.out.2.1; simp; omega) (fun g' e => Nat.le_trans H.out.2.2.2.2.1.2.2.2 (World.ownsRow.lt HI.out.1.row g' e).1)
        have hsz5 : base ≤ w5.heap.size := by
          have h9 := hg5.size
          have := HI.out.2.2.2.2.1
          have := HR.out.2.1
          simp at h9
          omega
        have hbel6 := fun u => hbel5.setCell (p := ⟨gw, 0, none⟩) H.out.2.2.2.2.1.2.1 u
        have c5 : w5.cell? ⟨gw, 0, none⟩ = some (.slice A1 q c1) := by rw [hbw5.cell]; rfl
        have hfz5 := hbw5.frozen 0
        have hM6 := HI.out.2.2.1.push HI.out.2.2.2.2.2.2.2.1 HI.out.2.2.2.2.2.1
        rw [← HI.out.2.2.2.2.2.2.2.2] at hM6
        obtain ⟨A5, c5', rfl, _, _, _, _⟩ := vs_of_row hown5
        have HJ := Lib.hid (And.intro hRS (And.intro hFO (And.intro hM6 (And.intro (hbel6 (.slice A5 (q + 1) c5')) hsz5))))
        clear hRS hFO hbw5 hbel5 hsz5 hbel6 hM6 hown5 hg5 hv5
        refine go_on ?_
        go_wp2_with fail
        go_roundw
        case rel => exact ⟨i + 1, _, _, _, by omega, by go_num, HJ.out.1, HJ.out.2.1, HJ.out.2.2.1, HJ.out.2.2.2.1, by have := HJ.out.2.2.2.2; simpa [World.setCell] using this⟩
        case measure => simp only [intOf]; omega
      · go_wp2_with fail
        go_roundw
        case rel => exact ⟨i + 1, v', R', Q', by omega, by go_num, HI.out.1, HI.out.2.1, by rw [HI.out.2.2.2.2.2.2.2.2]; exact HI.out.2.2.1.skip HI.out.2.2.2.2.2.1, HI.out.2.2.2.1, HI.out.2.2.2.2.1⟩
        case measure => simp only [intOf]; omega
    · obtain rfl : i = m := by omega
      have hii : ¬ (i : Int) < (i : Int) := by omega
      rw [List.take_of_length_le (by rw [H.out.1]; exact Nat.le_refl _)] at hM
      go_wp2_with fail
      go_end0
      exact ⟨rfl, v', R', Q', hS, hM, hbel⟩
end Go.Proofs.YtbpmmklnjbkmlaaDoor
