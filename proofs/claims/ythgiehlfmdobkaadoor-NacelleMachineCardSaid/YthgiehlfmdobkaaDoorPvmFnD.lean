/-
  slices.Clone of words, package pvm's New, May, fetch, by their contracts. Conditions: each theorem's own premises.
-/
import Derived.Test.YthgiehlfmdobkaaDoorPvmFnC
namespace Go.Proofs.YthgiehlfmdobkaaDoor
open Go.RowKit

def WordPost (w : World) (l : List Int) (n : Nat) (e : Ending) (w' : World) : Prop :=
  ∃ A c, e = .returned (.slice A n c) ∧ n ≤ c ∧ w'.ownsRow w.heap.size 2 1 (.slice A n c) n (zv l) ∧ Below w.heap.size w w'

set_option maxRecDepth 100000 in
theorem wordClone (w : World) (S : Option Addr) (l : List Int) (c n : Nat) (hn : l.length = n) (hS : Vs w w.heap.size S (zv l)) (hl : n ≤ 1000000) :
    Calls Tryd.prog 27 #[.slice S n c] w (WordPost w l n) := by
  have h0 := fun (w : World) => Lib.run_eql_slice_nil (P := Tryd.prog) w 24 2
  obtain ⟨i0, hi0, hz0, hz1, hz2⟩ := info_parts j_info
  rcases S with _ | a
  · have hl0 : l = [] := by
      rcases Nat.eq_zero_or_pos l.length with h | h
      · exact List.eq_nil_of_length_eq_zero h
      · obtain ⟨_, _, e, _⟩ := hS (by rw [zv_length]; exact h)
        cases e
    subst hl0
    obtain rfl : n = 0 := hn.symm
    clear hS hn hl
    go_enter Tryd.func27, Tryd.ntmps27
    go_wp2_with fail
    go_ret
    exact ⟨none, 0, rfl, Nat.le_refl _, row_nil _ _ _ _, Below.refl _ _⟩
  · have HS := Lib.hid (And.intro hS (And.intro hn hl))
    clear hS hn hl
    go_enter Tryd.func27, Tryd.ntmps27
    go_wp2_with (first
      | (at_builtin
         refine wpList_append_row _ rfl (.tmp 5) (.tmp 6) 24 rfl w.heap.size 2 i0 _ 1 8 Tryd.underlying24 hi0 hz0 hz1 hz2 rfl (by decide) _ 0 [] rfl (row_empty w w.heap.size 1 2 (Nat.le_refl _)) w.heap.size (some a) c n (zv l) rfl (HS.out.1.below (below_alloc w _)) (by rw [zv_length, HS.out.2.1]; omega) (zv_one _) (by have := HS.out.2.2; omega) (by have := HS.out.2.2; unfold maxLen; omega) (by simp) ?_
         intro v1 w1 hown1 hg1 hb1)
      | fail)
    go_ret
    rw [Nat.zero_add, List.nil_append] at hown1
    obtain ⟨A, c1, rfl, hc1, _, _, _⟩ := vs_of_row hown1
    exact ⟨A, c1, rfl, hc1, hown1, (below_alloc w _).trans (only_below hg1 (by simp) (fun g' e => by cases e; exact Nat.le_refl _))⟩

set_option maxRecDepth 100000 in
set_option maxHeartbeats 4000000 in
set_option linter.unusedSimpArgs false in
theorem pvMay (w : World) (M : Mach) (B : Option Addr) (k d : Nat) (hM : MachAt w M B k d) : Calls Tryd.prog 16 #[mv M B k d] w (Says w (.bool (mayM M))) := by
  have hlen := hM.len
  obtain ⟨p, ep⟩ : ∃ x, M.p = x := ⟨_, rfl⟩
  obtain ⟨s, es⟩ : ∃ x, M.s = x := ⟨_, rfl⟩
  obtain ⟨t, et⟩ : ∃ x, M.t = x := ⟨_, rfl⟩
  have hmh := fun W => pvMayHave s t W
  have hres : mayM M = decide (0 ≤ p ∧ p ≤ 65535 ∧ k ≤ 64 ∧ ((s = 2 ∧ 80 ≤ t ∧ t ≤ 83) ∨ ((s = 0 ∨ s = 1) ∧ t = 0))) := by unfold mayM; rw [ep, es, et, hlen]
  rw [hres]
  obtain ⟨q, eq⟩ : ∃ q, decide ((s = 2 ∧ 80 ≤ t ∧ t ≤ 83) ∨ ((s = 0 ∨ s = 1) ∧ t = 0)) = q := ⟨_, rfl⟩
  rw [eq] at hmh
  have HQ := Lib.hid (And.intro eq hmh)
  clear hM hlen hres eq hmh
  unfold mv
  rw [ep, es, et]
  clear ep es et
  go_enter Tryd.func16, Tryd.ntmps16
  by_cases h0 : p ≥ 0
  · by_cases h1 : p ≤ 65535
    · by_cases h2 : (k : Int) ≤ 64
      · have hz : decide (0 ≤ p ∧ p ≤ 65535 ∧ k ≤ 64 ∧ ((s = 2 ∧ 80 ≤ t ∧ t ≤ 83) ∨ ((s = 0 ∨ s = 1) ∧ t = 0))) = q := by
          rw [← HQ.out.1, Bool.eq_iff_iff, decide_eq_true_iff, decide_eq_true_iff]
          exact ⟨fun h => h.2.2.2, fun h => ⟨h0, h1, by omega, h⟩⟩
        rw [hz]
        clear hz
        go_wp2_with (first | (go_at_call 35; refine (HQ.out.2 _).mono ?_; rintro e w1 ⟨rfl, hb1⟩))
        go_ret
        exact ⟨rfl, (below_alloc w _).trans (hb1.mono (below_alloc w _).size)⟩
      · rw [decide_eq_false (by omega)]
        go_wp2_with fail
        go_ret
        exact ⟨rfl, below_alloc w _⟩
    · rw [decide_eq_false (by omega)]
      go_wp2_with fail
      go_ret
      exact ⟨rfl, below_alloc w _⟩
  · rw [decide_eq_false (by omega)]
    go_wp2_with fail
    go_ret
    exact ⟨rfl, below_alloc w _⟩
end Go.Proofs.YthgiehlfmdobkaaDoor
