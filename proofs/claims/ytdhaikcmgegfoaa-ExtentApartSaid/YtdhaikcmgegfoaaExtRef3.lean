/-
  The disk's reference: Image, by its contract. Conditions: the theorem's own premises.
-/
import Derived.Test.YtdhaikcmgegfoaaDiskCode9
import Derived.Test.YtdhaikcmgegfoaaExtRef2
namespace Go.Proofs.Ytdhaikcmgegfoaa
open Go.RowKit

theorem flat_take (h : List (List UInt8)) (k : Nat) (hk : k < h.length) : (h.take (k + 1)).flatten = (h.take k).flatten ++ h.getD k [] := by
  rw [List.take_add_one, List.flatten_append]
  simp [List.getD, hk]
theorem flat_take_len {h : List (List UInt8)} (hl : ∀ s ∈ h, s.length = 64) (k : Nat) : (h.take k).flatten.length ≤ 64 * k := by
  rw [flat_length (fun s hs => hl s (List.mem_of_mem_take hs)), List.length_take]
  omega
set_option maxRecDepth 100000 in
set_option maxHeartbeats 1000000 in
set_option linter.unusedSimpArgs false in
theorem refImage_any (w : World) (cs : List Value) (d : Dk) (h : RefIs w w.heap.size cs d) : Calls Try.prog 26 #[.agg cs.toArray] w fun e w' => e = .returned (sv d.has.flatten) ∧ Below w.heap.size w w' := by
  obtain ⟨hok, A0, W, S0, ca0, cw, cs0, ecs, hA0, _, _⟩ := h
  obtain ⟨X, hX⟩ : ∃ X, cs.toArray = X := ⟨_, rfl⟩
  rw [hX]
  obtain ⟨n, en⟩ : ∃ n, d.has.length = n := ⟨_, rfl⟩
  have H := Lib.hid (And.intro hX (And.intro ecs (And.intro hA0 (And.intro en hok))))
  have hn : n ≤ 256 := en ▸ hok.small
  clear hX ecs hA0 en hok
  go_enter Try.func26, Try.ntmps26
  go_wp2_with (first | (with_reducible refine st_box 45 ?_; refine stopped ?_) | fail)
  refine go_on ?_
  refine wpList_box rfl 45 (.tmp 0) rfl X rfl ?_
  intro w1 hb1 hw1 hz1
  simp only [Act.put, List.setIfInBounds_toArray, List.set_cons_zero, List.set_cons_succ]
  obtain ⟨g1, e1⟩ : ∃ g, w.heap.size = g := ⟨_, rfl⟩
  rw [e1] at hb1 hw1 ⊢
  have hc0 : w1.cell? ⟨g1, 0, none⟩ = some (.slice A0 n ca0) := by rw [hb1.cell, ← H.out.1, H.out.2.1, ← H.out.2.2.2.1]; rfl
  have HB := Lib.hid (And.intro hw1 (And.intro e1 (H.out.2.2.1.below (e1.symm ▸ hw1))))
  clear hb1 hw1 hz1 e1
  go_wp2_with fail
  go_loopw [3, 4] (fun v i wz => ∃ (k : Nat) (st : ByteArray), k ≤ n ∧ i = .int .i64 (k : Int) ∧ v = .string st ∧ st.data.toList = (d.has.take k).flatten ∧ wz = w1) (fun _ i _ => n - (intOf i).toNat)
  case atStart => exact ⟨0, _, by omega, rfl, rfl, rfl, rfl⟩
  case round =>
    obtain ⟨k, st, hk, rfl, rfl, hst, rfl⟩ := hrel
    have HS := Lib.hid hst
    clear hst
    by_cases hlt : k < n
    · have hki : (k : Int) < (n : Int) := by omega
      have hk0 : (0 : Int) ≤ (k : Int) := by omega
      obtain ⟨b, o, eA, hbb, hcell⟩ := HB.out.2.2 (by rw [svs_length, H.out.2.2.2.1]; omega)
      have hc := hcell k _ (svs_get (by rw [H.out.2.2.2.1]; exact hlt))
      obtain ⟨L, eL⟩ : ∃ L, d.has.getD k [] = L := ⟨_, rfl⟩
      have hL : L.length = 64 := eL ▸ getD_len H.out.2.2.2.2.len (by rw [H.out.2.2.2.1]; exact hlt)
      rw [eL] at hc
      obtain ⟨sL, esL⟩ : ∃ s : ByteArray, (⟨L.toArray⟩ : ByteArray) = s := ⟨_, rfl⟩
      have hc2 : wr.cell? ⟨b, o + k, none⟩ = some (.string sL) := by rw [hc, sv, esL]
      have hs1 : st.size = (d.has.take k).flatten.length := by rw [← HS.out]; rfl
      have hs2 : sL.size = 64 := by rw [← esL]; exact hL
      have hcat : st.size + sL.size ≤ 9223372036854775807 := by
        have := flat_take_len H.out.2.2.2.2.len k
        omega
      have hadd := fun (w : World) => run_string_add_sum (P := Try.prog) w st sL hcat
      have HL := Lib.hid (And.intro eL (And.intro esL eA))
      subst eA
      clear hc eL esL hcell hs1 hs2 hL
      go_wp2_with fail
      go_roundw
      case rel =>
        refine ⟨k + 1, _, by omega, by go_num, rfl, ?_, trivial⟩
        rw [flat_take d.has k (by rw [H.out.2.2.2.1]; exact hlt), HL.out.1, ByteArray.data_append, Array.toList_append, HS.out, ← HL.out.2.1]
      case measure => simp [intOf]; omega
    · obtain rfl : k = n := by omega
      have hnl : ¬ (k : Int) < (k : Int) := by omega
      go_wp2_with fail
      go_ret
      refine ⟨?_, by rw [HB.out.2.1]; exact HB.out.1⟩
      have e : st = ⟨d.has.flatten.toArray⟩ := ba_eq (by rw [HS.out, List.take_of_length_le (by rw [H.out.2.2.2.1]; exact Nat.le_refl _)])
      rw [sv, ← e]
      rfl
end Go.Proofs.Ytdhaikcmgegfoaa
