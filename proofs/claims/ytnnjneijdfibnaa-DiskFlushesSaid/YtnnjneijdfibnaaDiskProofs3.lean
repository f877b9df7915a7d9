/-
  PROVED: the statement of DiskFlushes: for every input the law answers true and each argument reads as it did. Conditions: none beyond the row's own.
-/
import Derived.Test.YtnnjneijdfibnaaRows
import Derived.WalkKit
import Derived.ProofKit
import Derived.Test.YtnnjneijdfibnaaActOpens
import Derived.Test.YtnnjneijdfibnaaDiskFlushes
namespace Go.Proofs.Ytnnjneijdfibnaa
open Go.ChangeShapes Go.WideShapes Go.ChangeAt Go.RowKit

set_option maxRecDepth 100000 in
theorem diskFlushes_lifted (os : Os) (started : os.Started) (H : Type) (enc : TypeId × Value → H) :
    ReturnsInHanded {} Try.checked os 4 .any (Rows.diskFlushesSpec.pre6 enc Try.prog Try.f4 Rows.diskFlushesRow.domain false) (Rows.diskFlushesSpec.post enc Try.prog Try.f4 false true false false) := by
  refine returnsInHanded_of_change_sized (C := Try.checked) own started (by kernel_rfl) Try.func4
    (ChangeSpec.witness6 (enc := enc) (C := Try.checked) false ⟨#[], #[.slice none 0 0, .slice none 0 0], []⟩ 8 (by kernel_rfl) (by kernel_rfl) (by kernel_rfl) (by kernel_rfl)) ?_
  intro W base args ds gs before hval0 hW _ hsz _
  have hW' := hW
  obtain ⟨p, q, hA0, hV, rfl, hfz, hnd⟩ := hW
  have hval : ∀ (j : Nat) t v, Try.f4.params[j]? = some t → args[j]? = some v → Value.okWide Try.prog W .any base t v := hval0
  have hA : DataW.TrodAll enc Try.prog W 0 (fun _ => true) true Try.f4.params.toList args.toList ds p := hA0
  rw [Try.params4] at hA hval
  obtain ⟨rfl, rfl⟩ := trodVars_none hV
  obtain ⟨v0, v1, d0, d1, p0, p1, rfl, rfl, rfl, h0, h1⟩ := trodAll_two hA
  have hsz' := hsz
  rw [Try.params4] at hsz'
  obtain ⟨A0, n0, c0, rfl, hn0, hp0⟩ := open_acts (sized_at hsz' (j := 0) rfl rfl) (hval 0 34 v0 rfl rfl) h0
  obtain ⟨S, keep, c, rfl, hS, _⟩ := open_keep (sized_at hsz' (j := 1) rfl rfl) (hval 1 35 v1 rfl rfl) h1
  have hna : n0 ≤ 9223372036854775807 := by simp only [maxLen] at hn0; omega
  refine (diskFlushes_calls A0 n0 c0 S keep c W hp0 hna hS).mono fun e W' ⟨he, hw⟩ => ?_
  subst he
  exact ⟨_, rfl, law_post hW' rfl (by kernel_rfl) (by kernel_rfl) rfl hw⟩

theorem diskFlushes_holds : Rows.DiskFlushesSaid :=
  OpenClaim.holds_of_wide 4 Try.f4 rfl rfl rfl rfl rfl rfl rfl ⟨rfl, rfl, rfl, rfl, rfl⟩ rfl rfl rfl rfl rfl (by kernel_rfl) Try.func4 (by kernel_rfl)
    (of_decide_eq_true (by kernel_rfl)) (by unfold Func.isWrapper; rw [if_neg (of_decide_eq_false (by kernel_rfl))]; exact ⟨rfl, rfl⟩)
    (fun os started H enc _ => diskFlushes_lifted os started H enc)
#print axioms diskFlushes_holds
end Go.Proofs.Ytnnjneijdfibnaa
