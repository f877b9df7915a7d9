/-
  PROVED: the statement of ExtentPlays: for every input the law answers true and each argument reads as it did. Conditions: none beyond the row's own.
-/
import Derived.Test.YtdhaikcmgegfoaaRows
import Derived.WalkKit
import Derived.ProofKit
import Derived.Test.YtdhaikcmgegfoaaExtOpens
import Derived.Test.YtdhaikcmgegfoaaExtPlays
namespace Go.Proofs.Ytdhaikcmgegfoaa
open Go.ChangeShapes Go.WideShapes Go.ChangeAt Go.RowKit

set_option maxRecDepth 100000 in
theorem extentPlays_lifted (os : Os) (started : os.Started) (H : Type) (enc : TypeId × Value → H) :
    ReturnsInHanded {} Try.checked os 5 .any (Rows.extentPlaysSpec.pre6 enc Try.prog Try.f5 Rows.extentPlaysRow.domain false) (Rows.extentPlaysSpec.post enc Try.prog Try.f5 false true false false) := by
  refine returnsInHanded_of_change_sized (C := Try.checked) own started (by kernel_rfl) Try.func5
    (ChangeSpec.witness6 (enc := enc) (C := Try.checked) false ⟨#[], #[.agg #[.int .i64 0, .int .i64 0], .slice none 0 0], []⟩ 8 (by kernel_rfl) (by kernel_rfl) (by kernel_rfl) (by kernel_rfl)) ?_
  intro W base args ds gs before hval0 hW _ hsz _
  have hW' := hW
  obtain ⟨p, q, hA0, hV, rfl, hfz, hnd⟩ := hW
  have hval : ∀ (j : Nat) t v, Try.f5.params[j]? = some t → args[j]? = some v → Value.okWide Try.prog W .any base t v := hval0
  have hA : DataW.TrodAll enc Try.prog W 0 (fun _ => true) true Try.f5.params.toList args.toList ds p := hA0
  rw [Try.params5] at hA hval
  obtain ⟨rfl, rfl⟩ := trodVars_none hV
  obtain ⟨v0, v1, d0, d1, p0, p1, rfl, rfl, rfl, h0, h1⟩ := trodAll_two hA
  have hsz' := hsz
  rw [Try.params5] at hsz'
  obtain ⟨xf, xc, rfl, hxf, hxc⟩ := open_ext (hval 0 25 v0 rfl rfl) h0
  obtain ⟨A0, n0, c0, rfl, hn0, hp0⟩ := open_xacts (sized_at hsz' (j := 1) rfl rfl) (hval 1 37 v1 rfl rfl) h1
  have hna : n0 ≤ 9223372036854775807 := by simp only [maxLen] at hn0; omega
  refine (extentPlays_calls xf xc hxf hxc A0 n0 c0 W hp0 hna).mono fun e W' ⟨he, hw⟩ => ?_
  subst he
  exact ⟨_, rfl, law_post hW' rfl (by kernel_rfl) (by kernel_rfl) rfl hw⟩

theorem extentPlays_holds : Rows.ExtentPlaysSaid :=
  OpenClaim.holds_of_wide 5 Try.f5 rfl rfl rfl rfl rfl rfl rfl ⟨rfl, rfl, rfl, rfl, rfl⟩ rfl rfl rfl rfl rfl (by kernel_rfl) Try.func5 (by kernel_rfl)
    (of_decide_eq_true (by kernel_rfl)) (by unfold Func.isWrapper; rw [if_neg (of_decide_eq_false (by kernel_rfl))]; exact ⟨rfl, rfl⟩)
    (fun os started H enc _ => extentPlays_lifted os started H enc)
#print axioms extentPlays_holds
end Go.Proofs.Ytdhaikcmgegfoaa
