/-
  PROVED: the statement of ExtentPlaces: for every input the law answers true and each argument reads as it did. Conditions: none beyond the row's own.
-/
import Derived.Test.YtdhaikcmgegfoaaRows
import Derived.WalkKit
import Derived.ProofKit
import Derived.Test.YtdhaikcmgegfoaaExtOpens
import Derived.Test.YtdhaikcmgegfoaaExtPlaces
namespace Go.Proofs.Ytdhaikcmgegfoaa
open Go.ChangeShapes Go.WideShapes Go.ChangeAt Go.RowKit

set_option maxRecDepth 100000 in
theorem extentPlaces_lifted (os : Os) (started : os.Started) (H : Type) (enc : TypeId × Value → H) :
    ReturnsInHanded {} Try.checked os 4 .any (Rows.extentPlacesSpec.pre6 enc Try.prog Try.f4 Rows.extentPlacesRow.domain false) (Rows.extentPlacesSpec.post enc Try.prog Try.f4 false true false false) := by
  refine returnsInHanded_of_change_sized (C := Try.checked) own started (by kernel_rfl) Try.func4
    (ChangeSpec.witness6 (enc := enc) (C := Try.checked) false ⟨#[], #[.agg #[.int .i64 0, .int .i64 0, .int .i64 0, .int .i64 0, .int .i64 0, .int .i64 0, .int .i64 0]], []⟩ 8 (by kernel_rfl) (by kernel_rfl) (by kernel_rfl) (by kernel_rfl)) ?_
  intro W base args ds gs before hval0 hW _ hsz _
  have hW' := hW
  obtain ⟨p, q, hA0, hV, rfl, hfz, hnd⟩ := hW
  have hval : ∀ (j : Nat) t v, Try.f4.params[j]? = some t → args[j]? = some v → Value.okWide Try.prog W .any base t v := hval0
  have hA : DataW.TrodAll enc Try.prog W 0 (fun _ => true) true Try.f4.params.toList args.toList ds p := hA0
  rw [Try.params4] at hA hval
  obtain ⟨rfl, rfl⟩ := trodVars_none hV
  obtain ⟨v0, d0, rfl, rfl, h0⟩ := trodAll_one hA
  obtain ⟨xf, xc, yf, yc, a, b, n, rfl, h1, h2, h3, h4, h5, h6, h7⟩ := open_places (hval 0 31 v0 rfl rfl) h0
  refine (extentPlaces_calls xf xc yf yc a b n h1 h2 h3 h4 h5 h6 h7 W).mono fun e W' ⟨he, hw⟩ => ?_
  subst he
  exact ⟨_, rfl, law_post hW' rfl (by kernel_rfl) (by kernel_rfl) rfl hw⟩

theorem extentPlaces_holds : Rows.ExtentPlacesSaid :=
  OpenClaim.holds_of_wide 4 Try.f4 rfl rfl rfl rfl rfl rfl rfl ⟨rfl, rfl, rfl, rfl, rfl⟩ rfl rfl rfl rfl rfl (by kernel_rfl) Try.func4 (by kernel_rfl)
    (of_decide_eq_true (by kernel_rfl)) (by unfold Func.isWrapper; rw [if_neg (of_decide_eq_false (by kernel_rfl))]; exact ⟨rfl, rfl⟩)
    (fun os started H enc _ => extentPlaces_lifted os started H enc)
#print axioms extentPlaces_holds
end Go.Proofs.Ytdhaikcmgegfoaa
