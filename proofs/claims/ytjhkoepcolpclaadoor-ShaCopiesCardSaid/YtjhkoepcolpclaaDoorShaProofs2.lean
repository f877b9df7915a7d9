/-
  PROVED: the statements of ShaCopies: for every input the law answers true and each argument reads as it did. Conditions: those of the given cards (sha.initial and sha.constants are laid by the program's text).
-/
import Derived.Test.YtjhkoepcolpclaaDoorShaTied
import Derived.Test.YtjhkoepcolpclaaDoorShaCopies
namespace Go.Proofs.YtjhkoepcolpclaaDoor
open Go.ChangeShapes Go.WideShapes Go.RowKit

set_option maxRecDepth 100000 in
theorem shaCopies_lifted (os : Os) (started : os.Started) (H : Type) (enc : TypeId × Value → H) :
    ReturnsInHanded {} Tryd.checked os 7 .any (fun w args => (Rows.shaCopiesSpec.pre enc Tryd.prog Tryd.f7 [] false w args ∧ laidMetH Tryd.prog [("nacelle/sha.initial", Rows.laid_nacelle_sha_initial), ("nacelle/sha.constants", Rows.laid_nacelle_sha_constants)] w) ∧ sizedMet enc Tryd.prog Tryd.f7 (OpenSpec.ofChange Rows.shaCopiesSpec) false w args)
      (Rows.shaCopiesSpec.post enc Tryd.prog Tryd.f7 false true false false) := by
  refine returnsInHanded_of_change_and (C := Tryd.checked) (X := fun w _ => laidMetH Tryd.prog [("nacelle/sha.initial", Rows.laid_nacelle_sha_initial), ("nacelle/sha.constants", Rows.laid_nacelle_sha_constants)] w) (fun _ _ _ hh h => h.of_heap hh) own started (by kernel_rfl) Tryd.func7
    (ChangeSpec.witness_at (enc := enc) (C := Tryd.checked) (os := os) (X := fun w _ => laidMetH Tryd.prog [("nacelle/sha.initial", Rows.laid_nacelle_sha_initial), ("nacelle/sha.constants", Rows.laid_nacelle_sha_constants)] w) false (shaWorld os) #[.slice none 0 0, .slice none 0 0, .slice none 0 0] 8 rfl (by kernel_rfl) (by kernel_rfl) (by kernel_rfl) (by kernel_rfl) (by kernel_rfl) (shaWorld_met os _)) ?_
  intro W base args ds gs before hval0 hW _ hsz hL _
  have hW' := hW
  obtain ⟨p, q, hA0, hV, rfl, hfz, hnd⟩ := hW
  have hval : ∀ (j : Nat) t v, Tryd.f7.params[j]? = some t → args[j]? = some v → Value.okWide Tryd.prog W .any base t v := hval0
  have hA : DataW.TrodAll enc Tryd.prog W 0 (fun _ => true) true Tryd.f7.params.toList args.toList ds p := hA0
  rw [Tryd.params7] at hA hval
  obtain ⟨rfl, rfl⟩ := trodVars_none hV
  obtain ⟨v0, v1, v2, d0, d1, d2, p0, p1, p2, rfl, rfl, rfl, h0, h1, h2⟩ := trodAll_three hA
  obtain ⟨A0, l0, c0, rfl, hb0, hc0, hm0, hd0⟩ := open_bytes Tryd.underlying22 Tryd.underlying5 u8cells' (hval 0 22 v0 rfl rfl) h0
  have hl0 : l0.length + 4 ≤ 140737488355328 := by
    rcases hd0 with ⟨_, rfl⟩ | ⟨elems, spare, rfl, he⟩
    · decide
    · have hsz' := hsz
      rw [Tryd.params7] at hsz'
      have h := sized_slice hsz' (j := 0) (t := 22) (e := 5) (elems := elems) (spare := spare) rfl rfl Tryd.underlying22
      have h2 : (elems.length + spare.length) * Tryd.prog.bytesOf 5 ≤ reachBytes := h
      rw [u8bytes', reach_is] at h2
      omega
  obtain ⟨A1, l1, c1, rfl, hb1, hc1, hm1, hd1⟩ := open_bytes Tryd.underlying22 Tryd.underlying5 u8cells' (hval 1 22 v1 rfl rfl) h1
  have hl1 : l1.length + 4 ≤ 140737488355328 := by
    rcases hd1 with ⟨_, rfl⟩ | ⟨elems, spare, rfl, he⟩
    · decide
    · have hsz' := hsz
      rw [Tryd.params7] at hsz'
      have h := sized_slice hsz' (j := 1) (t := 22) (e := 5) (elems := elems) (spare := spare) rfl rfl Tryd.underlying22
      have h2 : (elems.length + spare.length) * Tryd.prog.bytesOf 5 ≤ reachBytes := h
      rw [u8bytes', reach_is] at h2
      omega
  obtain ⟨A2, l2, c2, rfl, hb2, hc2, hm2, hd2⟩ := open_bytes Tryd.underlying22 Tryd.underlying5 u8cells' (hval 2 22 v2 rfl rfl) h2
  have hl2 : l2.length + 4 ≤ 140737488355328 := by
    rcases hd2 with ⟨_, rfl⟩ | ⟨elems, spare, rfl, he⟩
    · decide
    · have hsz' := hsz
      rw [Tryd.params7] at hsz'
      have h := sized_slice hsz' (j := 2) (t := 22) (e := 5) (elems := elems) (spare := spare) rfl rfl Tryd.underlying22
      have h2 : (elems.length + spare.length) * Tryd.prog.bytesOf 5 ≤ reachBytes := h
      rw [u8bytes', reach_is] at h2
      omega
  refine (shaCopies_calls A0 A1 A2 l0 l1 l2 c0 c1 c2 W hb0 hb1 hb2 hc0 hc1 hc2 (by omega) (by omega) (by omega) (tabs_of_laid hL)).mono fun e W' ⟨he, hw⟩ => ?_
  subst he
  exact ⟨_, rfl, law_post hW' rfl (by kernel_rfl) (by kernel_rfl) rfl hw⟩

theorem shaCopies_holds : Rows.ShaCopiesSaid :=
  OpenClaim.holds_of_wide 7 Tryd.f7 rfl rfl rfl rfl rfl rfl rfl ⟨rfl, rfl, rfl, rfl, rfl⟩ rfl rfl rfl rfl rfl (by kernel_rfl) Tryd.func7 (by kernel_rfl)
    (of_decide_eq_true (by kernel_rfl)) (by unfold Func.isWrapper; rw [if_neg (of_decide_eq_false (by kernel_rfl))]; exact ⟨rfl, rfl⟩)
    (fun os started H enc _ => shaCopies_lifted os started H enc)

theorem shaCopies_card : Rows.ShaCopiesCardSaid :=
  Claim7.holds_tied_plain_at .later [] _ _ _ _
    shaCopies_holds (fun _ h => by cases h) (by kernel_rfl) (fun _ h => by cases h) shaCopies_row_tie rfl ⟨rfl, rfl⟩ (by kernel_rfl) rfl
    (fun f fn hf hfn => by
      obtain rfl : f = 7 := Option.some.inj ((show Tryd.prog.funcNamed "nacelle/nacellelaw04.ShaCopies" = some 7 by kernel_rfl).symm.trans hf) |>.symm
      obtain rfl : fn = Tryd.f7 := (Option.some.inj (Tryd.func7.symm.trans hfn)).symm
      exact ⟨by kernel_rfl, fun j t ht => by
        rw [Tryd.params7] at ht
        have hm : t ∈ [22, 22, 22] := by simpa using Array.mem_of_getElem? ht
        have hall : ([22, 22, 22].all fun u => !Tryd.prog.wantsStandIn u) = true := by kernel_rfl
        exact (show Tryd.prog.wantsStandIn t = false by simpa using List.all_eq_true.1 hall t hm)⟩)
    (by kernel_rfl)
#print axioms shaCopies_card
end Go.Proofs.YtjhkoepcolpclaaDoor
