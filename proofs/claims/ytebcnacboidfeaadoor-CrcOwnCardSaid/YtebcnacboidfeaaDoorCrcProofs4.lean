/-
  PROVED: the statements of CrcOwn: for every input the law answers true and each argument reads as it did. Conditions: those of the given cards (crc.shifted is laid by the program's text).
-/
import Derived.Test.YtebcnacboidfeaaDoorCrcTied
import Derived.Test.YtebcnacboidfeaaDoorCrcOwn
namespace Go.Proofs.YtebcnacboidfeaaDoor
open Go.ChangeShapes Go.WideShapes Go.RowKit

set_option maxRecDepth 100000 in
theorem crcOwn_lifted (os : Os) (started : os.Started) (H : Type) (enc : TypeId × Value → H) :
    ReturnsInHanded {} Tryd.checked os 8 .any (fun w args => (Rows.crcOwnSpec.pre enc Tryd.prog Tryd.f8 [] false w args ∧ laidMetH Tryd.prog [("nacelle/crc.shifted", Rows.laid_nacelle_crc_shifted)] w) ∧ sizedMet enc Tryd.prog Tryd.f8 (OpenSpec.ofChange Rows.crcOwnSpec) false w args)
      (Rows.crcOwnSpec.post enc Tryd.prog Tryd.f8 false true false false) := by
  refine returnsInHanded_of_change_and (C := Tryd.checked) (X := fun w _ => laidMetH Tryd.prog [("nacelle/crc.shifted", Rows.laid_nacelle_crc_shifted)] w) (fun _ _ _ hh h => h.of_heap hh) own started (by kernel_rfl) Tryd.func8
    (ChangeSpec.witness_at (enc := enc) (C := Tryd.checked) (os := os) (X := fun w _ => laidMetH Tryd.prog [("nacelle/crc.shifted", Rows.laid_nacelle_crc_shifted)] w) false (crcWorld os) #[.slice none 0 0] 8 rfl (by kernel_rfl) (by kernel_rfl) (by kernel_rfl) (by kernel_rfl) (by kernel_rfl) (crcWorld_met os _)) ?_
  intro W base args ds gs before hval0 hW _ hsz hL _
  have hW' := hW
  obtain ⟨p, q, hA0, hV, rfl, hfz, hnd⟩ := hW
  have hval : ∀ (j : Nat) t v, Tryd.f8.params[j]? = some t → args[j]? = some v → Value.okWide Tryd.prog W .any base t v := hval0
  have hA : DataW.TrodAll enc Tryd.prog W 0 (fun _ => true) true Tryd.f8.params.toList args.toList ds p := hA0
  rw [Tryd.params8] at hA hval
  obtain ⟨rfl, rfl⟩ := trodVars_none hV
  obtain ⟨v0, d0, rfl, rfl, h0⟩ := trodAll_one hA
  obtain ⟨A0, l0, c0, rfl, hb0, hc0, hm0, hd0⟩ := open_bytes Tryd.underlying23 Tryd.underlying5 u8cells' (hval 0 23 v0 rfl rfl) h0
  have hl0 : l0.length + 4 ≤ 140737488355328 := by
    rcases hd0 with ⟨_, rfl⟩ | ⟨elems, spare, rfl, he⟩
    · decide
    · have hsz' := hsz
      rw [Tryd.params8] at hsz'
      have h := sized_slice hsz' (j := 0) (t := 23) (e := 5) (elems := elems) (spare := spare) rfl rfl Tryd.underlying23
      have h2 : (elems.length + spare.length) * Tryd.prog.bytesOf 5 ≤ reachBytes := h
      rw [u8bytes', reach_is] at h2
      omega
  refine (crcOwn_calls A0 l0 c0 W hb0 hl0 (tab_of_laid hL)).mono fun e W' ⟨he, hw⟩ => ?_
  subst he
  exact ⟨_, rfl, law_post hW' rfl (by kernel_rfl) (by kernel_rfl) rfl hw⟩

theorem crcOwn_holds : Rows.CrcOwnSaid :=
  OpenClaim.holds_of_wide 8 Tryd.f8 rfl rfl rfl rfl rfl rfl rfl ⟨rfl, rfl, rfl, rfl, rfl⟩ rfl rfl rfl rfl rfl (by kernel_rfl) Tryd.func8 (by kernel_rfl)
    (of_decide_eq_true (by kernel_rfl)) (by unfold Func.isWrapper; rw [if_neg (of_decide_eq_false (by kernel_rfl))]; exact ⟨rfl, rfl⟩)
    (fun os started H enc _ => crcOwn_lifted os started H enc)

theorem crcOwn_card : Rows.CrcOwnCardSaid :=
  Claim7.holds_tied_plain_at .later [] _ _ _ _
    crcOwn_holds (fun _ h => by cases h) (by kernel_rfl) (fun _ h => by cases h) crcOwn_row_tie rfl ⟨rfl, rfl⟩ (by kernel_rfl) rfl
    (fun f fn hf hfn => by
      obtain rfl : f = 8 := Option.some.inj ((show Tryd.prog.funcNamed "nacelle/nacellelaw03.CrcOwn" = some 8 by kernel_rfl).symm.trans hf) |>.symm
      obtain rfl : fn = Tryd.f8 := (Option.some.inj (Tryd.func8.symm.trans hfn)).symm
      exact ⟨by kernel_rfl, fun j t ht => by
        rw [Tryd.params8] at ht
        have hm : t ∈ [23] := by simpa using Array.mem_of_getElem? ht
        have hall : ([23].all fun u => !Tryd.prog.wantsStandIn u) = true := by kernel_rfl
        exact (show Tryd.prog.wantsStandIn t = false by simpa using List.all_eq_true.1 hall t hm)⟩)
    (by kernel_rfl)
#print axioms crcOwn_card
end Go.Proofs.YtebcnacboidfeaaDoor
