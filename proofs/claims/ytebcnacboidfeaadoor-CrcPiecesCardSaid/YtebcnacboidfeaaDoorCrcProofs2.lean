/-
  PROVED: the statements of CrcPieces: for every input the law answers true and each argument reads as it did. Conditions: those of the given cards (crc.shifted is laid by the program's text).
-/
import Derived.Test.YtebcnacboidfeaaDoorCrcTied
import Derived.Test.YtebcnacboidfeaaDoorCrcPieces
namespace Go.Proofs.YtebcnacboidfeaaDoor
open Go.ChangeShapes Go.WideShapes Go.RowKit

theorem intcells : Tryd.prog.cellsOf 3 = 1 := by kernel_rfl

set_option maxRecDepth 100000 in
theorem crcPieces_lifted (os : Os) (started : os.Started) (H : Type) (enc : TypeId × Value → H) :
    ReturnsInHanded {} Tryd.checked os 5 .any (fun w args => (Rows.crcPiecesSpec.pre enc Tryd.prog Tryd.f5 [] false w args ∧ laidMetH Tryd.prog [("nacelle/crc.shifted", Rows.laid_nacelle_crc_shifted)] w) ∧ sizedMet enc Tryd.prog Tryd.f5 (OpenSpec.ofChange Rows.crcPiecesSpec) false w args)
      (Rows.crcPiecesSpec.post enc Tryd.prog Tryd.f5 false true false false) := by
  refine returnsInHanded_of_change_and (C := Tryd.checked) (X := fun w _ => laidMetH Tryd.prog [("nacelle/crc.shifted", Rows.laid_nacelle_crc_shifted)] w) (fun _ _ _ hh h => h.of_heap hh) own started (by kernel_rfl) Tryd.func5
    (ChangeSpec.witness_at (enc := enc) (C := Tryd.checked) (os := os) (X := fun w _ => laidMetH Tryd.prog [("nacelle/crc.shifted", Rows.laid_nacelle_crc_shifted)] w) false (crcWorld os) #[.slice none 0 0, .slice none 0 0] 8 rfl (by kernel_rfl) (by kernel_rfl) (by kernel_rfl) (by kernel_rfl) (by kernel_rfl) (crcWorld_met os _)) ?_
  intro W base args ds gs before hval0 hW _ hsz hL _
  have hW' := hW
  obtain ⟨p, q, hA0, hV, rfl, hfz, hnd⟩ := hW
  have hval : ∀ (j : Nat) t v, Tryd.f5.params[j]? = some t → args[j]? = some v → Value.okWide Tryd.prog W .any base t v := hval0
  have hA : DataW.TrodAll enc Tryd.prog W 0 (fun _ => true) true Tryd.f5.params.toList args.toList ds p := hA0
  rw [Tryd.params5] at hA hval
  obtain ⟨rfl, rfl⟩ := trodVars_none hV
  obtain ⟨v0, v1, d0, d1, p0, p1, rfl, rfl, rfl, h0, h1⟩ := trodAll_two hA
  obtain ⟨A0, l0, c0, rfl, hb0, hc0, hm0, hd0⟩ := open_bytes Tryd.underlying23 Tryd.underlying5 u8cells' (hval 0 23 v0 rfl rfl) h0
  have hl0 : l0.length + 4 ≤ 140737488355328 := by
    rcases hd0 with ⟨_, rfl⟩ | ⟨elems, spare, rfl, he⟩
    · decide
    · have hsz' := hsz
      rw [Tryd.params5] at hsz'
      have h := sized_slice hsz' (j := 0) (t := 23) (e := 5) (elems := elems) (spare := spare) rfl rfl Tryd.underlying23
      have h2 : (elems.length + spare.length) * Tryd.prog.bytesOf 5 ≤ reachBytes := h
      rw [u8bytes', reach_is] at h2
      omega
  obtain ⟨A1, zs, c1, rfl, hz, hzc, hzm, hzs⟩ := open_i64s Tryd.underlying35 Tryd.underlying3 intcells (hval 1 35 v1 rfl rfl) h1
  have hn63 : zs.length ≤ 9223372036854775807 := Nat.le_trans hzc hzm
  have hz' : Is W A1 zs := fun h => by
    obtain ⟨b, o, e, _, hc⟩ := hz h
    exact ⟨b, o, e, hc⟩
  refine (crcPieces_calls A0 l0 c0 A1 zs c1 W hb0 (by omega) hc0 hz' hzs hn63 (tab_of_laid hL)).mono fun e W' ⟨he, hw⟩ => ?_
  subst he
  exact ⟨_, rfl, law_post hW' rfl (by kernel_rfl) (by kernel_rfl) rfl hw⟩

theorem crcPieces_holds : Rows.CrcPiecesSaid :=
  OpenClaim.holds_of_wide 5 Tryd.f5 rfl rfl rfl rfl rfl rfl rfl ⟨rfl, rfl, rfl, rfl, rfl⟩ rfl rfl rfl rfl rfl (by kernel_rfl) Tryd.func5 (by kernel_rfl)
    (of_decide_eq_true (by kernel_rfl)) (by unfold Func.isWrapper; rw [if_neg (of_decide_eq_false (by kernel_rfl))]; exact ⟨rfl, rfl⟩)
    (fun os started H enc _ => crcPieces_lifted os started H enc)

theorem crcPieces_card : Rows.CrcPiecesCardSaid :=
  Claim7.holds_tied_plain_at .later [] _ _ _ _
    crcPieces_holds (fun _ h => by cases h) (by kernel_rfl) (fun _ h => by cases h) crcPieces_row_tie rfl ⟨rfl, rfl⟩ (by kernel_rfl) rfl
    (fun f fn hf hfn => by
      obtain rfl : f = 5 := Option.some.inj ((show Tryd.prog.funcNamed "nacelle/nacellelaw03.CrcPieces" = some 5 by kernel_rfl).symm.trans hf) |>.symm
      obtain rfl : fn = Tryd.f5 := (Option.some.inj (Tryd.func5.symm.trans hfn)).symm
      exact ⟨by kernel_rfl, fun j t ht => by
        rw [Tryd.params5] at ht
        have hm : t ∈ [23, 35] := by simpa using Array.mem_of_getElem? ht
        have hall : ([23, 35].all fun u => !Tryd.prog.wantsStandIn u) = true := by kernel_rfl
        exact (show Tryd.prog.wantsStandIn t = false by simpa using List.all_eq_true.1 hall t hm)⟩)
    (by kernel_rfl)
#print axioms crcPieces_card
end Go.Proofs.YtebcnacboidfeaaDoor
