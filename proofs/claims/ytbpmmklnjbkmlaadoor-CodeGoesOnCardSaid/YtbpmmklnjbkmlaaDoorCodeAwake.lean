/-
  The law's awake, few, same, by their contracts. Conditions: each theorem's own premises.
-/
import Derived.Test.YtbpmmklnjbkmlaaDoorCodeFnD
import Derived.Test.YtbpmmklnjbkmlaaDoorCodeFnE
import Derived.Test.YtbpmmklnjbkmlaaDoorCodeFnS
namespace Go.Proofs.YtbpmmklnjbkmlaaDoor
open Go.RowKit

theorem insNew (w : World) (l : List Ins) (hok : okL l) : InsAt (w.alloc (.cells (ivs l).toArray 46)) (some ⟨w.heap.size, 0, none⟩) l :=
  ⟨vs_of_blk (Blk.new w 46 _) (by simp), hok⟩
theorem ok4 {op a b c : Nat} (h : op < 256 ∧ a < 256 ∧ b < 256 ∧ c < 256) : Ins.ok ⟨op, a, b, c⟩ := h
theorem bsNew (w : World) (a b c d : UInt8) (e : TypeId) : Bs (w.alloc (.cells #[.int .u8 (a.toNat : Int), .int .u8 (b.toNat : Int), .int .u8 (c.toNat : Int), .int .u8 (d.toNat : Int)] e)) (w.alloc (.cells #[.int .u8 (a.toNat : Int), .int .u8 (b.toNat : Int), .int .u8 (c.toNat : Int), .int .u8 (d.toNat : Int)] e)).heap.size (some ⟨w.heap.size, 0, none⟩) [a, b, c, d] := fun _ =>
  ⟨w.heap.size, 0, rfl, by simp, fun j hj => by
    have hb := Blk.new w e #[.int .u8 (a.toNat : Int), .int .u8 (b.toNat : Int), .int .u8 (c.toNat : Int), .int .u8 (d.toNat : Int)]
    rw [Nat.zero_add, hb.cell]
    match j, hj with
    | 0, _ => rfl
    | 1, _ => rfl
    | 2, _ => rfl
    | 3, _ => rfl⟩
theorem okA : okL [⟨15, 0, 1, 0⟩] := fun i hi => by
  simp only [List.mem_singleton] at hi
  subst hi
  exact ⟨by decide, by decide, by decide, by decide⟩
theorem okB : okL [⟨16, 0, 0, 0⟩, ⟨0, 0, 0, 0⟩] := fun i hi => by
  simp only [List.mem_cons, List.not_mem_nil, or_false] at hi
  rcases hi with rfl | rfl <;> exact ⟨by decide, by decide, by decide, by decide⟩
theorem okC : okL [⟨1, 0, 5, 0⟩, ⟨0, 0, 0, 0⟩] := fun i hi => by
  simp only [List.mem_cons, List.not_mem_nil, or_false] at hi
  rcases hi with rfl | rfl <;> exact ⟨by decide, by decide, by decide, by decide⟩
theorem aw1 : faultC (checkL [⟨15, 0, 1, 0⟩]) = [(4, 0)] := by decide
theorem aw2 : decF [15, 0, 1, 0] = [(4, 0), (4, 0)] := by decide
theorem aw3 : nextL [⟨16, 0, 0, 0⟩, ⟨0, 0, 0, 0⟩] 0 = [0, 1] := by decide
theorem aw4 : faultC (checkL [⟨1, 0, 5, 0⟩, ⟨0, 0, 0, 0⟩]) = [] := by decide
theorem aw5 : Ins.numS ⟨1, 0, 255, 255⟩ = -1 := by decide
theorem tx1 : textL [(4, 0)] = [52, 64, 48] := by
  simp only [textL, textOne, List.flatMap_nil]
  rw [show ((4 : Int)).toNat = 4 from rfl, show ((0 : Int)).toNat = 0 from rfl, Lib.decDigits_one (by decide), Lib.decDigits_one (by decide)]
  rfl
theorem tx2 : textL [(4, 0), (4, 0)] = [52, 64, 48, 60, 52, 64, 48] := by
  simp only [textL, textOne, List.flatMap_nil, List.flatMap_cons]
  rw [show ((4 : Int)).toNat = 4 from rfl, show ((0 : Int)).toNat = 0 from rfl, Lib.decDigits_one (by decide), Lib.decDigits_one (by decide)]
  rfl
theorem sm1 : SmallL [(4, 0)] := by
  intro p hp
  simp only [List.mem_singleton] at hp
  subst hp
  exact ⟨4, 0, rfl, by decide, by decide⟩
theorem sm2 : SmallL [(4, 0), (4, 0)] := by
  intro p hp
  simp only [List.mem_cons, List.not_mem_nil, or_false, or_self] at hp
  subst hp
  exact ⟨4, 0, rfl, by decide, by decide⟩

set_option maxRecDepth 100000 in
set_option maxHeartbeats 4000000 in
set_option linter.unusedSimpArgs false in
theorem codeAwake (w : World) (hG : HasErr w) : Calls Tryd.prog 8 #[] w (Says w (.bool true)) := by
  have HG := Lib.hid hG
  clear hG
  go_enter Tryd.func8, Tryd.ntmps8
  go_wp2_with fail
  refine (coCheck (some ⟨w.heap.size, 0, none⟩) [⟨15, 0, 1, 0⟩] 1 1 rfl (by decide) _ (insNew w [⟨15, 0, 1, 0⟩] okA)).mono ?_
  rintro e w1 ⟨v1, rfl, hc1, hb1⟩
  rw [aw1] at hc1
  have H1 := Lib.hid (And.intro hc1 ((below_alloc w _).trans (hb1.mono (by simp))))
  clear hc1 hb1
  go_wp2_with fail
  refine (coDecode (some ⟨w1.heap.size, 0, none⟩) [15, 0, 1, 0] 4 4 rfl (by decide) (Nat.le_refl _) _ (bsNew w1 15 0 1 0 _) ((HG.out.below H1.out.2).below (below_alloc w1 _))).mono ?_
  rintro e w2 ⟨v2, u2, rfl, _, hc2, hb2⟩
  rw [aw2] at hc2
  have hb2' := (below_alloc w1 _).trans (hb2.mono (by simp))
  have H2 := Lib.hid (And.intro hc2 (And.intro hb2' (H1.out.1.below hb2')))
  clear hc2 hb2 hb2'
  go_wp2_with fail
  refine (coNext (some ⟨w2.heap.size, 0, none⟩) [⟨16, 0, 0, 0⟩, ⟨0, 0, 0, 0⟩] 2 2 rfl (by decide) _ (insNew w2 [⟨16, 0, 0, 0⟩, ⟨0, 0, 0, 0⟩] okB) 0 (by decide) (by decide)).mono ?_
  rintro e w3 ⟨A3, c3, rfl, hv3, hb3⟩
  rw [aw3] at hv3 ⊢
  have hb3' := (below_alloc w2 _).trans (hb3.mono (by simp))
  have H3 := Lib.hid (And.intro hv3 (And.intro hb3' (And.intro (H2.out.1.below hb3') (H2.out.2.2.below hb3'))))
  clear hv3 hb3 hb3'
  go_wp2_with fail
  refine (coCheck (some ⟨w3.heap.size, 0, none⟩) [⟨1, 0, 5, 0⟩, ⟨0, 0, 0, 0⟩] 2 2 rfl (by decide) _ (insNew w3 [⟨1, 0, 5, 0⟩, ⟨0, 0, 0, 0⟩] okC)).mono ?_
  rintro e w4 ⟨v4, rfl, hc4, hb4⟩
  rw [aw4] at hc4
  obtain rfl : v4 = .nilIface := hc4
  have hb4' := (below_alloc w3 _).trans (hb4.mono (by simp))
  have hz4 : Below w.heap.size w w4 := H1.out.2.trans ((H2.out.2.1.trans ((H3.out.2.1.trans (hb4'.mono H3.out.2.1.size)).mono H2.out.2.1.size)).mono H1.out.2.size)
  have H4 := Lib.hid (And.intro hz4 (And.intro (H3.out.2.2.1.below hb4') (And.intro (H3.out.2.2.2.below hb4') ((H3.out.1.below hb4').more hb4'.size))))
  clear hb4 hb4' hz4
  go_wp2_with fail
  refine (fText H4.out.2.2.1 (HG.out.below H4.out.1) (by decide) sm1).mono ?_
  rintro e w5 ⟨rfl, hb5⟩
  rw [tx1]
  have H5 := Lib.hid (And.intro (H4.out.1.trans (hb5.mono H4.out.1.size)) (And.intro (H4.out.2.1.below hb5) ((H4.out.2.2.2.below hb5).more hb5.size)))
  clear hb5
  go_wp2_with fail
  refine (fText H5.out.2.1 (HG.out.below H5.out.1) (by decide) sm2).mono ?_
  rintro e w6 ⟨rfl, hb6⟩
  rw [tx2]
  have H6 := Lib.hid (And.intro (H5.out.1.trans (hb6.mono H5.out.1.size)) ((H5.out.2.2.below hb6).more hb6.size))
  clear hb6
  obtain ⟨b6, o6, rfl, hl6, hg6⟩ := H6.out.2 (by decide)
  have d1 : w6.cell? ⟨b6, o6 + 1, none⟩ = some (.int .i64 1) := hg6 1 _ rfl
  clear hg6
  go_wp2_with fail
  have hn := coNumber 1 0 255 255 ⟨by decide, by decide, by decide, by decide⟩ w6
  rw [aw5] at hn
  refine hn.mono ?_
  rintro e w7 ⟨rfl, hb7⟩
  go_wp2_with fail
  go_ret
  exact ⟨rfl, H6.out.1.trans (hb7.mono H6.out.1.size)⟩
end Go.Proofs.YtbpmmklnjbkmlaaDoor
