/-
  The laws' 'awake': the chapter's examples: it answers true and turns nothing that was there. Condition: the table reads as the program's text lays it.
-/
import Derived.Test.YtebcnacboidfeaaDoorCrcSeal
import Derived.Lib.SlBytesConst
namespace Go.Proofs.YtebcnacboidfeaaDoor
open Go.RowKit

theorem bs_lit (w : World) (t : TypeId) (fr : Nat × Nat) (l : List UInt8) : Bs (w.alloc (.cells (bv l).toArray t fr)) (w.heap.size + 1) (some ⟨w.heap.size, 0, none⟩) l := fun _ => by
  refine ⟨_, 0, rfl, Nat.lt_succ_self _, fun j hj => ?_⟩
  rw [cell_of_row _ _ _ _ _ _ (heap_alloc_new w _)]
  simp [bv, hj]

theorem Tab.alloc {w : World} (h : Tab w) (o : Obj) : Tab (w.alloc o) := fun j hj => (World.cell?_alloc_lt _ _ _ (World.block_lt_of_cell? _ _ (h j hj))).trans (h j hj)
theorem Tab.on {w w' : World} {B : Nat} (h : Tab w) (hb : Below B w w') (hB : w.heap.size ≤ B) : Tab w' := fun j hj => (hb.cell (Nat.lt_of_lt_of_le (World.block_lt_of_cell? _ _ (h j hj)) hB)).trans (h j hj)
theorem not_opens_one : ¬ opens [0, 0, 0, 1] := by unfold opens; decide
theorem opens_nought : opens [0, 0, 0, 0] := by unfold opens; decide

set_option maxRecDepth 100000 in
set_option maxHeartbeats 4000000 in
theorem crcAwake_true (w : World) (ht : Tab w) :
    Calls Tryd.prog 9 #[] w fun e w' => e = .returned (.bool true) ∧ Below w.heap.size w w' := by
  have HT := Lib.hid ht
  clear ht
  have kc := fun (w : World) (C : Array Value) (n c : Nat) => Lib.run_convert_bytes_const (P := Tryd.prog) w 23 5 C n c Tryd.underlying23 Tryd.underlying5
  go_enter Tryd.func9, Tryd.ntmps9
  go_wp2_with fail
  refine (open_no (some ⟨w.heap.size, 0, none⟩) [0, 0, 0, 1] 0 4 (w.heap.size + 1) _ rfl (bs_lit w 5 (0, 0) [0, 0, 0, 1]) (HT.out.alloc _) (by decide) (by decide) not_opens_one).mono ?_
  rintro e w1 ⟨rfl, hb1⟩
  have hB1 : Below w.heap.size w w1 := ((Below.refl _ _).alloc (Nat.le_refl _) _).trans (hb1.mono (by simp))
  have HT1 := Lib.hid (HT.out.on hB1 (Nat.le_refl _))
  clear hb1 HT
  go_wp2_with fail
  refine (open_yes (some ⟨w1.heap.size, 0, none⟩) [0, 0, 0, 0] 0 4 (w1.heap.size + 1) _ rfl (bs_lit w1 5 (0, 0) [0, 0, 0, 0]) (by simp) (HT1.out.alloc _) (by decide) (by decide) opens_nought).mono ?_
  rintro e w2 ⟨v2, rfl, hown2, hb2⟩
  obtain ⟨A2, c2, rfl, _, _⟩ := hown2.slice
  have hB2 : Below w.heap.size w w2 := hB1.trans ((((Below.refl _ _).alloc (Nat.le_refl _) _).trans (hb2.mono (by simp))).mono hB1.size)
  have HT2 := Lib.hid (HT1.out.on (((Below.refl _ _).alloc (Nat.le_refl _) _).trans (hb2.mono (by simp))) (Nat.le_refl _))
  clear hb2 hown2 HT1 hB1
  go_wp2_with fail
  refine (of_any (some ⟨w2.heap.size, 0, none⟩) [49, 50, 51, 52, 53, 54, 55, 56, 57] 9 (w2.heap.size + 1) _ (bs_lit w2 5 (9, 10) [49, 50, 51, 52, 53, 54, 55, 56, 57]) (HT2.out.alloc _) (by decide)).mono ?_
  rintro e w' ⟨rfl, rfl⟩
  rw [crc_examples]
  go_wp2_with fail
  refine (of_any none [] 0 0 _ Bs.nil_ (HT2.out.alloc _) (by decide)).mono ?_
  rintro e w' ⟨rfl, rfl⟩
  rw [crc_nil]
  go_wp2_with fail
  refine (seal_any none [] 0 0 _ Bs.nil_ (Nat.zero_le _) (HT2.out.alloc _) (by decide)).mono ?_
  rintro e w3 ⟨v3, rfl, hown3, hb3⟩
  obtain ⟨A3, c3, rfl, _, _⟩ := hown3.slice
  have hB3 : Below w.heap.size w w3 := (hB2.alloc hB2.size _).trans (hb3.mono (by have := hB2.size; simp; omega))
  clear hb3 hown3 hB2 HT2
  rw [seal_length]
  go_wp2_with fail
  go_ret
  exact ⟨rfl, hB3⟩
end Go.Proofs.YtebcnacboidfeaaDoor
