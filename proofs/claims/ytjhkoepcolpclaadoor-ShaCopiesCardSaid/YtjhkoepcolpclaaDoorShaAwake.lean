/-
  The laws' 'awake': the chapter's examples: it answers true and turns nothing that was there. Condition: the tables read as the program's text lays them.
-/
import Derived.Test.YtjhkoepcolpclaaDoorShaSum2
import Derived.Test.YtjhkoepcolpclaaDoorShaRSum
import Derived.Test.YtjhkoepcolpclaaDoorShaRHex
import Derived.Test.YtjhkoepcolpclaaDoorShaRUnhex
import Derived.Lib.SlBytesConst
namespace Go.Proofs.YtjhkoepcolpclaaDoor
open Go.RowKit

theorem hex_abc : (⟨(hexOf (sha [97, 98, 99])).toArray⟩ : ByteArray) = ⟨#[98, 97, 55, 56, 49, 54, 98, 102, 56, 102, 48, 49, 99, 102, 101, 97, 52, 49, 52, 49, 52, 48, 100, 101, 53, 100, 97, 101, 50, 50, 50, 51, 98, 48, 48, 51, 54, 49, 97, 51, 57, 54, 49, 55, 55, 97, 57, 99, 98, 52, 49, 48, 102, 102, 54, 49, 102, 50, 48, 48, 49, 53, 97, 100]⟩ := by
  rw [sha_abc]
  rfl
theorem hex_nil : (⟨(hexOf (sha [])).toArray⟩ : ByteArray) = ⟨#[101, 51, 98, 48, 99, 52, 52, 50, 57, 56, 102, 99, 49, 99, 49, 52, 57, 97, 102, 98, 102, 52, 99, 56, 57, 57, 54, 102, 98, 57, 50, 52, 50, 55, 97, 101, 52, 49, 101, 52, 54, 52, 57, 98, 57, 51, 52, 99, 97, 52, 57, 53, 57, 57, 49, 98, 55, 56, 53, 50, 98, 56, 53, 53]⟩ := by
  rw [sha_nil]
  rfl

theorem bs_lit4 (w : World) (t : TypeId) (fr : Nat × Nat) (l : List UInt8) : Bs (w.alloc (.cells (bv l).toArray t fr)) (w.alloc (.cells (bv l).toArray t fr)).heap.size (some ⟨w.heap.size, 0, none⟩) l := fun _ => by
  refine ⟨_, 0, rfl, by simp, fun j hj => ?_⟩
  rw [cell_of_row _ _ _ _ _ _ (heap_alloc_new w _)]
  simp [bv, hj]

set_option maxRecDepth 100000 in
set_option maxHeartbeats 4000000 in
set_option linter.unusedSimpArgs false in
theorem shaAwake_true (w : World) (ht : Tabs w) :
    Calls Tryd.prog 11 #[] w fun e w' => e = .returned (.bool true) ∧ Below w.heap.size w w' := by
  have HT := Lib.hid ht
  clear ht
  have kc := fun (w : World) (C : Array Value) (n c : Nat) => Lib.run_convert_bytes_const (P := Tryd.prog) w 22 5 C n c Tryd.underlying22 Tryd.underlying5
  go_enter Tryd.func11, Tryd.ntmps11
  go_wp2_with fail
  have hw1 := fun fr => below_alloc w (.cells (bv [97, 98, 99]).toArray 5 fr)
  refine (sum_any (some ⟨w.heap.size, 0, none⟩) [97, 98, 99] 3 3 _ rfl (HT.out.on (hw1 (3, 4)) (Nat.le_refl _)) (bs_lit4 w 5 (3, 4) [97, 98, 99]) (by omega) (by omega)).mono ?_
  rintro e w2 ⟨rfl, hw2⟩
  obtain ⟨X, eX⟩ : ∃ X, (bv (sha [97, 98, 99])).toArray = X := ⟨_, rfl⟩
  rw [eX]
  have h2 : Below w.heap.size w w2 := (hw1 _).trans (hw2.mono (by simp))
  have H2 := Lib.hid h2
  clear hw1 hw2 h2 kc
  go_wp2_with fail
  refine (hex_any (sha [97, 98, 99]) (sha_length _) X eX.symm w2).mono ?_
  rintro e w3 ⟨rfl, hw3⟩
  rw [hex_abc]
  have H3 := Lib.hid (H2.out.trans (hw3.mono H2.out.size))
  clear hw3 eX
  go_wp2_with fail
  refine (sum_any none [] 0 0 w3 rfl (HT.out.on H3.out (Nat.le_refl _)) Bs.nil_ (by omega) (by omega)).mono ?_
  rintro e w4 ⟨rfl, hw4⟩
  obtain ⟨Y, eY⟩ : ∃ X, (bv (sha [])).toArray = X := ⟨_, rfl⟩
  rw [eY]
  have H4 := Lib.hid (H3.out.trans (hw4.mono H3.out.size))
  clear hw4
  go_wp2_with fail
  refine (hex_any (sha []) (sha_length _) Y eY.symm w4).mono ?_
  rintro e w5 ⟨rfl, hw5⟩
  rw [hex_nil]
  have H5 := Lib.hid (H4.out.trans (hw5.mono H4.out.size))
  clear hw5 eY
  go_wp2_with fail
  go_ret
  exact ⟨rfl, H5.out⟩

theorem eqg32 : Tryd.prog.eqGuardType Tryd.prog.depth 24 = false := by kernel_rfl
theorem u8cells4 : Tryd.prog.cellsOf 5 = 1 := by kernel_rfl
theorem eq32 (L : List UInt8) (hL : L.length = 32) (w : World) : (Op.equalIn 10000 24 (.agg (bv L).toArray) (.agg (bv L).toArray)).run Tryd.prog w = .ok true w := by
  obtain ⟨i, hi, _⟩ := info_parts u8_all
  exact run_equalIn_self 9998 32 _ 5 .u8 i _ Tryd.underlying24 hi u8cells4 Tryd.underlying5 u8_plain (fun i hi => ⟨_, by rw [List.getElem?_toArray]; exact bv_get (by omega)⟩) w
theorem Bs.take_ {w : World} {B : Nat} {A : Option Addr} {l : List UInt8} (h : Bs w B A l) (k : Nat) : Bs w B A (l.take k) := fun hn => by
  have hl : 0 < l.length := by rw [List.length_take] at hn; omega
  obtain ⟨b, o, e, hb, hc⟩ := h hl
  refine ⟨b, o, e, hb, fun j hj => ?_⟩
  rw [List.length_take] at hj
  rw [hc j (by omega), List.getElem_take]
end Go.Proofs.YtjhkoepcolpclaaDoor
