/-
  Package crc's On, Of, Seal and Open, by their contracts. Conditions: the table reads as the program's text lays it; each theorem's own premises.
-/
import Derived.Test.YtebcnacboidfeaaDoorOctetRef
import Derived.Test.YtebcnacboidfeaaDoorCrcMath
import Derived.Shelf.Spec.TrailingZeros
namespace Go.Proofs.YtebcnacboidfeaaDoor
open Go.RowKit

/-- the table, as the program's text lays it -/
def Tab (w : World) : Prop := ∀ j, j < 16 → w.cell? ⟨0, j, none⟩ = some (.int .u32 (Tn 4 j : Nat))
theorem Tab.below {w w' : World} {B : Nat} (h : Tab w) (hb : Below B w w') (hB : 0 < B) : Tab w' := fun j hj => (hb.cell hB).trans (h j hj)

theorem bits_xor_u32_nat (a b : Nat) (ha : a < 4294967296) (hb : b < 4294967296) :
    bits .xor .u32 (a : Int) (b : Int) = ((a ^^^ b : Nat) : Int) := by
  have hx : a ^^^ b < 2 ^ 32 := Nat.xor_lt_two_pow (by omega) (by omega)
  show IntKind.u32.wrap ((BitVec.ofInt 32 (a : Int) ^^^ BitVec.ofInt 32 (b : Int)).toNat : Int) = _
  rw [BitVec.toNat_xor, ofInt_u32 a (by omega), ofInt_u32 b (by omega)]
  have h2 : IntKind.u32.wrap ((a ^^^ b : Nat) : Int) = ((a ^^^ b : Nat) : Int) % 4294967296 := by simp [IntKind.wrap, IntKind.bits, IntKind.signed]
  rw [h2]
  omega

theorem u32max : IntKind.u32.max = ((4294967295 : Nat) : Int) := rfl
theorem comp_u32 (s : Nat) (hs : s < 4294967296) : bits .xor .u32 IntKind.u32.max (s : Int) = ((4294967295 - s : Nat) : Int) := by
  rw [u32max, bits_xor_u32_nat _ _ (by omega) hs, not_xor hs]
theorem and15 (x : Nat) : x &&& 15 = x % 16 := Nat.and_two_pow_sub_one_eq_mod x 4
theorem nib {x : Nat} (hx : x < 4294967296) {w : World} (ht : Tab w) : ∃ j d t : Nat, bits .and .u32 (x : Int) 15 = (j : Int) ∧ (j : Int) < 16 ∧ (x : Int) / 16 = (d : Int) ∧ w.cell? ⟨0, j, none⟩ = some (.int .u32 (t : Int)) ∧
    bits .xor .u32 (d : Int) (t : Int) = ((Tn 4 x : Nat) : Int) := by
  refine ⟨x % 16, x / 16, Tn 4 (x % 16), ?_, by omega, by omega, ht _ (by omega), ?_⟩
  · have := bits_and_u32_nat x 15 hx (by omega)
    rw [and15] at this
    exact this
  · rw [bits_xor_u32_nat _ _ (by omega) (Tn_lt 4 (by omega)), nibble]

set_option maxRecDepth 100000 in
set_option maxHeartbeats 1000000 in
theorem on_any (s : Nat) (A : Option Addr) (l : List UInt8) (c B : Nat) (w : World) (hs : s < 4294967296) (hb : Bs w B A l) (ht : Tab w) (h63 : l.length ≤ 9223372036854775807) :
    Calls Tryd.prog 10 #[.int .u32 s, .slice A l.length c] w fun e w' => e = .returned (.int .u32 (crcOn s l : Nat)) ∧ w = w' := by
  have hc0 := comp_u32 s hs
  go_enter Tryd.func10, Tryd.ntmps10
  go_wp2
  go_loop [5, 12] (fun r i => ∃ k q : Nat, k ≤ l.length ∧ i = .int .i64 k ∧ r = .int .u32 q ∧ q = reg (4294967295 - s) (l.take k)) (fun _ i => l.length - (intOf i).toNat)
  case atStart => exact ⟨0, 4294967295 - s, Nat.zero_le _, rfl, rfl, rfl⟩
  case round =>
    obtain ⟨k, q, hk, rfl, rfl, hq⟩ := hrel
    have hq32 : q < 4294967296 := hq ▸ reg_lt (by omega) _
    have HQ := Lib.hid hq
    clear hq
    by_cases hlt : k < l.length
    · obtain ⟨b, o, rfl, _, hc⟩ := hb.at_ hlt
      have hc8 : l[k].toNat < 256 := l[k].toNat_lt
      have e1 := bits_xor_u32_nat q l[k].toNat hq32 (by omega)
      have hx : q ^^^ l[k].toNat < 4294967296 := Nat.xor_lt_two_pow (n := 32) hq32 (by omega)
      obtain ⟨x, ex⟩ : ∃ x, q ^^^ l[k].toNat = x := ⟨_, rfl⟩
      rw [ex] at e1 hx
      obtain ⟨j, d, t, a1, a2, a3, a4, a5⟩ := nib hx ht
      have hy : Tn 4 x < 4294967296 := Tn_lt 4 hx
      obtain ⟨y, ey⟩ : ∃ y, Tn 4 x = y := ⟨_, rfl⟩
      rw [ey] at a5 hy
      obtain ⟨j2, d2, t2, b1, b2, b3, b4, b5⟩ := nib hy ht
      have hfin : Tn 4 y = reg (4294967295 - s) (l.take (k + 1)) := by rw [reg_snoc _ hlt, ← HQ.out, ex, ← ey, two_nibbles]
      have HF := Lib.hid hfin
      clear hfin
      go_wp2
      go_round
      case rel => exact ⟨k + 1, Tn 4 y, by omega, by go_num, rfl, HF.out⟩
      case measure => simp [intOf]; omega
    · have hend : bits .xor .u32 IntKind.u32.max (q : Int) = ((crcOn s l : Nat) : Int) := by
        obtain rfl : k = l.length := by omega
        have := HQ.out
        rw [List.take_length] at this
        rw [comp_u32 q hq32, this]
        rfl
      go_wp2
      go_ret
      exact ⟨rfl, rfl⟩

theorem of_any (A : Option Addr) (l : List UInt8) (c B : Nat) (w : World) (hb : Bs w B A l) (ht : Tab w) (h63 : l.length ≤ 9223372036854775807) :
    Calls Tryd.prog 12 #[.slice A l.length c] w fun e w' => e = .returned (.int .u32 (crc l : Nat)) ∧ w = w' := by
  have hon := Lib.hid (on_any 0 A l c B w (by omega) hb ht h63)
  go_enter Tryd.func12, Tryd.ntmps12
  go_wp2_with (go_at_call 10; refine (hon.out).mono ?_; rintro e w' ⟨rfl, rfl⟩)
  go_ret
  exact ⟨rfl, rfl⟩
end Go.Proofs.YtebcnacboidfeaaDoor
