/-
  Package sha's digit and Unhex, by their contracts. Conditions: each theorem's own premises.
-/
import Derived.Test.YtjhkoepcolpclaaDoorShaHex
import Derived.Laws.RangeString
import Derived.Laws.RangeAny
namespace Go.Proofs.YtjhkoepcolpclaaDoor
open Go.RowKit

theorem digit_yes (c : UInt8) (v : Nat) (h : hexV c = some v) (z : Int) (hz : z = (c.toNat : Int)) (w : World) :
    Calls Tryd.prog 23 #[.int .i32 z] w fun e w' => e = .returned (.tuple #[.int .u8 (v : Int), .bool true]) ∧ w = w' := by
  obtain ⟨n, en⟩ : ∃ n, c.toNat = n := ⟨_, rfl⟩
  have hn : n < 256 := by rw [← en]; exact c.toNat_lt
  unfold hexV at h
  rw [en] at h hz
  subst hz
  by_cases h1 : 48 ≤ n ∧ n ≤ 57
  · rw [if_pos h1] at h
    have hv : n - 48 = v := Option.some.inj h
    have a1 : (48 : Int) ≤ (n : Int) := by omega
    have a2 : (n : Int) ≤ 57 := by omega
    have a3 : (n : Int) - 48 = (v : Int) := by omega
    have a4 : IntKind.u8.wrap (v : Int) = (v : Int) := by simp [IntKind.wrap, IntKind.bits, IntKind.signed]; omega
    have a5 : wrap32 (v : Int) = (v : Int) := by unfold wrap32; omega
    have a6 : IntKind.i32.wrap (v : Int) = (v : Int) := by simp [IntKind.wrap, IntKind.bits, IntKind.signed]; omega
    clear h hv h1 en
    go_enter Tryd.func23, Tryd.ntmps23
    go_wp2_with fail
    go_ret2
    exact ⟨rfl, rfl⟩
  · rw [if_neg h1] at h
    by_cases h2 : 97 ≤ n ∧ n ≤ 102
    · rw [if_pos h2] at h
      have hv : n - 87 = v := Option.some.inj h
      obtain ⟨u, eu⟩ : ∃ u, n - 97 = u := ⟨_, rfl⟩
      have a1 : (48 : Int) ≤ (n : Int) := by omega
      have a2 : ¬ (n : Int) ≤ 57 := by omega
      have a2' : (97 : Int) ≤ (n : Int) := by omega
      have a2'' : (n : Int) ≤ 102 := by omega
      have a3 : (n : Int) - 97 = (u : Int) := by omega
      have a4 : IntKind.u8.wrap (u : Int) = (u : Int) := by simp [IntKind.wrap, IntKind.bits, IntKind.signed]; omega
      have a5 : wrap32 (u : Int) = (u : Int) := by unfold wrap32; omega
      have a6 : IntKind.i32.wrap (u : Int) = (u : Int) := by simp [IntKind.wrap, IntKind.bits, IntKind.signed]; omega
      have a7 : (u : Int) + 10 = (v : Int) := by omega
      have a8 : IntKind.u8.wrap (v : Int) = (v : Int) := by simp [IntKind.wrap, IntKind.bits, IntKind.signed]; omega
      have a9 : (v : Int) % 256 = (v : Int) := by omega
      clear h hv h1 h2 en eu
      go_enter Tryd.func23, Tryd.ntmps23
      go_wp2_with fail
      go_ret2
      exact ⟨rfl, rfl⟩
    · rw [if_neg h2] at h
      cases h
theorem digit_no (z : Int) (h1 : ¬ (48 ≤ z ∧ z ≤ 57)) (h2 : ¬ (97 ≤ z ∧ z ≤ 102)) (w : World) :
    Calls Tryd.prog 23 #[.int .i32 z] w fun e w' => e = .returned (.tuple #[.int .u8 0, .bool false]) ∧ w = w' := by
  by_cases a1 : 48 ≤ z
  · have a2 : ¬ z ≤ 57 := fun h => h1 ⟨a1, h⟩
    by_cases a3 : 97 ≤ z
    · have a4 : ¬ z ≤ 102 := fun h => h2 ⟨a3, h⟩
      clear h1 h2
      go_enter Tryd.func23, Tryd.ntmps23
      go_wp2_with fail
      go_ret2
      exact ⟨rfl, rfl⟩
    · clear h1 h2
      go_enter Tryd.func23, Tryd.ntmps23
      go_wp2_with fail
      go_ret2
      exact ⟨rfl, rfl⟩
  · have a3 : ¬ 97 ≤ z := by omega
    clear h1 h2
    go_enter Tryd.func23, Tryd.ntmps23
    go_wp2_with fail
    go_ret2
    exact ⟨rfl, rfl⟩
end Go.Proofs.YtjhkoepcolpclaaDoor
