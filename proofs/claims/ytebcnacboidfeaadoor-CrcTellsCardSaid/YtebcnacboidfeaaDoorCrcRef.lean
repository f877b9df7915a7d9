/-
  The reference's On, Of, Seal and Open, by their contracts. Conditions: each theorem's own premises.
-/
import Derived.Test.YtebcnacboidfeaaDoorCrcFns
import Derived.BigQuiet
namespace Go.Proofs.YtebcnacboidfeaaDoor
open Go.RowKit

theorem bit_step (r d : Nat) : T (r ^^^ d) ^^^ d / 2 = r / 2 ^^^ (if (r % 2 + d % 2) % 2 = 1 then 2197175160 else 0) := by
  have h : (r ^^^ d) % 2 = (r % 2 + d % 2) % 2 := by rw [xor_mod2]; omega
  unfold T
  rw [xor_div2, h]
  generalize (if (r % 2 + d % 2) % 2 = 1 then 2197175160 else 0) = I
  rw [Nat.xor_assoc, Nat.xor_comm I, Nat.xor_assoc (r / 2), ← Nat.xor_assoc (d / 2), Nat.xor_self, Nat.zero_xor]
theorem bit_round {p m z x : Nat} (hp : p = Tn m z ^^^ x / 2 ^ m) : p / 2 ^^^ (if (p + x / 2 ^ m) % 2 = 1 then 2197175160 else 0) = Tn (m + 1) z ^^^ x / 2 ^ (m + 1) := by
  have e : p ^^^ x / 2 ^ m = Tn m z := by rw [hp, Nat.xor_assoc, Nat.xor_self, Nat.xor_zero]
  have h := bit_step p (x / 2 ^ m)
  rw [← Nat.add_mod] at h
  rw [← h, e, Tn_succ, Nat.div_div_eq_div_mul, Nat.pow_succ]

set_option maxRecDepth 100000 in
set_option maxHeartbeats 1000000 in
theorem refOn_any (s : Nat) (A : Option Addr) (l : List UInt8) (c B : Nat) (w : World) (hs : s < 4294967296) (hb : Bs w B A l) (h63 : l.length ≤ 9223372036854775807) :
    Calls Tryd.prog 11 #[.int .u32 s, .slice A l.length c] w fun e w' => e = .returned (.int .u32 (crcOn s l : Nat)) ∧ w = w' := by
  have hw0 : IntKind.u32.wrap (4294967295 - (s : Int)) = ((4294967295 - s : Nat) : Int) := by simp [IntKind.wrap, IntKind.bits, IntKind.signed]; omega
  go_enter Tryd.func11, Tryd.ntmps11
  go_wp2
  go_loop [5, 6] (fun r i => ∃ k q : Nat, k ≤ l.length ∧ i = .int .i64 k ∧ r = .int .u32 q ∧ q = reg (4294967295 - s) (l.take k)) (fun _ i => l.length - (intOf i).toNat)
  case atStart => exact ⟨0, 4294967295 - s, Nat.zero_le _, rfl, by go_num, rfl⟩
  case round =>
    obtain ⟨k, q, hk, rfl, rfl, hq⟩ := hrel
    have hq32 : q < 4294967296 := hq ▸ reg_lt (by omega) _
    have HQ := Lib.hid hq
    clear hq
    by_cases hlt : k < l.length
    · obtain ⟨b, o, rfl, _, hc⟩ := hb.at_ hlt
      have hc8 : l[k].toNat < 256 := l[k].toNat_lt
      obtain ⟨x, ex⟩ : ∃ x, l[k].toNat = x := ⟨_, rfl⟩
      rw [ex] at hc hc8
      go_wp2
      go_loop [5, 7] (fun r i => ∃ m p : Nat, m ≤ 8 ∧ i = .int .i64 m ∧ r = .int .u32 p ∧ p < 4294967296 ∧ p = Tn m (q ^^^ x) ^^^ x / 2 ^ m) (fun _ i => 8 - (intOf i).toNat)
      case atStart => exact ⟨0, q, by omega, rfl, rfl, hq32, by simp [Tn, Nat.xor_assoc]⟩
      case round =>
        obtain ⟨m, p, hm, rfl, rfl, hp32, hp⟩ := hrel
        have HR := Lib.hid (bit_round hp)
        have HP := Lib.hid hp
        clear hp
        by_cases hlt8 : m < 8
        · by_cases hbit : (p + x / 2 ^ m) % 2 = 1
          · have hb1 : (((p : Int) + (x : Int) / 2 ^ m) % 2 == 1) = true := by
              have : ((p : Int) + (x : Int) / 2 ^ m) % 2 = (((p + x / 2 ^ m) % 2 : Nat) : Int) := by push_cast; rfl
              rw [this, hbit]
              rfl
            have hx2 := bits_xor_u32_nat (p / 2) 2197175160 (by omega) (by omega)
            have ep : ((p / 2 : Nat) : Int) = (p : Int) / 2 := by omega
            rw [ep] at hx2
            have HX := Lib.hid hx2
            clear hx2 ep
            go_wp2
            go_round
            case rel =>
              have e := HR.out
              rw [if_pos hbit] at e
              exact ⟨m + 1, p / 2 ^^^ 2197175160, by omega, by go_num, congrArg (Value.int IntKind.u32) HX.out, Nat.xor_lt_two_pow (n := 32) (by omega) (by omega), e⟩
            case measure => simp [intOf]; omega
          · have hb1 : (((p : Int) + (x : Int) / 2 ^ m) % 2 == 1) = false := by
              have : ((p : Int) + (x : Int) / 2 ^ m) % 2 = (((p + x / 2 ^ m) % 2 : Nat) : Int) := by push_cast; rfl
              rw [this, show (p + x / 2 ^ m) % 2 = 0 by omega]
              rfl
            go_wp2
            go_round
            case rel =>
              have e := HR.out
              rw [if_neg hbit, Nat.xor_zero] at e
              exact ⟨m + 1, p / 2, by omega, by go_num, by go_num, by omega, e⟩
            case measure => simp [intOf]; omega
        · obtain rfl : m = 8 := by omega
          go_wp2
          go_round
          case rel =>
            refine ⟨k + 1, p, by omega, by go_num, rfl, ?_⟩
            rw [reg_snoc _ hlt, ← HQ.out, ex, HP.out, show x / 2 ^ 8 = 0 by omega, Nat.xor_zero]
          case measure => simp [intOf]; omega
    · have hend : IntKind.u32.wrap (4294967295 - (q : Int)) = ((crcOn s l : Nat) : Int) := by
        obtain rfl : k = l.length := by omega
        have := HQ.out
        rw [List.take_length] at this
        unfold crcOn
        rw [← this]
        simp [IntKind.wrap, IntKind.bits, IntKind.signed]
        omega
      go_wp2
      go_ret
      exact ⟨rfl, rfl⟩

theorem refOf_any (A : Option Addr) (l : List UInt8) (c B : Nat) (w : World) (hb : Bs w B A l) (h63 : l.length ≤ 9223372036854775807) :
    Calls Tryd.prog 13 #[.slice A l.length c] w fun e w' => e = .returned (.int .u32 (crc l : Nat)) ∧ w = w' := by
  have hon := Lib.hid (refOn_any 0 A l c B w (by omega) hb h63)
  go_enter Tryd.func13, Tryd.ntmps13
  go_wp2_with (go_at_call 11; refine (hon.out).mono ?_; rintro e w' ⟨rfl, rfl⟩)
  go_ret
  exact ⟨rfl, rfl⟩
end Go.Proofs.YtebcnacboidfeaaDoor
