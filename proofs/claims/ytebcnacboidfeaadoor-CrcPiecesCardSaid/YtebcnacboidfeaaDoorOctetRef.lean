/-
  The reference's Put, Number and Text, by their contracts. Conditions: each theorem's own premises.
-/
import Derived.Test.YtebcnacboidfeaaDoorOctetMk
import Derived.Lib.ConvBytes
namespace Go.Proofs.YtebcnacboidfeaaDoor
open Go.RowKit

def BsPost (w : World) (l : List UInt8) (e : Ending) (w' : World) : Prop :=
  ∃ A c, e = .returned (.slice A l.length c) ∧ Bs w' w'.heap.size A l ∧ Below w.heap.size w w'
theorem OwnPost.bs {w w' : World} {l : List UInt8} {e : Ending} (h : OwnPost w l e w') : BsPost w l e w' := by
  obtain ⟨v, rfl, hown, hbel⟩ := h
  obtain ⟨A, c, rfl, hb, _⟩ := hown.slice
  exact ⟨A, c, rfl, hb, hbel⟩
theorem Bs.one (w : World) (t : TypeId) (x : UInt8) : Bs (w.alloc (.cells #[.int .u8 (x.toNat : Int)] t)) (w.heap.size + 1) (some ⟨w.heap.size, 0, none⟩) [x] := fun _ => by
  refine ⟨_, 0, rfl, Nat.lt_succ_self _, fun j hj => ?_⟩
  simp only [List.length_cons, List.length_nil] at hj
  obtain rfl : j = 0 := by omega
  simp

theorem refPut_great (n s : Int) (w : World) (h : 8 < s) :
    Calls Tryd.prog 23 #[.int .u64 n, .int .i64 s] w fun e w' => e = .returned (.slice none 0 0) ∧ w = w' := by
  go_enter Tryd.func23, Tryd.ntmps23
  go_wp2
  go_ret
  exact ⟨rfl, rfl⟩

theorem refPut_less (n s : Int) (w : World) (h : s < 1) :
    Calls Tryd.prog 23 #[.int .u64 n, .int .i64 s] w fun e w' => e = .returned (.slice none 0 0) ∧ w = w' := by
  have h8 : ¬ 8 < s := by omega
  have h0 : ¬ 0 < s := by omega
  have h2 : decide (0 < s) = false := by simp; omega
  go_enter Tryd.func23, Tryd.ntmps23
  go_wp2
  refine wp_loop_rounds 1 ?_
  rw [rounds_succ]
  go_wp2
  go_ret
  exact ⟨rfl, rfl⟩


set_option maxRecDepth 100000 in
set_option maxHeartbeats 1000000 in
theorem refPut_yes (n s : Nat) (w : World) (hn : n < 18446744073709551616) (h8 : s ≤ 8) :
    Calls Tryd.prog 23 #[.int .u64 n, .int .i64 s] w (OwnPost w (leB n s)) := by
  obtain ⟨i0, hi0, hz0, hz1, hz2⟩ := info_parts u8info
  go_enter Tryd.func23, Tryd.ntmps23
  go_wp2
  go_loopw [0, 5, 6] (fun m v i wr => ∃ k q : Nat, k ≤ s ∧ i = .int .i64 k ∧ m = .int .u64 q ∧ q = n / 256 ^ k ∧ Own wr w.heap.size 5 v (leB n k) ∧ Below w.heap.size w wr) (fun _ _ i _ => s - (intOf i).toNat)
  case atStart => exact ⟨0, n, Nat.zero_le _, rfl, rfl, by simp, Own.nil_ _ _ _, Below.refl _ _⟩
  case round =>
    obtain ⟨k, q, hk, rfl, rfl, hq, hown, hbel⟩ := hrel
    by_cases hlt : k < s
    · have hm : q < 18446744073709551616 := hq ▸ Nat.lt_of_le_of_lt (Nat.div_le_self _ _) hn
      have hbs := Bs.one wr 5 (UInt8.ofNat (q % 256))
      have eq1 : (((UInt8.ofNat (q % 256)).toNat : Nat) : Int) = (q : Int) % 256 := by simp
      rw [eq1] at hbs
      have hll : (leB n k).length + 1 ≤ 9 := by rw [leB_length]; omega
      have HQ := Lib.hid hq
      have HB := Lib.hid hbs
      have hB := hbel.size
      clear hq eq1 hbs
      go_wp2_with (at_builtin; refine wpList_append_bytes _ rfl (.tmp 14) (.tmp 18) 23 rfl w.heap.size 5 i0 (.int .u8 0) Tryd.underlying23 hi0 hz0 hz1 hz2 rfl _ (leB n k) rfl (hown.alloc _) (wr.heap.size + 1) _ 1 [UInt8.ofNat (q % 256)] rfl HB.out (by simp; omega) (by simp; omega) ?_; intro v1 w1 hown1 hg1 _)
      go_roundw
      case rel =>
        refine ⟨k + 1, q / 256, by omega, by go_num, by simp, ?_, ?_, ?_⟩
        · rw [HQ.out, Nat.div_div_eq_div_mul, Nat.pow_succ]
        · rw [leB_snoc, ← HQ.out]; exact hown1
        · exact (hbel.alloc hB _).grown hg1 (by simp; omega) (fun g hg => (World.ownsRow.lt hown g hg).1)
      case measure => simp [intOf]; omega
    · obtain rfl : k = s := by omega
      go_wp2
      go_ret
      exact ⟨_, rfl, hown, hbel⟩

theorem unit_step {x k : Nat} (hx : x = 256 ^ k % 18446744073709551616) : IntKind.u64.wrap ((x : Int) * 256) = ((256 ^ (k + 1) % 18446744073709551616 : Nat) : Int) := by
  have e : 256 ^ (k + 1) % 18446744073709551616 = x * 256 % 18446744073709551616 := by
    rw [hx, Nat.pow_succ]
    omega
  rw [IntKind.wrap_u64, e]
  omega
theorem number_step (l : List UInt8) {k q x : Nat} (hk : k < l.length) (h8 : l.length ≤ 8) (hq : q = leN (l.take k)) (hx : x = 256 ^ k % 18446744073709551616) :
    IntKind.u64.wrap ((q : Int) + IntKind.u64.wrap (IntKind.u64.wrap ((l[k].toNat : Nat) : Int) * (x : Int))) = ((leN (l.take (k + 1)) : Nat) : Int) := by
  have hc : l[k].toNat < 256 := l[k].toNat_lt
  have hlen : (l.take k).length = k := by rw [List.length_take]; omega
  have hl := leN_lt (l.take k)
  rw [hlen, ← hq] at hl
  have hpk : 256 ^ k ≤ 256 ^ 7 := Nat.pow_le_pow_right (by decide) (by omega)
  have hx' : x = 256 ^ k := by rw [hx]; omega
  have hmul : l[k].toNat * x ≤ 255 * 256 ^ 7 := by rw [hx']; exact Nat.mul_le_mul (by omega) hpk
  have w1 : IntKind.u64.wrap ((l[k].toNat : Nat) : Int) = ((l[k].toNat : Nat) : Int) := by rw [IntKind.wrap_u64]; omega
  have e1 : ((l[k].toNat : Nat) : Int) * (x : Int) = ((l[k].toNat * x : Nat) : Int) := by push_cast; rfl
  have w2 : IntKind.u64.wrap ((l[k].toNat * x : Nat) : Int) = ((l[k].toNat * x : Nat) : Int) := by rw [IntKind.wrap_u64]; omega
  have w3 : IntKind.u64.wrap ((q : Int) + ((l[k].toNat * x : Nat) : Int)) = ((q + l[k].toNat * x : Nat) : Int) := by rw [IntKind.wrap_u64]; omega
  rw [w1, e1, w2, w3, List.take_succ_eq_append_getElem hk, leN_snoc, hlen, ← hq, hx']

theorem bytesWorld_below (w : World) (e : TypeId) (s : ByteArray) : Below w.heap.size w (Lib.bytesWorld w e s) :=
  ⟨rfl, rfl, rfl, by rw [Lib.bytesWorld_size]; omega, fun k hk => Lib.bytesWorld_at_old w e s k hk⟩
theorem bytesWorld_bs (w : World) (e : TypeId) (s : ByteArray) : Bs (Lib.bytesWorld w e s) (Lib.bytesWorld w e s).heap.size (some ⟨w.heap.size, 0, none⟩) s.data.toList := fun _ => by
  refine ⟨_, 0, rfl, by rw [Lib.bytesWorld_size]; omega, fun j hj => ?_⟩
  have hj' : j < s.size := by simpa using hj
  rw [Nat.zero_add, Lib.bytesWorld_cell w e s j hj']
  simp [List.getD, hj']

end Go.Proofs.YtebcnacboidfeaaDoor
