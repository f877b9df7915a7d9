/-
  The register's arithmetic in the numbers that a program reckons: sums, turns, choices. Conditions: each theorem's own premises.
-/
import Derived.Test.YtjhkoepcolpclaaDoorShaRef
import Derived.Test.YtjhkoepcolpclaaDoorArr
namespace Go.Proofs.YtjhkoepcolpclaaDoor
open Go.RowKit

def St.okB (s : St) : Prop := s.a < 4294967296 ∧ s.b < 4294967296 ∧ s.c < 4294967296 ∧ s.d < 4294967296 ∧ s.e < 4294967296 ∧ s.f < 4294967296 ∧ s.g < 4294967296 ∧ s.h < 4294967296
theorem St.step_ok {s : St} (h : s.okB) (k w : Nat) : (s.step k w).okB := by
  obtain ⟨h1, h2, h3, h4, h5, h6, h7, h8⟩ := h
  exact ⟨Nat.mod_lt _ (by omega), h1, h2, h3, Nat.mod_lt _ (by omega), h5, h6, h7⟩
theorem St.run_ok {s : St} (h : s.okB) (w : List Nat) (n : Nat) : (s.run w n).okB := by
  induction n with
  | zero => exact h
  | succ n ih => exact St.step_ok ih _ _
theorem shaK_length : shaK.length = 64 := by kernel_rfl
theorem shaK_lt : ∀ x ∈ shaK, x < 4294967296 := by
  have h : (shaK.all fun x => decide (x < 4294967296)) = true := by kernel_rfl
  intro x hx
  exact of_decide_eq_true (List.all_eq_true.1 h x hx)
theorem wv_getD {l : List Nat} {j : Nat} (h : j < l.length) : (wv l)[j]? = some (Value.int .u32 ((l.getD j 0 : Nat) : Int)) := by
  rw [wv_get h]
  simp [List.getD, h]
theorem Ws.getD {w : World} {B k : Nat} {A : Option Addr} {l : List Nat} (h : Ws w B A l) (hk : k < l.length) : ∃ b o, A = some ⟨b, o, none⟩ ∧ w.cell? ⟨b, o + k, none⟩ = some (.int .u32 ((l.getD k 0 : Nat) : Int)) := by
  obtain ⟨b, o, e, _, hc⟩ := h.at_ hk
  exact ⟨b, o, e, by rw [hc]; simp [List.getD, hk]⟩
theorem bits_and_u32 (a b : Nat) (ha : a < 4294967296) (hb : b < 4294967296) : bits .and .u32 (a : Int) (b : Int) = ((a &&& b : Nat) : Int) := bits_and_u32_nat a b ha hb
theorem and_lt {a : Nat} (b : Nat) (ha : a < 4294967296) : a &&& b < 4294967296 := Nat.lt_of_le_of_lt Nat.and_le_left ha
theorem or_lt {a b : Nat} (ha : a < 4294967296) (hb : b < 4294967296) : a ||| b < 4294967296 := Nat.or_lt_two_pow (n := 32) ha hb
theorem xor_lt32 {a b : Nat} (ha : a < 4294967296) (hb : b < 4294967296) : a ^^^ b < 4294967296 := Nat.xor_lt_two_pow (n := 32) ha hb
theorem u32_sum {a b z : Nat} (hz : (a + b) % 4294967296 = z) : ((a : Int) + (b : Int)) % 4294967296 = (z : Int) ∧ IntKind.u32.wrap ((a : Int) + (b : Int)) = (z : Int) := ⟨u32_add hz, u32_wrap (u32_add hz)⟩

/-- the register's first number, as the program reckons it -/
theorem t1_facts {s : St} (h : s.okB) (k w : Nat) : ∃ r1 r2 r3 m1 m2 u1 p ne q c u2 u3 : Nat,
    rotr s.e 6 = r1 ∧ rotr s.e 11 = r2 ∧ rotr s.e 25 = r3 ∧ bits .xor .u32 (r1 : Int) (r2 : Int) = (m1 : Int) ∧ bits .xor .u32 (m1 : Int) (r3 : Int) = (m2 : Int) ∧
    (((s.h : Int) + (m2 : Int)) % 4294967296 = (u1 : Int) ∧ IntKind.u32.wrap ((s.h : Int) + (m2 : Int)) = (u1 : Int)) ∧
    bits .and .u32 (s.e : Int) (s.f : Int) = (p : Int) ∧ (4294967295 - (s.e : Int) = (ne : Int) ∧ IntKind.u32.wrap (4294967295 - (s.e : Int)) = (ne : Int) ∧ IntKind.u32.wrap (ne : Int) = (ne : Int)) ∧ bits .and .u32 (ne : Int) (s.g : Int) = (q : Int) ∧ bits .or .u32 (p : Int) (q : Int) = (c : Int) ∧
    (((u1 : Int) + (c : Int)) % 4294967296 = (u2 : Int) ∧ IntKind.u32.wrap ((u1 : Int) + (c : Int)) = (u2 : Int)) ∧
    (((u2 : Int) + (k : Int)) % 4294967296 = (u3 : Int) ∧ IntKind.u32.wrap ((u2 : Int) + (k : Int)) = (u3 : Int)) ∧
    (((u3 : Int) + (w : Int)) % 4294967296 = ((s.t1 k w : Nat) : Int) ∧ IntKind.u32.wrap ((u3 : Int) + (w : Int)) = ((s.t1 k w : Nat) : Int)) := by
  obtain ⟨h1, h2, h3, h4, h5, h6, h7, h8⟩ := h
  have x1 := xor_lt32 (rotr_lt 6 h5) (rotr_lt 11 h5)
  have hn : 4294967295 - s.e < 4294967296 := by omega
  have e1 : (4294967295 : Int) - (s.e : Int) = ((4294967295 - s.e : Nat) : Int) := by omega
  have e2 : IntKind.u32.wrap ((4294967295 - s.e : Nat) : Int) = ((4294967295 - s.e : Nat) : Int) := u32_wrap (by omega)
  refine ⟨_, _, _, _, _, _, _, _, _, _, _, _, rfl, rfl, rfl, bits_xor_u32 _ _ (rotr_lt 6 h5) (rotr_lt 11 h5), bits_xor_u32 _ _ x1 (rotr_lt 25 h5), u32_sum rfl, bits_and_u32 _ _ h5 h6, ⟨e1, by rw [e1, e2], e2⟩,
    bits_and_u32 _ _ hn h7, bits_or_u32 _ _ (and_lt _ h5) (and_lt _ hn), u32_sum rfl, u32_sum rfl, u32_sum ?_⟩
  unfold St.t1
  omega
theorem t2_facts {s : St} (h : s.okB) : ∃ r1 r2 r3 m1 m2 p q c1 v c2 : Nat,
    rotr s.a 2 = r1 ∧ rotr s.a 13 = r2 ∧ rotr s.a 22 = r3 ∧ bits .xor .u32 (r1 : Int) (r2 : Int) = (m1 : Int) ∧ bits .xor .u32 (m1 : Int) (r3 : Int) = (m2 : Int) ∧
    bits .and .u32 (s.a : Int) (s.b : Int) = (p : Int) ∧ bits .and .u32 (s.a : Int) (s.c : Int) = (q : Int) ∧ bits .or .u32 (p : Int) (q : Int) = (c1 : Int) ∧ bits .and .u32 (s.b : Int) (s.c : Int) = (v : Int) ∧ bits .or .u32 (c1 : Int) (v : Int) = (c2 : Int) ∧
    (((m2 : Int) + (c2 : Int)) % 4294967296 = ((s.t2 : Nat) : Int) ∧ IntKind.u32.wrap ((m2 : Int) + (c2 : Int)) = ((s.t2 : Nat) : Int)) := by
  obtain ⟨h1, h2, h3, h4, h5, h6, h7, h8⟩ := h
  have x1 := xor_lt32 (rotr_lt 2 h1) (rotr_lt 13 h1)
  exact ⟨_, _, _, _, _, _, _, _, _, _, rfl, rfl, rfl, bits_xor_u32 _ _ (rotr_lt 2 h1) (rotr_lt 13 h1), bits_xor_u32 _ _ x1 (rotr_lt 22 h1), bits_and_u32 _ _ h1 h2, bits_and_u32 _ _ h1 h3, bits_or_u32 _ _ (and_lt _ h1) (and_lt _ h1), bits_and_u32 _ _ h2 h3,
    bits_or_u32 _ _ (or_lt (and_lt _ h1) (and_lt _ h1)) (and_lt _ h2), u32_sum rfl⟩

theorem comp32 (s : Nat) (hs : s < 4294967296) : bits .xor .u32 IntKind.u32.max (s : Int) = ((4294967295 - s : Nat) : Int) := by
  have h : IntKind.u32.max = ((4294967295 : Nat) : Int) := rfl
  rw [h, bits_xor_u32 _ _ (by omega) hs]
  congr 1
  have h2 := Nat.xor_comm 4294967295 s
  rw [h2]
  apply Nat.eq_of_testBit_eq
  intro i
  rw [Nat.testBit_xor]
  have e : 4294967295 - s = 2 ^ 32 - (s + 1) := by omega
  have e2 : (4294967295 : Nat) = 2 ^ 32 - 1 := rfl
  rw [e, Nat.testBit_two_pow_sub_succ (by omega), e2, Nat.testBit_two_pow_sub_one]
  by_cases hi : i < 32
  · simp [hi]
  · have : s.testBit i = false := Nat.testBit_lt_two_pow (Nat.lt_of_lt_of_le (show s < 2 ^ 32 by omega) (Nat.pow_le_pow_right (by omega) (by omega)))
    simp [hi, this]
/-- the register's first number where the constant and the word were added before -/
theorem m1_facts {s : St} (h : s.okB) (kw : Nat) : ∃ r1 r2 r3 m1 m2 u1 p ne q c u2 : Nat,
    rotr s.e 6 = r1 ∧ rotr s.e 11 = r2 ∧ rotr s.e 25 = r3 ∧ bits .xor .u32 (r1 : Int) (r2 : Int) = (m1 : Int) ∧ bits .xor .u32 (m1 : Int) (r3 : Int) = (m2 : Int) ∧
    (((s.h : Int) + (m2 : Int)) % 4294967296 = (u1 : Int) ∧ IntKind.u32.wrap ((s.h : Int) + (m2 : Int)) = (u1 : Int)) ∧
    bits .and .u32 (s.e : Int) (s.f : Int) = (p : Int) ∧ bits .xor .u32 IntKind.u32.max (s.e : Int) = (ne : Int) ∧ bits .and .u32 (ne : Int) (s.g : Int) = (q : Int) ∧ bits .or .u32 (p : Int) (q : Int) = (c : Int) ∧
    (((u1 : Int) + (c : Int)) % 4294967296 = (u2 : Int) ∧ IntKind.u32.wrap ((u1 : Int) + (c : Int)) = (u2 : Int)) ∧
    (((u2 : Int) + (kw : Int)) % 4294967296 = ((s.t1 kw 0 : Nat) : Int) ∧ IntKind.u32.wrap ((u2 : Int) + (kw : Int)) = ((s.t1 kw 0 : Nat) : Int)) := by
  obtain ⟨h1, h2, h3, h4, h5, h6, h7, h8⟩ := h
  have x1 := xor_lt32 (rotr_lt 6 h5) (rotr_lt 11 h5)
  have hn : 4294967295 - s.e < 4294967296 := by omega
  refine ⟨_, _, _, _, _, _, _, _, _, _, _, rfl, rfl, rfl, bits_xor_u32 _ _ (rotr_lt 6 h5) (rotr_lt 11 h5), bits_xor_u32 _ _ x1 (rotr_lt 25 h5), u32_sum rfl, bits_and_u32 _ _ h5 h6, comp32 _ h5,
    bits_and_u32 _ _ hn h7, bits_or_u32 _ _ (and_lt _ h5) (and_lt _ hn), u32_sum rfl, u32_sum ?_⟩
  unfold St.t1
  omega
theorem St.step_sum (s : St) (k w : Nat) : s.step ((k + w) % 4294967296) 0 = s.step k w := by
  have : s.t1 ((k + w) % 4294967296) 0 = s.t1 k w := by unfold St.t1; omega
  unfold St.step
  rw [this]
theorem St.plus_ok (s t : St) : (s.plus t).okB := ⟨Nat.mod_lt _ (by omega), Nat.mod_lt _ (by omega), Nat.mod_lt _ (by omega), Nat.mod_lt _ (by omega), Nat.mod_lt _ (by omega), Nat.mod_lt _ (by omega), Nat.mod_lt _ (by omega), Nat.mod_lt _ (by omega)⟩
theorem shaH_ok : shaH.okB := by unfold St.okB shaH; decide
theorem St.take_ok {s : St} (h : s.okB) (n : Nat) (l : List UInt8) : (s.take n l).okB := by
  cases n with
  | zero => exact h
  | succ n => exact St.plus_ok _ _
theorem St.list_length (s : St) : s.list.length = 8 := rfl
theorem St.list_lt {s : St} (h : s.okB) : ∀ x ∈ s.list, x < 4294967296 := by
  obtain ⟨h1, h2, h3, h4, h5, h6, h7, h8⟩ := h
  intro x hx
  simp only [St.list, List.mem_cons, List.not_mem_nil, or_false] at hx
  rcases hx with rfl | rfl | rfl | rfl | rfl | rfl | rfl | rfl <;> assumption
theorem wordsW_length (b : List UInt8) : (wordsW b).length = 64 := by unfold wordsW; rw [extW_length, firstW_length]
end Go.Proofs.YtjhkoepcolpclaaDoor
