/-
  Extents as plain data: pairs of a beginning and a count. No conditions.
-/
import Derived.Test.YtdhaikcmgegfoaaRow
namespace Go.Proofs.Ytdhaikcmgegfoaa
open Go.RowKit

abbrev MaxI : Int := 9223372036854775807
/-- an int -/
def isI (z : Int) : Prop := -9223372036854775808 ≤ z ∧ z ≤ 9223372036854775807
instance isI_dec (z : Int) : Decidable (isI z) := by unfold isI; infer_instance
/-- have two extents a sector in common? -/
def meetB (f c g d : Int) : Bool := decide (1 ≤ c) && decide (1 ≤ d) && decide (f < g + d) && decide (g < f + c)
theorem meetB_comm (f c g d : Int) : meetB f c g d = meetB g d f c := by
  unfold meetB
  cases decide (1 ≤ c) <;> cases decide (1 ≤ d) <;> cases decide (f < g + d) <;> cases decide (g < f + c) <;> rfl
theorem meetB_yes {f c g d : Int} (h : 1 ≤ c ∧ 1 ≤ d ∧ f < g + d ∧ g < f + c) : meetB f c g d = true := by simp [meetB, h]
theorem meetB_no {f c g d : Int} (h : c < 1 ∨ d < 1 ∨ g + d ≤ f ∨ f + c ≤ g) : meetB f c g d = false := by
  unfold meetB
  rcases h with h | h | h | h
  · rw [decide_eq_false (show ¬ 1 ≤ c by omega)]; rfl
  · rw [decide_eq_false (show ¬ 1 ≤ d by omega)]; simp
  · rw [decide_eq_false (show ¬ f < g + d by omega)]; simp
  · rw [decide_eq_false (show ¬ g < f + c by omega)]; simp
theorem meetB_true {f c g d : Int} : meetB f c g d = true ↔ 1 ≤ c ∧ 1 ≤ d ∧ f < g + d ∧ g < f + c := by
  simp only [meetB, Bool.and_eq_true, decide_eq_true_eq, and_assoc]
/-- of a list no two have -/
def apartB : List (Int × Int) → Bool
  | [] => true
  | x :: r => r.all (fun y => !meetB x.1 x.2 y.1 y.2) && apartB r
def liesB (f c n : Int) : Bool := decide (1 ≤ c ∧ 0 ≤ f ∧ f + c ≤ n)
def placeO (f c k : Int) : Option Int := if k < 0 ∨ c ≤ k ∨ MaxI < f + k then none else some (f + k)
theorem apartB_true : ∀ {l : List (Int × Int)}, apartB l = true ↔ ∀ i k, i < k → k < l.length → meetB (l.getD i (0, 0)).1 (l.getD i (0, 0)).2 (l.getD k (0, 0)).1 (l.getD k (0, 0)).2 = false
  | [] => by simp [apartB]
  | x :: r => by
    rw [apartB, Bool.and_eq_true, apartB_true (l := r), List.all_eq_true]
    constructor
    · rintro ⟨h1, h2⟩ i k hik hk
      cases k with
      | zero => omega
      | succ k =>
        rw [List.length_cons] at hk
        cases i with
        | zero =>
          have hm : r.getD k (0, 0) ∈ r := by simp [List.getD, show k < r.length by omega]
          have := h1 _ hm
          simpa using this
        | succ i => simpa using h2 i k (by omega) (by omega)
    · intro h
      refine ⟨fun y hy => ?_, fun i k hik hk => ?_⟩
      · obtain ⟨k, hk, e⟩ := List.getElem_of_mem hy
        have := h 0 (k + 1) (by omega) (by simpa using hk)
        simp only [List.getD_cons_zero, List.getD_cons_succ] at this
        rw [List.getD, List.getElem?_eq_getElem hk, Option.getD_some, e] at this
        simp [this]
      · have := h (i + 1) (k + 1) (by omega) (by simpa using hk)
        simpa using this
theorem apartB_false {l : List (Int × Int)} {i k : Nat} (hik : i < k) (hk : k < l.length) (h : meetB (l.getD i (0, 0)).1 (l.getD i (0, 0)).2 (l.getD k (0, 0)).1 (l.getD k (0, 0)).2 = true) : apartB l = false := by
  cases e : apartB l
  · rfl
  · have := apartB_true.1 e i k hik hk
    rw [h] at this
    cases this

/-- extents' cells: two each -/
def evs : List (Int × Int) → List Value
  | [] => []
  | p :: r => .int .i64 p.1 :: .int .i64 p.2 :: evs r
theorem evs_length : ∀ l : List (Int × Int), (evs l).length = l.length * 2
  | [] => rfl
  | _ :: r => by simp only [evs, List.length_cons, evs_length r]; omega
theorem evs_append : ∀ a b : List (Int × Int), evs (a ++ b) = evs a ++ evs b
  | [], _ => rfl
  | _ :: r, b => by simp only [List.cons_append, evs, evs_append r b]
theorem evs_one : ∀ l : List (Int × Int), ∀ u ∈ evs l, u.oneCell' = true
  | [], u, hu => by simp [evs] at hu
  | p :: r, u, hu => by
    simp only [evs, List.mem_cons] at hu
    rcases hu with rfl | rfl | hu
    · rfl
    · rfl
    · exact evs_one r u hu
theorem evs_get : ∀ {l : List (Int × Int)} {j : Nat}, j < l.length → (evs l)[j * 2]? = some (.int .i64 (l.getD j (0, 0)).1) ∧ (evs l)[j * 2 + 1]? = some (.int .i64 (l.getD j (0, 0)).2)
  | p :: r, 0, _ => ⟨rfl, rfl⟩
  | p :: r, j + 1, h => by
    have := evs_get (l := r) (j := j) (by simpa using h)
    have e : (j + 1) * 2 = j * 2 + 1 + 1 := by omega
    rw [e]
    simpa [evs] using this
/-- the slice at A has the extents l -/
theorem evs_at {w : World} {B : Nat} {A : Option Addr} {l : List (Int × Int)} (h : Vs w B A (evs l)) {j : Nat} (hj : j < l.length) : ∃ b o, A = some ⟨b, o, none⟩ ∧ b < B ∧ w.cell? ⟨b, o + j * 2, none⟩ = some (.int .i64 (l.getD j (0, 0)).1) ∧ w.cell? ⟨b, o + j * 2 + 1, none⟩ = some (.int .i64 (l.getD j (0, 0)).2) := by
  obtain ⟨b, o, e, hb, hc⟩ := h (by rw [evs_length]; omega)
  obtain ⟨h1, h2⟩ := evs_get hj
  exact ⟨b, o, e, hb, hc _ _ h1, by rw [Nat.add_assoc]; exact hc _ _ h2⟩
end Go.Proofs.Ytdhaikcmgegfoaa
