/-
  Instructions as plain data: four numbers below 256. No conditions.
-/
import Derived.Test.YthgiehlfmdobkaaDoorRow
namespace Go.Proofs.YthgiehlfmdobkaaDoor
open Go.RowKit

structure Ins where
  op : Nat
  a : Nat
  b : Nat
  c : Nat
deriving DecidableEq, Inhabited
def i0 : Ins := ⟨0, 0, 0, 0⟩
/-- four bytes -/
def Ins.ok (i : Ins) : Prop := i.op < 256 ∧ i.a < 256 ∧ i.b < 256 ∧ i.c < 256
def okL (l : List Ins) : Prop := ∀ i ∈ l, i.ok
def Ins.num (i : Ins) : Nat := i.b + 256 * i.c
def Ins.numS (i : Ins) : Int := if i.op = 1 ∧ 32768 ≤ i.num then (i.num : Int) - 65536 else i.num
def Ins.cells (i : Ins) : List Value := [.int .u8 (i.op : Int), .int .u8 (i.a : Int), .int .u8 (i.b : Int), .int .u8 (i.c : Int)]
def Ins.val (i : Ins) : Value := .agg i.cells.toArray
def formedB (i : Ins) : Bool :=
  if i.op = 0 then decide (i.a = 0 ∧ i.b = 0 ∧ i.c = 0)
  else if i.op = 1 ∨ i.op = 16 then decide (i.a < 8)
  else if i.op = 2 then decide (i.a < 8 ∧ i.b < 8 ∧ i.c = 0)
  else if 3 ≤ i.op ∧ i.op ≤ 12 then decide (i.a < 8 ∧ i.b < 8 ∧ i.c < 8)
  else if i.op = 13 ∨ i.op = 14 then decide (i.a < 8 ∧ i.b < 8)
  else if i.op = 15 then decide (i.a = 0)
  else decide (i.op = 17 ∧ i.a < 16 ∧ i.b = 0 ∧ i.c = 0)
theorem formed_0 (a b c : Nat) : formedB ⟨0, a, b, c⟩ = decide (a = 0 ∧ b = 0 ∧ c = 0) := rfl
theorem formed_1 (a b c : Nat) : formedB ⟨1, a, b, c⟩ = decide (a < 8) := rfl
theorem formed_16 (a b c : Nat) : formedB ⟨16, a, b, c⟩ = decide (a < 8) := rfl
theorem formed_2 (a b c : Nat) : formedB ⟨2, a, b, c⟩ = decide (a < 8 ∧ b < 8 ∧ c = 0) := rfl
theorem formed_mid {op : Nat} (h1 : 3 ≤ op) (h2 : op ≤ 12) (a b c : Nat) : formedB ⟨op, a, b, c⟩ = decide (a < 8 ∧ b < 8 ∧ c < 8) := by
  unfold formedB
  dsimp only
  rw [if_neg (by omega), if_neg (by omega), if_neg (by omega), if_pos ⟨h1, h2⟩]
theorem formed_13 (a b c : Nat) : formedB ⟨13, a, b, c⟩ = decide (a < 8 ∧ b < 8) := rfl
theorem formed_14 (a b c : Nat) : formedB ⟨14, a, b, c⟩ = decide (a < 8 ∧ b < 8) := rfl
theorem formed_15 (a b c : Nat) : formedB ⟨15, a, b, c⟩ = decide (a = 0) := rfl
theorem formed_17 (a b c : Nat) : formedB ⟨17, a, b, c⟩ = decide (a < 16 ∧ b = 0 ∧ c = 0) := by
  have e : formedB ⟨17, a, b, c⟩ = decide (17 = 17 ∧ a < 16 ∧ b = 0 ∧ c = 0) := rfl
  rw [e]
  simp
theorem formed_big {op : Nat} (h : 17 < op) (a b c : Nat) : formedB ⟨op, a, b, c⟩ = false := by
  unfold formedB
  dsimp only
  rw [if_neg (by omega), if_neg (by omega), if_neg (by omega), if_neg (by omega), if_neg (by omega), if_neg (by omega)]
  exact decide_eq_false (by omega)
/-- must its number be a place? -/
def placeB (i : Ins) : Bool := decide (i.op = 15 ∨ i.op = 16)
/-- what is wrong with an instruction of a list of n -/
def wrongAt (n : Nat) (i : Ins) : Option Nat := if formedB i = false then some 3 else if placeB i = true ∧ n ≤ i.num then some 4 else none
def firstBad (n : Nat) : List Ins → Nat → Option (Nat × Nat)
  | [], _ => none
  | i :: r, k => match wrongAt n i with
    | some c => some (c, k)
    | none => firstBad n r (k + 1)
/-- the fault of a list: its code (0: it is a program) and its place -/
def checkL (l : List Ins) : Nat × Nat :=
  if l.length < 1 ∨ 128 < l.length then (1, 0)
  else match firstBad l.length l 0 with
    | some p => p
    | none => if (l.getD (l.length - 1) i0).op ≠ 0 ∧ (l.getD (l.length - 1) i0).op ≠ 15 then (2, l.length - 1) else (0, 0)
theorem firstBad_at {n : Nat} : ∀ {l : List Ins} {j k : Nat} {c : Nat}, (∀ m, m < k → wrongAt n (l.getD m i0) = none) → k < l.length → wrongAt n (l.getD k i0) = some c → firstBad n l j = some (c, j + k)
  | i :: r, j, 0, c, _, _, h => by
    rw [List.getD_cons_zero] at h
    simp only [firstBad, h, Nat.add_zero]
  | i :: r, j, k + 1, c, hk, hl, h => by
    have h0 := hk 0 (by omega)
    rw [List.getD_cons_zero] at h0
    rw [List.getD_cons_succ] at h
    simp only [firstBad, h0]
    rw [firstBad_at (l := r) (j := j + 1) (k := k) (fun m hm => by have := hk (m + 1) (by omega); rwa [List.getD_cons_succ] at this) (by simpa using hl) h]
    simp; omega
theorem firstBad_none {n : Nat} : ∀ {l : List Ins} {j : Nat}, (∀ m, m < l.length → wrongAt n (l.getD m i0) = none) → firstBad n l j = none
  | [], _, _ => rfl
  | i :: r, j, h => by
    have h0 := h 0 (by simp)
    rw [List.getD_cons_zero] at h0
    simp only [firstBad, h0]
    exact firstBad_none (fun m hm => by have := h (m + 1) (by simpa using hm); rwa [List.getD_cons_succ] at this)
theorem checkL_size {l : List Ins} (h : l.length < 1 ∨ 128 < l.length) : checkL l = (1, 0) := by unfold checkL; rw [if_pos h]
theorem checkL_at {l : List Ins} {k c : Nat} (h : ¬ (l.length < 1 ∨ 128 < l.length)) (hk : ∀ m, m < k → wrongAt l.length (l.getD m i0) = none) (hl : k < l.length) (hc : wrongAt l.length (l.getD k i0) = some c) : checkL l = (c, k) := by
  unfold checkL
  rw [if_neg h, firstBad_at hk hl hc, Nat.zero_add]
theorem checkL_end {l : List Ins} (h : ¬ (l.length < 1 ∨ 128 < l.length)) (hk : ∀ m, m < l.length → wrongAt l.length (l.getD m i0) = none) : checkL l = if (l.getD (l.length - 1) i0).op ≠ 0 ∧ (l.getD (l.length - 1) i0).op ≠ 15 then (2, l.length - 1) else (0, 0) := by
  unfold checkL
  rw [if_neg h, firstBad_none hk]

/-- instructions' cells: four each -/
def ivs : List Ins → List Value
  | [] => []
  | i :: r => i.cells ++ ivs r
theorem ivs_length : ∀ l : List Ins, (ivs l).length = l.length * 4
  | [] => rfl
  | i :: r => by simp only [ivs, Ins.cells, List.length_append, List.length_cons, List.length_nil, ivs_length r]; omega
theorem ivs_append : ∀ a b : List Ins, ivs (a ++ b) = ivs a ++ ivs b
  | [], _ => rfl
  | i :: r, b => by simp only [List.cons_append, ivs, ivs_append r b, List.append_assoc]
theorem cells_one (i : Ins) : ∀ u ∈ i.cells, u.oneCell' = true := by
  intro u hu
  simp only [Ins.cells, List.mem_cons, List.not_mem_nil, or_false] at hu
  rcases hu with rfl | rfl | rfl | rfl <;> rfl
theorem ivs_get : ∀ {l : List Ins} {j t : Nat} {v : Value}, j < l.length → (l.getD j i0).cells[t]? = some v → (ivs l)[j * 4 + t]? = some v
  | i :: r, 0, t, v, _, h => by
    rw [List.getD_cons_zero] at h
    rw [ivs, Nat.zero_mul, Nat.zero_add, List.getElem?_append_left (List.getElem?_eq_some_iff.1 h).1]
    exact h
  | i :: r, j + 1, t, v, hl, h => by
    rw [List.getD_cons_succ] at h
    have := ivs_get (l := r) (j := j) (by simpa using hl) h
    rw [ivs, List.getElem?_append_right (by simp [Ins.cells]; omega), ← this]
    congr 1
    simp [Ins.cells]
    omega
/-- the slice at A has the instructions l -/
theorem ivs_at {w : World} {B : Nat} {A : Option Addr} {l : List Ins} (h : Vs w B A (ivs l)) {j : Nat} (hj : j < l.length) : ∃ b o, A = some ⟨b, o, none⟩ ∧ b < B ∧ ∀ t v, (l.getD j i0).cells[t]? = some v → w.cell? ⟨b, o + j * 4 + t, none⟩ = some v := by
  obtain ⟨b, o, e, hb, hc⟩ := h (by rw [ivs_length]; omega)
  exact ⟨b, o, e, hb, fun t v ht => by rw [Nat.add_assoc]; exact hc _ _ (ivs_get hj ht)⟩
theorem ivs_take {w : World} {B : Nat} {A : Option Addr} {l : List Ins} (h : Vs w B A (ivs l)) (m : Nat) : Vs w B A (ivs (l.take m)) := fun h0 => by
  obtain ⟨b, o, e, hb, hc⟩ := h (by rw [ivs_length] at h0 ⊢; rw [List.length_take] at h0; omega)
  refine ⟨b, o, e, hb, fun j v hj => hc j v ?_⟩
  have : ivs l = ivs (l.take m) ++ ivs (l.drop m) := by rw [← ivs_append, List.take_append_drop]
  rw [this, List.getElem?_append_left ((List.getElem?_eq_some_iff.1 hj).1)]
  exact hj
theorem okL_take {l : List Ins} (h : okL l) (m : Nat) : okL (l.take m) := fun i hi => h i (List.mem_of_mem_take hi)
theorem okL_get {l : List Ins} (h : okL l) {j : Nat} (hj : j < l.length) : (l.getD j i0).ok := h _ (by simp [List.getD, hj])
theorem take_snoc (l : List Ins) (i : Nat) (h : i < l.length) : l.take (i + 1) = l.take i ++ [l.getD i i0] := by
  rw [List.take_add_one]
  simp [List.getD, h]
end Go.Proofs.YthgiehlfmdobkaaDoor
