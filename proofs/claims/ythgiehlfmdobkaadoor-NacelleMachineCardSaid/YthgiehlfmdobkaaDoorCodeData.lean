/-
  What package code's functions answer, as plain data. No conditions.
-/
import Derived.Test.YthgiehlfmdobkaaDoorCodeRef3
import Derived.Test.YthgiehlfmdobkaaDoorChain
namespace Go.Proofs.YthgiehlfmdobkaaDoor
open Go.RowKit

def encL : List Ins → List UInt8
  | [] => []
  | i :: r => UInt8.ofNat i.op :: UInt8.ofNat i.a :: UInt8.ofNat i.b :: UInt8.ofNat i.c :: encL r
theorem encL_length : ∀ l : List Ins, (encL l).length = 4 * l.length
  | [] => rfl
  | _ :: r => by simp only [encL, List.length_cons, encL_length r]; omega
theorem u8_back (n : Nat) (h : n < 256) : (UInt8.ofNat n).toNat = n := by simp [UInt8.toNat_ofNat']; omega
theorem listL_encL : ∀ l : List Ins, okL l → listL (encL l) = l
  | [], _ => rfl
  | i :: r, h => by
    obtain ⟨h1, h2, h3, h4⟩ := h i (List.mem_cons_self ..)
    rw [encL, listL, u8_back _ h1, u8_back _ h2, u8_back _ h3, u8_back _ h4, listL_encL r (fun j hj => h j (List.mem_cons_of_mem _ hj))]
theorem encL_inj {l m : List Ins} (hl : okL l) (hm : okL m) (h : encL l = encL m) : l = m := by rw [← listL_encL l hl, h, listL_encL m hm]
/-- the chain of a fault (code 0: none) -/
def faultC (f : Nat × Nat) : List (Int × Int) := if f.1 = 0 then [] else [((f.1 : Int), (f.2 : Int))]
/-- the chain of what Decode answers -/
def decF (b : List UInt8) : List (Int × Int) :=
  if b.length % 4 ≠ 0 then [(2, ((b.length / 4 : Nat) : Int))]
  else if (checkL (listL b)).1 = 0 then [] else [(((checkL (listL b)).1 : Nat), ((4 * (checkL (listL b)).2 : Nat) : Int)), (((checkL (listL b)).1 : Nat), ((checkL (listL b)).2 : Nat))]
def decL (b : List UInt8) : List Ins := if decF b = [] then listL b else []
/-- what may come behind place a, wherever the list ends -/
def cands (i : Ins) (a : Nat) : List Nat :=
  if i.op = 0 then []
  else if i.op = 15 then [i.num]
  else if i.op = 16 then (if a + 1 < i.num then [a + 1, i.num] else if i.num < a + 1 then [i.num, a + 1] else [a + 1])
  else [a + 1]
/-- what may come behind place at -/
def nextL (l : List Ins) (at_ : Int) : List Nat :=
  if at_ < 0 ∨ (l.length : Int) ≤ at_ then []
  else (cands (l.getD at_.toNat i0) at_.toNat).filter fun m => decide (m < l.length)
def natV (l : List Nat) : List Value := zv (l.map fun (n : Nat) => (n : Int))
/-- the first one is reached, and with one what may come behind it -/
structure ReachOk (l : List Ins) (R : List Bool) : Prop where
  len : R.length = l.length
  head : 0 < l.length → R.getD 0 false = true
  next : ∀ k, R.getD k false = true → ∀ m ∈ nextL l (k : Int), R.getD m false = true
def bcs (l : List Bool) : List Value := l.map .bool

def CheckPost (w : World) (f : Nat × Nat) (e : Ending) (w' : World) : Prop := ∃ v, e = .returned v ∧ Chain w' v (faultC f) ∧ Below w.heap.size w w'
def DecPost (w : World) (b : List UInt8) (e : Ending) (w' : World) : Prop := ∃ v u, e = .returned (.tuple #[v, u]) ∧ InsOwn w' w.heap.size v (decL b) ∧ Chain w' u (decF b) ∧ Below w.heap.size w w'
def NextPost (w : World) (l : List Nat) (e : Ending) (w' : World) : Prop := ∃ A c, e = .returned (.slice A l.length c) ∧ Vs w' w'.heap.size A (natV l) ∧ Below w.heap.size w w'
def ReachPost (w : World) (l : List Ins) (e : Ending) (w' : World) : Prop := ∃ A c R, e = .returned (.slice A l.length c) ∧ ReachOk l R ∧ Vs w' w'.heap.size A (bcs R) ∧ Below w.heap.size w w'
theorem firstBad_all {n : Nat} : ∀ {l : List Ins} {j : Nat}, firstBad n l j = none → ∀ m, m < l.length → wrongAt n (l.getD m i0) = none
  | [], _, _, m, hm => by simp at hm
  | i :: r, j, h, m, hm => by
    simp only [firstBad] at h
    split at h
    · cases h
    · rename_i h0
      cases m with
      | zero => rw [List.getD_cons_zero]; exact h0
      | succ m => rw [List.getD_cons_succ]; exact firstBad_all h m (by simpa using hm)
theorem firstBad_code {n : Nat} : ∀ {l : List Ins} {j : Nat} {p : Nat × Nat}, firstBad n l j = some p → p.1 ≠ 0
  | [], _, _, h => by cases h
  | i :: r, j, p, h => by
    simp only [firstBad] at h
    split at h
    · rename_i c hc
      cases h
      unfold wrongAt at hc
      split at hc
      · cases hc; exact (by decide : 3 ≠ 0)
      · split at hc
        · cases hc; exact (by decide : 4 ≠ 0)
        · cases hc
    · exact firstBad_code h
/-- a program -/
theorem prog_facts {l : List Ins} (h : (checkL l).1 = 0) : 1 ≤ l.length ∧ l.length ≤ 128 ∧ (∀ m, m < l.length → wrongAt l.length (l.getD m i0) = none) ∧ ((l.getD (l.length - 1) i0).op = 0 ∨ (l.getD (l.length - 1) i0).op = 15) := by
  unfold checkL at h
  split at h
  · exact absurd h (by decide : ¬ (1 : Nat) = 0)
  · rename_i hs
    split at h
    · rename_i p hp
      exact absurd h (firstBad_code hp)
    · rename_i hn
      split at h
      · exact absurd h (by decide : ¬ (2 : Nat) = 0)
      · rename_i hl
        exact ⟨by omega, by omega, firstBad_all hn, by omega⟩
theorem place_num {n : Nat} {i : Ins} (h : wrongAt n i = none) (hp : i.op = 15 ∨ i.op = 16) : i.num < n := by
  unfold wrongAt at h
  split at h
  · cases h
  · split at h
    · cases h
    · rename_i hn
      have hb : placeB i = true := decide_eq_true hp
      rcases Nat.lt_or_ge i.num n with h9 | h9
      · exact h9
      · exact absurd ⟨hb, h9⟩ hn
theorem next_facts {l : List Ins} {a : Nat} (hp : (checkL l).1 = 0) (ha : a < l.length) :
    ((l.getD a i0).op = 0 → nextL l (a : Int) = []) ∧ ((l.getD a i0).op ≠ 0 → 0 < (nextL l (a : Int)).length) ∧ (nextL l (a : Int)).length ≤ 2 ∧
      ∀ m ∈ nextL l (a : Int), m < l.length ∧ (m = a → (l.getD a i0).op = 15 ∨ (l.getD a i0).op = 16) := by
  obtain ⟨h1, h2, h3, h4⟩ := prog_facts hp
  have hw := h3 a ha
  have e : nextL l (a : Int) = (cands (l.getD a i0) a).filter fun m => decide (m < l.length) := by
    unfold nextL
    rw [if_neg (by omega), Int.toNat_natCast]
  have hlast : (l.getD a i0).op ≠ 0 → (l.getD a i0).op ≠ 15 → a + 1 < l.length := fun g0 g15 => by
    rcases Nat.lt_or_ge (a + 1) l.length with h | h
    · exact h
    · exfalso
      have ea : l.length - 1 = a := by omega
      rw [ea] at h4
      omega
  rw [e]
  obtain ⟨i, ei⟩ : ∃ i, l.getD a i0 = i := ⟨_, rfl⟩
  rw [ei] at hw hlast ⊢
  unfold cands
  by_cases g0 : i.op = 0
  · rw [if_pos g0]
    exact ⟨fun _ => rfl, fun h => absurd g0 h, by simp, fun m hm => by simp at hm⟩
  · rw [if_neg g0]
    by_cases g15 : i.op = 15
    · have hn := place_num hw (.inl g15)
      rw [if_pos g15, List.filter_cons_of_pos (by simpa using hn)]
      exact ⟨fun h => absurd h g0, fun _ => by simp, by simp, fun m hm => ⟨by simp at hm; omega, fun _ => .inl g15⟩⟩
    · rw [if_neg g15]
      have hs := hlast g0 g15
      by_cases g16 : i.op = 16
      · have hn := place_num hw (.inr g16)
        rw [if_pos g16]
        refine ⟨fun h => absurd h g0, fun _ => ?_, ?_, fun m hm => ⟨by simpa using (List.mem_filter.1 hm).2, fun _ => .inr g16⟩⟩
        · split
          · rw [List.filter_cons_of_pos (by simpa using hs)]; simp
          · split
            · rw [List.filter_cons_of_pos (by simpa using hn)]; simp
            · rw [List.filter_cons_of_pos (by simpa using hs)]; simp
        · refine Nat.le_trans (List.length_filter_le _ _) ?_
          split
          · simp
          · split <;> simp
      · rw [if_neg g16, List.filter_cons_of_pos (by simpa using hs)]
        exact ⟨fun h => absurd h g0, fun _ => by simp, by simp, fun m hm => ⟨by simp at hm; omega, fun h => by simp at hm; omega⟩⟩
theorem checkL_le (l : List Ins) : (checkL l).1 ≤ 4 ∧ (checkL l).2 ≤ l.length := by
  have key : ∀ (n : Nat) (l : List Ins) (j : Nat) (p : Nat × Nat), firstBad n l j = some p → p.1 ≤ 4 ∧ p.2 < j + l.length := by
    intro n l
    induction l with
    | nil => intro j p h; cases h
    | cons i r ih =>
      intro j p h
      simp only [firstBad] at h
      split at h
      · rename_i c hc
        cases h
        refine ⟨?_, by simp⟩
        unfold wrongAt at hc
        split at hc
        · cases hc; exact (by decide : 3 ≤ 4)
        · split at hc
          · cases hc; exact (by decide : 4 ≤ 4)
          · cases hc
      · have := ih (j + 1) p h
        simp only [List.length_cons]
        omega
  unfold checkL
  split
  · exact ⟨(by decide : 1 ≤ 4), Nat.zero_le _⟩
  · split
    · rename_i p hp
      have := key _ _ _ _ hp
      exact ⟨this.1, by omega⟩
    · split
      · exact ⟨(by decide : 2 ≤ 4), Nat.sub_le _ _⟩
      · exact ⟨(by decide : 0 ≤ 4), Nat.zero_le _⟩
end Go.Proofs.YthgiehlfmdobkaaDoor
