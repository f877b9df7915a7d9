/-
  What nine sectors say while none of them is flushed: a colour each. Conditions: each theorem's own premises.
-/
import Derived.Test.YtdhaikcmgegfoaaExtSt
namespace Go.Proofs.Ytdhaikcmgegfoaa
open Go.RowKit

/-- a disk of nine sectors with power, no more than k writes wait, and sector z is read full of col z -/
structure Conf (m : Dk) (k : Nat) (col : Nat → UInt8) : Prop where
  off : m.off = false
  left : m.left < 0
  len : m.has.length = 9
  few : m.waits.length ≤ k
  rd : ∀ z : Nat, z < 9 → m.read (z : Int) = (List.replicate 64 (col z), 0)
theorem Conf.new : Conf (Dk.new 9) 0 (fun _ => 0) :=
  ⟨rfl, by decide, rfl, by decide, fun z hz => by
    unfold Dk.read
    rw [if_neg (by simp [Dk.new]; omega), if_neg (by simp [Dk.new])]
    simp only [Int.toNat_natCast]
    have : (Dk.new 9).has.getD z [] = nought := by
      unfold Dk.new
      simp only [List.getD, List.getElem?_replicate, if_pos hz, Option.getD_some]
    simp only [this]
    rfl⟩
theorem rdw_more (ws : List (Nat × List UInt8)) (q : Nat × List UInt8) (p : Nat) : ∀ j, j ≤ ws.length → rdw (ws ++ [q]) p j = rdw ws p j
  | 0, _ => rfl
  | j + 1, h => by
    simp only [rdw]
    rw [rdw_more ws q p j (by omega)]
    have : (ws ++ [q]).getD j (0, []) = ws.getD j (0, []) := by simp [List.getD, List.getElem?_append_left (show j < ws.length by omega)]
    rw [this]
theorem rdw_last (ws : List (Nat × List UInt8)) (q : Nat × List UInt8) (p : Nat) : rdw (ws ++ [q]) p (ws ++ [q]).length = if q.1 = p then some q.2 else rdw ws p ws.length := by
  rw [List.length_append, List.length_singleton]
  simp only [rdw]
  rw [rdw_more ws q p ws.length (Nat.le_refl _)]
  have : (ws ++ [q]).getD ws.length (0, []) = q := by simp [List.getD]
  rw [this]
theorem Conf.write {m : Dk} {k : Nat} {col : Nat → UInt8} (h : Conf m k col) {z : Nat} (hz : z < 9) (f : UInt8) : ∃ m', m.write (z : Int) (List.replicate 64 f) = (m', 0) ∧ Conf m' (k + 1) (fun y => if y = z then f else col y) := by
  have hst : m.step = (m, true) := by
    unfold Dk.step
    rw [h.off, if_neg (by decide), if_neg (by have := h.left; omega), if_neg (by have := h.left; omega)]
  refine ⟨{ m with waits := m.waits ++ [(z, List.replicate 64 f)] }, ?_, h.off, h.left, h.len, ?_, fun y hy => ?_⟩
  · unfold Dk.write
    rw [if_neg (by rw [h.len]; omega), if_neg (by simp), hst]
    simp
  · have := h.few
    simp
    exact this
  · have h0 := h.rd y hy
    unfold Dk.read at h0 ⊢
    rw [if_neg (by rw [h.len]; omega), if_neg (by rw [h.off]; decide)] at h0
    rw [if_neg (by simp only [h.len]; omega), if_neg (by simp only [h.off]; decide)]
    simp only [Int.toNat_natCast, rdw_last] at h0 ⊢
    by_cases e : z = y
    · subst e
      simp
    · rw [if_neg e]
      rw [if_neg (fun e' => e e'.symm)]
      exact h0
theorem Conf.more {m : Dk} {k j : Nat} {col : Nat → UInt8} (h : Conf m k col) (hj : k ≤ j) : Conf m j col := ⟨h.off, h.left, h.len, Nat.le_trans h.few hj, h.rd⟩
/-- the colours of two parts side by side: from 1 on n sectors, and 3 behind them -/
def colOf (n : Nat) (one two : List UInt8) (z : Nat) : UInt8 := if 1 ≤ z ∧ z < 1 + n then one.getD (z - 1) 0 else if 1 + n ≤ z ∧ z < 4 + n then two.getD (z - (1 + n)) 0 else 0
theorem col_zero (n : Nat) (one two : List UInt8) (h1 : ∀ i, one.getD i 0 = 0) (h2 : ∀ i, two.getD i 0 = 0) : colOf n one two = fun _ => 0 := by
  funext z
  unfold colOf
  rw [h1, h2]
  split
  · rfl
  · split <;> rfl
theorem getD_set_eq (l : List UInt8) (a : Nat) (f : UInt8) (h : a < l.length) (j : Nat) : (l.set a f).getD j 0 = if j = a then f else l.getD j 0 := by
  by_cases e : j = a
  · subst e
    simp [List.getD, h]
  · rw [if_neg e]
    simp [List.getD, show ¬ a = j from fun h => e h.symm]
theorem col_one (n : Nat) (one two : List UInt8) (a : Nat) (f : UInt8) (ha : a < n) (hl : a < one.length) : (fun y => if y = 1 + a then f else colOf n one two y) = colOf n (one.set a f) two := by
  funext y
  unfold colOf
  rw [getD_set_eq one a f hl]
  by_cases h1 : y = 1 + a
  · rw [if_pos h1, if_pos (by omega), if_pos (by omega)]
  · rw [if_neg h1]
    by_cases h2 : 1 ≤ y ∧ y < 1 + n
    · rw [if_pos h2, if_pos h2, if_neg (by omega)]
    · rw [if_neg h2, if_neg h2]
theorem col_two (n : Nat) (one two : List UInt8) (a : Nat) (f : UInt8) (ha : a < 3) (hl : a < two.length) : (fun y => if y = 1 + n + a then f else colOf n one two y) = colOf n one (two.set a f) := by
  funext y
  unfold colOf
  rw [getD_set_eq two a f hl]
  by_cases h1 : y = 1 + n + a
  · rw [if_pos h1, if_neg (by omega), if_pos (by omega), if_pos (by omega)]
  · rw [if_neg h1]
    by_cases h2 : 1 ≤ y ∧ y < 1 + n
    · rw [if_pos h2, if_pos h2]
    · rw [if_neg h2, if_neg h2]
      by_cases h3 : 1 + n ≤ y ∧ y < 4 + n
      · rw [if_pos h3, if_pos h3, if_neg (by omega)]
      · rw [if_neg h3, if_neg h3]
/-- a write through the first part, and through the second one -/
theorem Conf.one {m : Dk} {k n : Nat} {one two : List UInt8} (h : Conf m k (colOf n one two)) (hn : n ≤ 3) (a : Int) (f : UInt8) (hl : one.length = 9) :
    (∃ (i : Nat) (m' : Dk), a = (i : Int) ∧ i < n ∧ partWrite m 1 n a (List.replicate 64 f) = (m', 0) ∧ Conf m' (k + 1) (colOf n (one.set i f) two)) ∨ (¬ (0 ≤ a ∧ a < n) ∧ partWrite m 1 n a (List.replicate 64 f) = (m, 4)) := by
  by_cases hr : 0 ≤ a ∧ a < n
  · obtain ⟨i, rfl⟩ : ∃ i : Nat, a = i := ⟨a.toNat, by omega⟩
    obtain ⟨m', h1, h2⟩ := h.write (z := 1 + i) (by omega) f
    refine .inl ⟨i, m', rfl, by omega, ?_, ?_⟩
    · unfold partWrite placeO MaxI
      rw [if_neg (by omega)]
      simp only
      rw [← h1]
      congr 1
    · rw [← col_one n one two i f (by omega) (by omega)]
      exact h2
  · refine .inr ⟨hr, ?_⟩
    unfold partWrite placeO
    rw [if_pos (by omega)]
theorem Conf.two {m : Dk} {k n : Nat} {one two : List UInt8} (h : Conf m k (colOf n one two)) (hn : n ≤ 3) (a : Int) (f : UInt8) (hl : two.length = 9) :
    (∃ (i : Nat) (m' : Dk), a = (i : Int) ∧ i < 3 ∧ partWrite m (1 + n : Nat) 3 a (List.replicate 64 f) = (m', 0) ∧ Conf m' (k + 1) (colOf n one (two.set i f))) ∨ (¬ (0 ≤ a ∧ a < 3) ∧ partWrite m (1 + n : Nat) 3 a (List.replicate 64 f) = (m, 4)) := by
  by_cases hr : 0 ≤ a ∧ a < 3
  · obtain ⟨i, rfl⟩ : ∃ i : Nat, a = i := ⟨a.toNat, by omega⟩
    obtain ⟨m', h1, h2⟩ := h.write (z := 1 + n + i) (by omega) f
    refine .inl ⟨i, m', rfl, by omega, ?_, ?_⟩
    · unfold partWrite placeO MaxI
      rw [if_neg (by omega)]
      simp only
      rw [← h1]
      congr 1
    · rw [← col_two n one two i f (by omega) (by omega)]
      exact h2
  · refine .inr ⟨hr, ?_⟩
    unfold partWrite placeO
    rw [if_pos (by omega)]
/-- what is read through them, and beside them -/
theorem Conf.rone {m : Dk} {k n : Nat} {one two : List UInt8} (h : Conf m k (colOf n one two)) (hn : n ≤ 3) (i : Nat) (hi : i < n) : partRead m 1 n i = (List.replicate 64 (one.getD i 0), 0) := by
  unfold partRead placeO MaxI
  rw [if_neg (by omega)]
  simp only
  have h1 := h.rd (1 + i) (by omega)
  have e : ((1 + i : Nat) : Int) = 1 + (i : Int) := by omega
  rw [e] at h1
  rw [h1]
  unfold colOf
  rw [if_pos (by omega), Nat.add_sub_cancel_left]
theorem Conf.rtwo {m : Dk} {k n : Nat} {one two : List UInt8} (h : Conf m k (colOf n one two)) (hn : n ≤ 3) (i : Nat) (hi : i < 3) : partRead m (1 + n : Nat) 3 i = (List.replicate 64 (two.getD i 0), 0) := by
  unfold partRead placeO MaxI
  rw [if_neg (by omega)]
  simp only
  have h1 := h.rd (1 + n + i) (by omega)
  have e : ((1 + n + i : Nat) : Int) = ((1 + n : Nat) : Int) + (i : Int) := by omega
  rw [e] at h1
  rw [h1]
  unfold colOf
  rw [if_neg (by omega), if_pos (by omega), Nat.add_sub_cancel_left]
theorem Conf.edge {m : Dk} {k n : Nat} {one two : List UInt8} (h : Conf m k (colOf n one two)) (hn : n ≤ 3) : m.read 0 = (nought, 0) ∧ m.read 8 = (nought, 0) := by
  have h0 := h.rd 0 (by omega)
  have h8 := h.rd 8 (by omega)
  unfold colOf at h0 h8
  rw [if_neg (by omega), if_neg (by omega)] at h0 h8
  exact ⟨h0, h8⟩
/-- a cell of a block is set -/
theorem Blk.setAt {w : World} {g : Nat} {t : TypeId} {l : List UInt8} (h : Blk w g t (bv l).toArray) (i : Nat) (f : UInt8) : Blk (w.setCell ⟨g, i, none⟩ (.int .u8 (f.toNat : Int))) g t (bv (l.set i f)).toArray := by
  have h1 := h.set_ i (.int .u8 (f.toNat : Int))
  have e : (bv l).toArray.setIfInBounds i (.int .u8 (f.toNat : Int)) = (bv (l.set i f)).toArray := by simp [bv, List.map_set]
  rwa [e] at h1
theorem Blk.getAt {w : World} {g : Nat} {t : TypeId} {l : List UInt8} (h : Blk w g t (bv l).toArray) {i : Nat} (hi : i < l.length) : w.cell? ⟨g, i, none⟩ = some (.int .u8 ((l.getD i 0).toNat : Int)) := by
  rw [h.cell, List.getElem?_toArray, bv_get hi]
  simp [List.getD, hi]
end Go.Proofs.Ytdhaikcmgegfoaa
