/-
  The 64 words of a block as they come to be, in a row that is filled place by place. No conditions.
-/
import Derived.Test.YtjhkoepcolpclaaDoorShaMix
namespace Go.Proofs.YtjhkoepcolpclaaDoor
open Go.RowKit

theorem wv_set (L : List Nat) (p v : Nat) : (wv L).set p (.int .u32 (v : Int)) = wv (L.set p v) := by
  simp [wv, List.map_set]
theorem Blk.setw {w : World} {g : Nat} {t : TypeId} {L : List Nat} (h : Blk w g t (wv L).toArray) (p v : Nat) : Blk (w.setCell ⟨g, p, none⟩ (.int .u32 (v : Int))) g t (wv (L.set p v)).toArray := by
  have := h.set_ p (.int .u32 (v : Int))
  rwa [List.setIfInBounds_toArray, wv_set] at this
theorem Blk.getw {w : World} {g : Nat} {t : TypeId} {L : List Nat} (h : Blk w g t (wv L).toArray) {p : Nat} (hp : p < L.length) : w.cell? ⟨g, p, none⟩ = some (.int .u32 ((L.getD p 0 : Nat) : Int)) := by
  rw [h.cell, List.getElem?_toArray]
  exact wv_getD hp
def be4_of (b : List UInt8) (i j : Nat) : Nat := be4 ((b.drop (4 * j)).take (min 4 (i - 4 * j)))
def W1 (b : List UInt8) (i : Nat) : List Nat := (List.range 64).map (be4_of b i)
theorem W1_length (b : List UInt8) (i : Nat) : (W1 b i).length = 64 := by simp [W1]
theorem W1_zero (b : List UInt8) : W1 b 0 = List.replicate 64 0 := by
  apply List.ext_getElem
  · simp [W1]
  · intro j h1 h2
    rw [List.getElem_replicate]
    simp [W1, be4_of, be4]
theorem W1_at (b : List UInt8) (i j : Nat) (h : j < 64) : (W1 b i).getD j 0 = be4_of b i j := by
  simp [W1, List.getD, h]
theorem be4_of_lt (b : List UInt8) (i : Nat) : be4_of b i (i / 4) < 16777216 := by
  have h1 := be_lt ((b.drop (4 * (i / 4))).take (min 4 (i - 4 * (i / 4))))
  have h2 : 256 ^ ((b.drop (4 * (i / 4))).take (min 4 (i - 4 * (i / 4)))).length ≤ 256 ^ 3 := Nat.pow_le_pow_right (by omega) (by rw [List.length_take]; omega)
  unfold be4_of be4
  omega
theorem W1_step (b : List UInt8) (i : Nat) (h : i < b.length) (hb : b.length = 64) : W1 b (i + 1) = (W1 b i).set (i / 4) (be4_of b i (i / 4) * 256 + b[i].toNat) := by
  apply List.ext_getElem
  · simp [W1]
  · intro j h1 h2
    rw [List.getElem_set]
    have hj : j < 64 := by simpa [W1] using h1
    simp only [W1, List.getElem_map, List.getElem_range]
    split
    · rename_i e
      subst e
      unfold be4_of be4
      have e1 : min 4 (i + 1 - 4 * (i / 4)) = i % 4 + 1 := by omega
      have e2 : min 4 (i - 4 * (i / 4)) = i % 4 := by omega
      have e3 : 4 * (i / 4) + i % 4 = i := by omega
      rw [e1, e2, be4_step b (4 * (i / 4)) (i % 4) (by omega)]
      congr 2
      simp only [e3]
    · unfold be4_of
      rcases Nat.lt_or_ge j (i / 4) with hl | hl
      · rw [show min 4 (i + 1 - 4 * j) = 4 by omega, show min 4 (i - 4 * j) = 4 by omega]
      · rw [show min 4 (i + 1 - 4 * j) = 0 by omega, show min 4 (i - 4 * j) = 0 by omega]
theorem firstW_map (b : List UInt8) (n : Nat) : firstW b n = (List.range n).map fun j => be4 ((b.drop (4 * j)).take 4) := by
  induction n with
  | zero => rfl
  | succ n ih => rw [firstW, ih, List.range_succ, List.map_append]; rfl
theorem W1_end (b : List UInt8) (hb : b.length = 64) : W1 b 64 = firstW b 16 ++ List.replicate 48 0 := by
  rw [firstW_map]
  apply List.ext_getElem
  · simp [W1]
  · intro j h1 h2
    have hj : j < 64 := by simpa [W1] using h1
    simp only [W1, List.getElem_map, List.getElem_range, be4_of]
    rw [List.getElem_append]
    split
    · rename_i h3
      have h3' : j < 16 := by simpa using h3
      simp only [List.getElem_map, List.getElem_range]
      rw [show min 4 (64 - 4 * j) = 4 by omega]
    · rename_i h3
      have h3' : ¬ j < 16 := by simpa using h3
      rw [List.drop_eq_nil_of_le (by omega), List.getElem_replicate]
      simp [be4]
def extZ (b : List UInt8) (n : Nat) : List Nat := extW (firstW b 16) n ++ List.replicate (48 - n) 0
theorem extZ_zero (b : List UInt8) (hb : b.length = 64) : W1 b 64 = extZ b 0 := W1_end b hb
theorem extZ_length (b : List UInt8) (n : Nat) (h : n ≤ 48) : (extZ b n).length = 64 := by
  simp [extZ, extW_length, firstW_length]; omega
theorem extZ_at (b : List UInt8) (n j : Nat) (h : j < n + 16) : (extZ b n).getD j 0 = (extW (firstW b 16) n).getD j 0 := by
  unfold extZ
  simp only [List.getD_eq_getElem?_getD]
  rw [List.getElem?_append_left (by rw [extW_length, firstW_length]; omega)]
theorem extZ_step (b : List UInt8) (n : Nat) (h : n < 48) : (extZ b n).set (n + 16) (nextW (extW (firstW b 16) n)) = extZ b (n + 1) := by
  unfold extZ
  have hl : (extW (firstW b 16) n).length = n + 16 := by rw [extW_length, firstW_length]; omega
  rw [List.set_append, if_neg (by omega), hl, Nat.sub_self, show 48 - n = (48 - (n + 1)) + 1 by omega, List.replicate_succ, List.set_cons_zero, extW]
  simp
theorem extZ_end (b : List UInt8) : extZ b 48 = wordsW b := by simp [extZ, wordsW]
theorem extW_at_lt (b : List UInt8) (n j : Nat) : (extW (firstW b 16) n).getD j 0 < 4294967296 := by
  rcases Nat.lt_or_ge j (extW (firstW b 16) n).length with h | h
  · rw [List.getD_eq_getElem?_getD, List.getElem?_eq_getElem h]
    exact extW_lt _ (firstW_lt b 16) n _ (List.getElem_mem h)
  · rw [List.getD_eq_getElem?_getD, List.getElem?_eq_none h]
    decide
theorem nextW_is (b : List UInt8) (n : Nat) : nextW (extW (firstW b 16) n) =
    (((sig1 ((extW (firstW b 16) n).getD (n + 14) 0) + (extW (firstW b 16) n).getD (n + 9) 0) % 4294967296 + sig0 ((extW (firstW b 16) n).getD (n + 1) 0)) % 4294967296 + (extW (firstW b 16) n).getD n 0) % 4294967296 := by
  have hl : (extW (firstW b 16) n).length = n + 16 := by rw [extW_length, firstW_length]; omega
  unfold nextW
  rw [hl, show n + 16 - 2 = n + 14 by omega, show n + 16 - 7 = n + 9 by omega, show n + 16 - 15 = n + 1 by omega, show n + 16 - 16 = n by omega]
  omega
end Go.Proofs.YtjhkoepcolpclaaDoor
