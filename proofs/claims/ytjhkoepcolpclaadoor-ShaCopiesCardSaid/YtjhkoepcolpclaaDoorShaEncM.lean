/-
  Rows of bytes that are filled place by place: a digest's bytes, the bytes behind a text. No conditions.
-/
import Derived.Test.YtjhkoepcolpclaaDoorShaProc
namespace Go.Proofs.YtjhkoepcolpclaaDoor
open Go.RowKit

theorem bv_set (L : List UInt8) (p : Nat) (c : UInt8) : (bv L).set p (.int .u8 (c.toNat : Int)) = bv (L.set p c) := by
  simp [bv, List.map_set]
theorem Blk.setb {w : World} {g : Nat} {t : TypeId} {L : List UInt8} (h : Blk w g t (bv L).toArray) (p : Nat) (c : UInt8) (v : Int) (hv : v = (c.toNat : Int)) : Blk (w.setCell ⟨g, p, none⟩ (.int .u8 v)) g t (bv (L.set p c)).toArray := by
  subst hv
  have := h.set_ p (.int .u8 (c.toNat : Int))
  rwa [List.setIfInBounds_toArray, bv_set] at this
theorem Blk.getb {w : World} {g : Nat} {t : TypeId} {L : List UInt8} (h : Blk w g t (bv L).toArray) {p : Nat} (hp : p < L.length) : w.cell? ⟨g, p, none⟩ = some (.int .u8 ((L.getD p 0).toNat : Int)) := by
  rw [h.cell, List.getElem?_toArray, bv_get hp]
  simp [List.getD, hp]

theorem beB_at (x : Nat) : ∀ (n k : Nat), k < n → (beB x n)[k]? = some (UInt8.ofNat (x / 256 ^ (n - 1 - k) % 256))
  | 0, _, h => by omega
  | n + 1, 0, _ => rfl
  | n + 1, k + 1, h => by
    rw [beB, List.getElem?_cons_succ, beB_at x n k (by omega)]
    rw [show n + 1 - 1 - (k + 1) = n - 1 - k by omega]
theorem flat4 (l : List Nat) : ∀ (i : Nat), i < 4 * l.length → (l.flatMap fun x => beB x 4)[i]? = some (UInt8.ofNat (l.getD (i / 4) 0 / 256 ^ (3 - i % 4) % 256)) := by
  induction l with
  | nil => intro i h; simp at h
  | cons x l ih =>
    intro i h
    rw [List.flatMap_cons]
    rcases Nat.lt_or_ge i 4 with hi | hi
    · rw [List.getElem?_append_left (by rw [beB_length]; exact hi), beB_at x 4 i hi, show i / 4 = 0 by omega, show i % 4 = i by omega]
      rfl
    · rw [List.getElem?_append_right (by rw [beB_length]; exact hi), beB_length, ih (i - 4) (by simp at h; omega), show i / 4 = (i - 4) / 4 + 1 by omega, show (i - 4) % 4 = i % 4 by omega]
      rfl
theorem flat4_length (l : List Nat) : (l.flatMap fun x => beB x 4).length = 4 * l.length := by
  induction l with
  | nil => rfl
  | cons x l ih => rw [List.flatMap_cons, List.length_append, beB_length, ih, List.length_cons]; omega
theorem digest_length (s : St) : (digest s).length = 32 := by rw [digest, flat4_length]; rfl
theorem sha_length (l : List UInt8) : (sha l).length = 32 := digest_length _
theorem digest_at (s : St) (i : Nat) (h : i < 32) : (digest s)[i]? = some (UInt8.ofNat (s.list.getD (i / 4) 0 / 256 ^ (3 - i % 4) % 256)) := flat4 s.list i (by rw [St.list_length]; omega)
def encS (s : St) (i : Nat) : List UInt8 := (digest s).take i ++ List.replicate (32 - i) 0
theorem encS_length (s : St) (i : Nat) (h : i ≤ 32) : (encS s i).length = 32 := by simp [encS, digest_length]; omega
theorem encS_end (s : St) : encS s 32 = digest s := by simp [encS, ← digest_length s]
theorem encS_step (s : St) (i : Nat) (h : i < 32) (c : UInt8) (hc : c = UInt8.ofNat (s.list.getD (i / 4) 0 / 256 ^ (3 - i % 4) % 256)) : (encS s i).set i c = encS s (i + 1) := by
  have hd := digest_at s i h
  rw [← hc] at hd
  have hl : ((digest s).take i).length = i := by simp [digest_length]; omega
  unfold encS
  rw [List.set_append, if_neg (by omega), hl, Nat.sub_self, show 32 - i = (32 - (i + 1)) + 1 by omega, List.replicate_succ, List.set_cons_zero, List.take_add_one, hd]
  simp

def endL (n i : Nat) : List UInt8 := 128 :: List.replicate (padZ n + (8 - i)) 0 ++ (beB (8 * n) 8).drop (8 - i)
theorem endL_length (n i : Nat) (h : i ≤ 8) : (endL n i).length = padZ n + 9 := by simp [endL, beB_length]; omega
def tailB (n : Nat) : List UInt8 := 128 :: List.replicate (padZ n) 0 ++ beB (8 * n) 8
theorem endL_end (n : Nat) : endL n 8 = tailB n := rfl
theorem tailB_length (n : Nat) : (tailB n).length = padZ n + 9 := by simp [tailB, beB_length]
theorem padded_tail (l : List UInt8) : padded l = l ++ tailB l.length := by simp [padded, tailB]
theorem endL_zero (n : Nat) : endL n 0 = 128 :: List.replicate (padZ n + 8) 0 := by
  have h : (beB (8 * n) 8).drop (8 - 0) = [] := List.drop_eq_nil_of_le (by rw [beB_length]; omega)
  unfold endL
  rw [h]
  simp
theorem endL_step (n i : Nat) (h : i < 8) (c : UInt8) (hc : c = UInt8.ofNat (8 * n / 256 ^ i % 256)) : (endL n i).set (padZ n + 8 - i) c = endL n (i + 1) := by
  have hb := beB_at (8 * n) 8 (7 - i) (by omega)
  rw [show 8 - 1 - (7 - i) = i by omega, ← hc] at hb
  have hd : (beB (8 * n) 8).drop (8 - (i + 1)) = c :: (beB (8 * n) 8).drop (8 - i) := by
    have hlt : 8 - (i + 1) < (beB (8 * n) 8).length := by rw [beB_length]; omega
    have he := List.getElem?_eq_getElem (show 7 - i < (beB (8 * n) 8).length by rw [beB_length]; omega)
    rw [hb] at he
    rw [List.drop_eq_getElem_cons hlt, show 8 - (i + 1) + 1 = 8 - i by omega]
    congr 1
    have he' := Option.some.inj he
    rw [he']
    congr 1
    omega
  unfold endL
  rw [hd, show padZ n + (8 - i) = padZ n + (8 - (i + 1)) + 1 by omega, List.replicate_succ', List.set_append, if_pos (by simp; omega), show padZ n + 8 - i = (padZ n + (8 - (i + 1))) + 1 by omega]
  simp
end Go.Proofs.YtjhkoepcolpclaaDoor
