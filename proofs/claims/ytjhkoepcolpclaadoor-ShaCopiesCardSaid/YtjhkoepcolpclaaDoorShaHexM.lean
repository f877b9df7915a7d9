/-
  Hexadecimal digits of bytes, and bytes of digits, in plain lists. No conditions.
-/
import Derived.Test.YtjhkoepcolpclaaDoorShaEncM
namespace Go.Proofs.YtjhkoepcolpclaaDoor
open Go.RowKit

def hexD (v : Nat) : UInt8 := if v < 10 then UInt8.ofNat (48 + v) else UInt8.ofNat (87 + v)
def hexV (c : UInt8) : Option Nat := if 48 ≤ c.toNat ∧ c.toNat ≤ 57 then some (c.toNat - 48) else if 97 ≤ c.toNat ∧ c.toNat ≤ 102 then some (c.toNat - 87) else none
theorem hexV_hexD : ∀ v, v < 16 → hexV (hexD v) = some v := by decide
theorem hexD_hexV {c : UInt8} {v : Nat} (h : hexV c = some v) : hexD v = c ∧ v < 16 := by
  have hc := c.toNat_lt
  unfold hexV at h
  split at h
  · rename_i h1
    obtain rfl := Option.some.inj h
    refine ⟨?_, by omega⟩
    unfold hexD
    rw [if_pos (by omega)]
    apply UInt8.toNat_inj.1
    simp
    omega
  · split at h
    · rename_i h1
      obtain rfl := Option.some.inj h
      refine ⟨?_, by omega⟩
      unfold hexD
      rw [if_neg (by omega)]
      apply UInt8.toNat_inj.1
      simp
      omega
    · cases h
def hexOf : List UInt8 → List UInt8
  | [] => []
  | c :: l => hexD (c.toNat / 16) :: hexD (c.toNat % 16) :: hexOf l
theorem hexOf_length : ∀ (l : List UInt8), (hexOf l).length = 2 * l.length
  | [] => rfl
  | c :: l => by rw [hexOf, List.length_cons, List.length_cons, hexOf_length l, List.length_cons]; omega
theorem hexOf_at : ∀ (l : List UInt8) (i : Nat) (h : i < l.length), (hexOf l)[2 * i]? = some (hexD (l[i].toNat / 16)) ∧ (hexOf l)[2 * i + 1]? = some (hexD (l[i].toNat % 16))
  | c :: l, 0, _ => ⟨rfl, rfl⟩
  | c :: l, i + 1, h => by
    have ih := hexOf_at l i (by simpa using h)
    rw [show 2 * (i + 1) = (2 * i) + 1 + 1 by omega, hexOf]
    simp only [List.getElem?_cons_succ, List.getElem_cons_succ]
    exact ih
def hexL (l : List UInt8) (i : Nat) : List UInt8 := (hexOf l).take (2 * i) ++ List.replicate (64 - 2 * i) 0
theorem hexL_length (l : List UInt8) (i : Nat) (hl : l.length = 32) (h : i ≤ 32) : (hexL l i).length = 64 := by simp [hexL, hexOf_length, hl]; omega
theorem hexL_end (l : List UInt8) (hl : l.length = 32) : hexL l 32 = hexOf l := by
  have : (hexOf l).length = 64 := by rw [hexOf_length, hl]
  simp [hexL, ← this]
theorem take_two (L : List UInt8) (i : Nat) (x y : UInt8) (hx : L[2 * i]? = some x) (hy : L[2 * i + 1]? = some y) : L.take (2 * (i + 1)) = L.take (2 * i) ++ [x, y] := by
  rw [show 2 * (i + 1) = 2 * i + 1 + 1 by omega, List.take_add_one, List.take_add_one, hx, hy]
  simp
theorem hexL_step (l : List UInt8) (i : Nat) (hl : l.length = 32) (h : i < 32) : ((hexL l i).set (2 * i) (hexD ((l.getD i 0).toNat / 16))).set (2 * i + 1) (hexD ((l.getD i 0).toNat % 16)) = hexL l (i + 1) := by
  have hi : i < l.length := by omega
  have hg : l.getD i 0 = l[i] := by simp [List.getD, hi]
  obtain ⟨h1, h2⟩ := hexOf_at l i hi
  have ht : ((hexOf l).take (2 * i)).length = 2 * i := by rw [List.length_take, hexOf_length]; omega
  rw [hg]
  unfold hexL
  rw [take_two _ _ _ _ h1 h2, show 64 - 2 * i = (64 - 2 * (i + 1)) + 1 + 1 by omega, List.replicate_succ, List.replicate_succ, List.set_append, if_neg (by omega), ht, Nat.sub_self, List.set_cons_zero,
    List.set_append, if_neg (by omega), ht, show 2 * i + 1 - 2 * i = 1 by omega, List.set_cons_succ, List.set_cons_zero]
  simp

def vAt (s : List UInt8) (i : Nat) : Nat := (hexV (s.getD i 0)).getD 0
theorem vAt_lt (s : List UInt8) (i : Nat) : vAt s i < 16 := by
  unfold vAt
  cases h : hexV (s.getD i 0) with
  | none => decide
  | some v => exact (hexD_hexV h).2
def byteAt (s : List UInt8) (i j : Nat) : Nat := if 2 * j + 1 < i then 16 * vAt s (2 * j) + vAt s (2 * j + 1) else if 2 * j < i then vAt s (2 * j) else 0
theorem byteAt_lt (s : List UInt8) (i j : Nat) : byteAt s i j < 256 := by
  have h1 := vAt_lt s (2 * j)
  have h2 := vAt_lt s (2 * j + 1)
  unfold byteAt
  split
  · omega
  · split <;> omega
theorem byteAt_half (s : List UInt8) (i : Nat) : byteAt s i (i / 2) < 16 ∧ byteAt s i (i / 2) * 16 + vAt s i = byteAt s (i + 1) (i / 2) := by
  have h1 := vAt_lt s (2 * (i / 2))
  unfold byteAt
  rw [if_neg (by omega)]
  by_cases hi : 2 * (i / 2) < i
  · rw [if_pos hi, if_pos (by omega), show 2 * (i / 2) + 1 = i by omega]
    exact ⟨h1, by omega⟩
  · rw [if_neg hi, if_neg (by omega), if_pos (by omega), show 2 * (i / 2) = i by omega]
    omega
def unL (s : List UInt8) (i : Nat) : List UInt8 := (List.range 32).map fun j => UInt8.ofNat (byteAt s i j)
theorem unL_length (s : List UInt8) (i : Nat) : (unL s i).length = 32 := by simp [unL]
theorem unL_zero (s : List UInt8) : unL s 0 = List.replicate 32 0 := by
  apply List.ext_getElem
  · simp [unL]
  · intro j h1 h2
    rw [List.getElem_replicate]
    simp [unL, byteAt]
theorem unL_at (s : List UInt8) (i j : Nat) (h : j < 32) : ((unL s i).getD j 0).toNat = byteAt s i j := by
  have := byteAt_lt s i j
  simp [unL, List.getD, h]
  omega
theorem unL_step (s : List UInt8) (i : Nat) : (unL s i).set (i / 2) (UInt8.ofNat (byteAt s (i + 1) (i / 2))) = unL s (i + 1) := by
  apply List.ext_getElem
  · simp [unL]
  · intro j h1 h2
    rw [List.getElem_set]
    simp only [unL, List.getElem_map, List.getElem_range]
    split
    · rename_i e
      rw [e]
    · rename_i e
      congr 1
      unfold byteAt
      by_cases hj : 2 * j + 1 < i
      · rw [if_pos hj, if_pos (by omega)]
      · rw [if_neg hj, if_neg (by omega), if_neg (by omega), if_neg (by omega)]
def hexOk (s : List UInt8) : Bool := decide (s.length = 64) && s.all fun c => (hexV c).isSome
def unhexV (s : List UInt8) : List UInt8 := if hexOk s then unL s 64 else List.replicate 32 0
theorem unhexV_length (s : List UInt8) : (unhexV s).length = 32 := by
  unfold unhexV
  split
  · exact unL_length _ _
  · simp
theorem hexOk_hexOf (l : List UInt8) (hl : l.length = 32) : hexOk (hexOf l) = true := by
  have h1 : (hexOf l).length = 64 := by rw [hexOf_length, hl]
  have h2 : ∀ (l : List UInt8), (hexOf l).all (fun c => (hexV c).isSome) = true := by
    intro l
    induction l with
    | nil => rfl
    | cons c l ih =>
      have hc := c.toNat_lt
      rw [hexOf, List.all_cons, List.all_cons, ih, hexV_hexD _ (by omega), hexV_hexD _ (by omega)]
      rfl
  unfold hexOk
  rw [h2, h1]
  rfl
theorem unhexV_hexOf (l : List UInt8) (hl : l.length = 32) : unhexV (hexOf l) = l := by
  unfold unhexV
  rw [if_pos (hexOk_hexOf l hl)]
  apply List.ext_getElem
  · rw [unL_length, hl]
  · intro j h1 h2
    obtain ⟨e1, e2⟩ := hexOf_at l j h2
    have hc := l[j].toNat_lt
    have v1 : vAt (hexOf l) (2 * j) = l[j].toNat / 16 := by unfold vAt; rw [List.getD_eq_getElem?_getD, e1, Option.getD_some, hexV_hexD _ (by omega)]; rfl
    have v2 : vAt (hexOf l) (2 * j + 1) = l[j].toNat % 16 := by unfold vAt; rw [List.getD_eq_getElem?_getD, e2, Option.getD_some, hexV_hexD _ (by omega)]; rfl
    simp only [unL, List.getElem_map, List.getElem_range]
    unfold byteAt
    rw [if_pos (by omega), v1, v2]
    apply UInt8.toNat_inj.1
    simp
    omega
theorem hexOf_unhexV (s : List UInt8) (h : hexOk s = true) : hexOf (unhexV s) = s := by
  have h' := h
  unfold hexOk at h'
  rw [Bool.and_eq_true, decide_eq_true_eq, List.all_eq_true] at h'
  obtain ⟨h64, hall⟩ := h'
  have hv : ∀ i, i < 64 → hexD (vAt s i) = s.getD i 0 := fun i hi => by
    have hm : s.getD i 0 ∈ s := by rw [List.getD_eq_getElem?_getD, List.getElem?_eq_getElem (by omega)]; exact List.getElem_mem _
    obtain ⟨v, hv⟩ := Option.isSome_iff_exists.1 (hall _ hm)
    unfold vAt
    rw [hv]
    exact (hexD_hexV hv).1
  unfold unhexV
  rw [if_pos h]
  apply List.ext_getElem?
  intro k
  rcases Nat.lt_or_ge k 64 with hk | hk
  · have hj : k / 2 < (unL s 64).length := by rw [unL_length]; omega
    obtain ⟨e1, e2⟩ := hexOf_at (unL s 64) (k / 2) hj
    have hb : (unL s 64)[k / 2].toNat = 16 * vAt s (2 * (k / 2)) + vAt s (2 * (k / 2) + 1) := by
      have := unL_at s 64 (k / 2) (by omega)
      rw [List.getD_eq_getElem?_getD, List.getElem?_eq_getElem hj, Option.getD_some] at this
      rw [this]
      unfold byteAt
      rw [if_pos (by omega)]
    have l1 := vAt_lt s (2 * (k / 2))
    have l2 := vAt_lt s (2 * (k / 2) + 1)
    rw [hb, show (16 * vAt s (2 * (k / 2)) + vAt s (2 * (k / 2) + 1)) / 16 = vAt s (2 * (k / 2)) by omega, hv _ (by omega)] at e1
    rw [hb, show (16 * vAt s (2 * (k / 2)) + vAt s (2 * (k / 2) + 1)) % 16 = vAt s (2 * (k / 2) + 1) by omega, hv _ (by omega)] at e2
    have hs : s[k]? = some (s.getD k 0) := by rw [List.getD_eq_getElem?_getD, List.getElem?_eq_getElem (by omega)]; rfl
    rw [hs]
    by_cases hp : k % 2 = 0
    · rw [show 2 * (k / 2) = k by omega] at e1
      exact e1
    · rw [show 2 * (k / 2) + 1 = k by omega] at e2
      exact e2
  · rw [List.getElem?_eq_none (by rw [hexOf_length, unL_length]; omega), List.getElem?_eq_none (by omega)]
end Go.Proofs.YtjhkoepcolpclaaDoor
