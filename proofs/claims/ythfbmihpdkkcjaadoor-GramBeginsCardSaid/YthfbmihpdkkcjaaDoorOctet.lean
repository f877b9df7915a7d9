/-
  Package octet's Put and Get, and the law's 'same', by their contracts. Conditions: each theorem's own premises (a size from 1 to 8, or not).
-/
import Derived.Test.YthfbmihpdkkcjaaDoorMem
import Derived.Test.YthfbmihpdkkcjaaDoorProg
import Derived.WalkKit
import Derived.LoopTactic
import Derived.Outline
import Derived.Laws.Bits64b
import Derived.Laws.MakeOwn
namespace Go.Proofs.YthfbmihpdkkcjaaDoor
open Go.RowKit

theorem u8info : (Tryd.prog.info? 5).map (fun i => (i.zero, i.size, i.bytes)) = some (some (.int .u8 0), 1, 1) := by kernel_rfl

theorem run_make_bytes {P : Program} (t e : TypeId) (i : TypeInfo) (z : Value) (ht : P.underlying t = some (.slice e)) (hi : P.info? e = some i) (hz : i.zero = some z)
    (kl kc : IntKind) (n c : Nat) (hnc : n ≤ c) (hbytes : i.bytes * c ≤ 281474976710656) (h63 : c ≤ 9223372036854775807) (w : World) :
    (Instr.makeSlice t (.int kl (n : Int)) (.int kc (c : Int))).run P w = .ok (.slice (some ⟨w.heap.size, 0, none⟩) n c) (w.alloc (.cells (madeCells z.cells (c * i.size)) e)) := by
  have hb : (i.bytes : Int) * (c : Int) ≤ 281474976710656 := by
    have h : ((i.bytes * c : Nat) : Int) ≤ 281474976710656 := by omega
    rwa [Int.natCast_mul] at h
  have hr := run_make (P := P) w t e i z ht hi hz kl kc n c (by omega) (by omega) hb (by omega)
  simp only [Int.toNat_natCast] at hr
  exact hr

theorem put_start (w : World) (n s : Nat) : Blk (w.alloc (.cells (madeCells #[.int .u8 0] s) 5)) w.heap.size 5 (bv (leB n 0) ++ List.replicate (s - 0) (Value.int .u8 0)).toArray := by
  have h := Blk.new w 5 (madeCells #[.int .u8 0] s)
  have e : madeCells #[.int .u8 0] s = (bv (leB n 0) ++ List.replicate (s - 0) (Value.int .u8 0)).toArray := by
    apply Array.ext'
    apply List.ext_getElem
    · simp [madeCells, bv, leB]
    · intro i h1 h2
      simp [madeCells, bv, leB, Nat.mod_one]
  unfold Blk at h ⊢
  rw [h, e]
theorem put_cell (n : Nat) {k s : Nat} (h : k < s) : (bv (leB n k) ++ List.replicate (s - k) (Value.int .u8 0)).toArray[k]? = some (.int .u8 0) := by
  obtain ⟨d, rfl⟩ : ∃ d, s = k + 1 + d := ⟨s - (k + 1), by omega⟩
  have e1 : k + 1 + d - k = d + 1 := by omega
  simp [bv_length, leB_length, e1, List.replicate_succ]
theorem div_step (n k : Nat) : ((n : Int) / 256 ^ k / 256) = ((n / 256 ^ (k + 1) : Nat) : Int) := by
  rw [Nat.pow_succ, ← Nat.div_div_eq_div_mul]
  simp
theorem mod_step (n k : Nat) : ((n : Int) / 256 ^ k % 256) = ((n / 256 ^ k % 256 : Nat) : Int) := by simp
theorem put_step (n : Nat) {k s : Nat} (h : k < s) : ((bv (leB n k) ++ List.replicate (s - k) (Value.int .u8 0)).toArray).setIfInBounds k (.int .u8 ((n / 256 ^ k % 256 : Nat) : Int)) = (bv (leB n (k + 1)) ++ List.replicate (s - (k + 1)) (Value.int .u8 0)).toArray := by
  apply Array.ext'
  rw [leB_snoc, bv_append]
  obtain ⟨d, rfl⟩ : ∃ d, s = k + 1 + d := ⟨s - (k + 1), by omega⟩
  have e1 : k + 1 + d - k = d + 1 := by omega
  have e2 : k + 1 + d - (k + 1) = d := by omega
  have e3 : (UInt8.ofNat (n / 256 ^ k % 256)).toNat = n / 256 ^ k % 256 := by simp
  have e4 : (bv (leB n k)).length = k := by rw [bv_length, leB_length]
  rw [e1, e2, List.replicate_succ]
  simp only [List.setIfInBounds_toArray]
  rw [List.set_append_right _ _ (by omega), e4, Nat.sub_self]
  simp [bv]
theorem put_end (n s : Nat) : (bv (leB n s) ++ List.replicate (s - s) (Value.int .u8 0)).toArray = (bv (leB n s)).toArray := by simp

def PutPost (w : World) (n s : Nat) (e : Ending) (w' : World) : Prop :=
  e = .returned (.slice (some ⟨w.heap.size, 0, none⟩) s s) ∧ Blk w' w.heap.size 5 (bv (leB n s)).toArray ∧ Below w.heap.size w w'

theorem PutPost.own {w : World} {n s : Nat} {e : Ending} {w' : World} (h : PutPost w n s e w') (hs : s ≤ 8) : e = .returned (.slice (some ⟨w.heap.size, 0, none⟩) s s) ∧ Own w' w.heap.size 5 (.slice (some ⟨w.heap.size, 0, none⟩) s s) (leB n s) ∧ Below w.heap.size w w' :=
  ⟨h.1, h.2.1.own_n (Nat.le_refl _) (by rw [leB_length]; unfold maxLen; omega) (leB_length n s), h.2.2⟩

theorem PutPost.bs {w : World} {n s : Nat} {e : Ending} {w' : World} (h : PutPost w n s e w') (hs : s ≤ 8) : e = .returned (.slice (some ⟨w.heap.size, 0, none⟩) s s) ∧ Bs w' w'.heap.size (some ⟨w.heap.size, 0, none⟩) (leB n s) ∧ Below w.heap.size w w' := by
  obtain ⟨h1, h2, h3⟩ := h.own hs
  obtain ⟨A, c, hv, hb, _⟩ := h2.slice
  injection hv with hv
  subst hv
  exact ⟨h1, hb, h3⟩

theorem get_step (l : List UInt8) {k : Nat} (hk : k < l.length) (h8 : l.length ≤ 8) :
    bits BinOp.or IntKind.u64 ((leN (l.take k) : Nat) : Int) (IntKind.u64.wrap (IntKind.u64.wrap ((l[k].toNat : Nat) : Int) * 2 ^ (8 * k))) = ((leN (l.take (k + 1)) : Nat) : Int) := by
  have hc : l[k].toNat < 256 := l[k].toNat_lt
  have hlen : (l.take k).length = k := by rw [List.length_take]; omega
  have hl := leN_lt (l.take k)
  rw [hlen] at hl
  have hp : (2 : Nat) ^ (8 * k) = 256 ^ k := by rw [Nat.pow_mul]
  have hpk : 256 ^ k ≤ 256 ^ 7 := Nat.pow_le_pow_right (by decide) (by omega)
  have hmul : l[k].toNat * 256 ^ k ≤ 255 * 256 ^ 7 := Nat.mul_le_mul (by omega) hpk
  have w1 : IntKind.u64.wrap ((l[k].toNat : Nat) : Int) = ((l[k].toNat : Nat) : Int) := by rw [IntKind.wrap_u64]; omega
  have e1 : (((l[k].toNat : Nat) : Int) * 2 ^ (8 * k)) = ((l[k].toNat * 256 ^ k : Nat) : Int) := by
    rw [← hp]; push_cast; rfl
  have w2 : IntKind.u64.wrap ((l[k].toNat * 256 ^ k : Nat) : Int) = ((l[k].toNat * 256 ^ k : Nat) : Int) := by rw [IntKind.wrap_u64]; omega
  rw [w1, e1, w2, bits_or_u64_nat _ _ (by omega) (by omega)]
  have hor := or_shift (leN (l.take k)) l[k].toNat (8 * k) (by rw [hp]; exact hl)
  rw [hp] at hor
  rw [hor, List.take_succ_eq_append_getElem hk, leN_snoc, hlen]

end Go.Proofs.YthfbmihpdkkcjaaDoor
