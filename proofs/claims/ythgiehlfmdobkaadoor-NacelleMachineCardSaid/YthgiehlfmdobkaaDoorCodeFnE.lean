/-
  Package code's Encode, by its contract. Conditions: the theorem's own premises.
-/
import Derived.Test.YthgiehlfmdobkaaDoorCodeFnC
namespace Go.Proofs.YthgiehlfmdobkaaDoor
open Go.RowKit

theorem bs4 (w : World) (op a b c : Nat) (h : Ins.ok ⟨op, a, b, c⟩) (e : TypeId) : Bs (w.alloc (.cells #[.int .u8 (op : Int), .int .u8 (a : Int), .int .u8 (b : Int), .int .u8 (c : Int)] e)) (w.heap.size + 1) (some ⟨w.heap.size, 0, none⟩) [UInt8.ofNat op, UInt8.ofNat a, UInt8.ofNat b, UInt8.ofNat c] := fun _ => by
  obtain ⟨h0, h1, h2, h3⟩ := h
  refine ⟨w.heap.size, 0, rfl, by omega, fun j hj => ?_⟩
  have hb := Blk.new w e #[.int .u8 (op : Int), .int .u8 (a : Int), .int .u8 (b : Int), .int .u8 (c : Int)]
  rw [Nat.zero_add, hb.cell]
  match j, hj with
  | 0, _ => rw [show [UInt8.ofNat op, UInt8.ofNat a, UInt8.ofNat b, UInt8.ofNat c][0] = UInt8.ofNat op from rfl, u8_back _ h0]; rfl
  | 1, _ => rw [show [UInt8.ofNat op, UInt8.ofNat a, UInt8.ofNat b, UInt8.ofNat c][1] = UInt8.ofNat a from rfl, u8_back _ h1]; rfl
  | 2, _ => rw [show [UInt8.ofNat op, UInt8.ofNat a, UInt8.ofNat b, UInt8.ofNat c][2] = UInt8.ofNat b from rfl, u8_back _ h2]; rfl
  | 3, _ => rw [show [UInt8.ofNat op, UInt8.ofNat a, UInt8.ofNat b, UInt8.ofNat c][3] = UInt8.ofNat c from rfl, u8_back _ h3]; rfl
theorem encL_append : ∀ a b : List Ins, encL (a ++ b) = encL a ++ encL b
  | [], _ => rfl
  | i :: r, b => by simp only [List.cons_append, encL, encL_append r b]

set_option maxRecDepth 100000 in
set_option maxHeartbeats 4000000 in
set_option linter.unusedSimpArgs false in
theorem coEncode (A : Option Addr) (l : List Ins) (n cp : Nat) (hl : l.length = n) (hn : n ≤ 1000000) (w : World) (hA : InsAt w A l) : Calls Tryd.prog 26 #[.slice A n cp] w (OwnPost w (encL l)) := by
  have H := Lib.hid (And.intro hl hA)
  clear hl hA
  have e1 : wrap64 (4 * (n : Int)) = ((4 * n : Nat) : Int) := by unfold wrap64; omega
  obtain ⟨i1, hi0, hz0, hz1, hz2⟩ := info_parts u8info
  obtain ⟨w1, hmk, hown, hg⟩ := run_make_own (P := Tryd.prog) w w.heap.size 47 5 i1 _ 1 Tryd.underlying47 hi0 hz0 hz1 .i64 .i64 (4 * n) (by rw [hz2]; omega) (by unfold maxLen; omega) (Nat.le_refl _)
  obtain ⟨cA, ecA⟩ : ∃ x, 4 * n = x := ⟨_, rfl⟩
  rw [show ((4 * n : Nat) : Int) = 4 * (n : Int) by omega, ecA] at hmk
  rw [ecA] at hown
  have hb1 : Below w.heap.size w w1 := only_below hg (Nat.le_refl _) (fun g e => by cases e)
  have H1 := Lib.hid (And.intro hown (And.intro hb1 ecA))
  clear hown hg hb1 ecA
  go_enter Tryd.func26, Tryd.ntmps26
  go_wp2_with fail
  go_loopw [3, 12] (fun v u wz => ∃ (k p : Nat) (A1 : Option Addr) (c1 : Nat), k ≤ n ∧ u = .int .i64 (k : Int) ∧ p = 4 * k ∧ v = .slice A1 p c1 ∧ Own wz w.heap.size 5 (.slice A1 p c1) (encL (l.take k)) ∧ Below w.heap.size w wz) (fun _ u _ => n - (intOf u).toNat)
  case atStart => exact ⟨0, 0, _, _, by omega, rfl, rfl, rfl, Own.of_row H1.out.1 rfl, H1.out.2.1⟩
  case round =>
    obtain ⟨k, p, A1, c1, hkn, rfl, hp, rfl, hown, hbel⟩ := hrel
    have HI := Lib.hid (And.intro hown (And.intro hbel hp))
    clear hown hp
    by_cases hlt : k < n
    · have hki : (k : Int) < (n : Int) := by omega
      have hk0 : (0 : Int) ≤ (k : Int) := by omega
      obtain ⟨b, o, op, a, bb, c, eA, hbl, eI, hok, hce⟩ := H.out.2.at_ (j := k) (by rw [H.out.1]; exact hlt)
      have d0 : ∀ W, Below w.heap.size w W → W.cell? ⟨b, o + k * 4, none⟩ = some (.int .u8 (op : Int)) := fun W h => (hce W h).1
      have d1 : ∀ W, Below w.heap.size w W → W.cell? ⟨b, o + k * 4 + 1, none⟩ = some (.int .u8 (a : Int)) := fun W h => (hce W h).2.1
      have d2 : ∀ W, Below w.heap.size w W → W.cell? ⟨b, o + k * 4 + 2, none⟩ = some (.int .u8 (bb : Int)) := fun W h => (hce W h).2.2.1
      have d3 : ∀ W, Below w.heap.size w W → W.cell? ⟨b, o + k * 4 + 3, none⟩ = some (.int .u8 (c : Int)) := fun W h => (hce W h).2.2.2
      have HE := Lib.hid (And.intro eI hok)
      subst eA
      clear hce eI hok
      obtain ⟨L4, eL4⟩ : ∃ x, [UInt8.ofNat op, UInt8.ofNat a, UInt8.ofNat bb, UInt8.ofNat c] = x := ⟨_, rfl⟩
      have hL4 : L4.length = 4 := by rw [← eL4]; rfl
      have hbx := bs4 (wr.alloc (.cells #[.int .u8 (op : Int), .int .u8 (a : Int), .int .u8 (bb : Int), .int .u8 (c : Int)] 61)) op a bb c HE.out.2 5
      rw [eL4, show (wr.alloc (.cells #[.int .u8 (op : Int), .int .u8 (a : Int), .int .u8 (bb : Int), .int .u8 (c : Int)] 61)).heap.size = wr.heap.size + 1 by simp] at hbx
      have HX := Lib.hid (And.intro hbx (And.intro hL4 eL4))
      clear hbx hL4 eL4
      go_wp2_with (first
        | (at_builtin; refine wpList_append_bytes _ rfl (.tmp 16) (.tmp 25) 47 rfl w.heap.size 5 i1 _ Tryd.underlying47 hi0 hz0 hz1 hz2 rfl (.slice A1 p c1) (encL (l.take k)) rfl ((HI.out.1.alloc _).alloc _) _ (some ⟨wr.heap.size + 1, 0, none⟩) 4 L4 (by rw [HX.out.2.1]; rfl) HX.out.1 (by have h5 := HX.out.2.1; have h6 := encL_length (l.take k); have h7 := H.out.1; rw [List.length_take] at h6; omega) (by have := HI.out.2.1.size; simp; omega) ?_; refine fun v5 w5 hown5 hg5 _ => stopped ?_)
        | fail)
      have hbA : Below w.heap.size w ((wr.alloc (.cells #[.int .u8 (op : Int), .int .u8 (a : Int), .int .u8 (bb : Int), .int .u8 (c : Int)] 61)).alloc (.cells #[.int .u8 (op : Int), .int .u8 (a : Int), .int .u8 (bb : Int), .int .u8 (c : Int)] 5)) := (HI.out.2.1.alloc HI.out.2.1.size _).alloc (by have := HI.out.2.1.size; simp; omega) _
      have hb5 : Below w.heap.size w w5 := hbA.trans (only_below hg5 hbA.size (fun g' e => (World.ownsRow.lt HI.out.1 g' e).1))
      obtain ⟨A5, c5, rfl, _, _⟩ := hown5.slice
      have hlen5 : (encL (l.take k) ++ L4).length = p + 4 := by
        rw [List.length_append, HX.out.2.1, encL_length, List.length_take, H.out.1, HI.out.2.2]
        omega
      rw [hlen5] at hown5 ⊢
      have heq : encL (l.take k) ++ L4 = encL (l.take (k + 1)) := by
        rw [take_snoc l k (by rw [H.out.1]; exact hlt), encL_append, HE.out.1, ← HX.out.2.2]
        rfl
      rw [heq] at hown5
      have HJ := Lib.hid (And.intro hown5 hb5)
      clear hbA hb5 hown5 hg5 hlen5 heq
      refine go_on ?_
      go_wp2_with fail
      go_roundw
      case rel => exact ⟨k + 1, p + 4, A5, c5, by omega, by go_num, by have := HI.out.2.2; omega, rfl, HJ.out.1, HJ.out.2⟩
      case measure => simp [intOf]; omega
    · obtain rfl : k = n := by omega
      have hkn : ¬ (k : Int) < (k : Int) := by omega
      go_wp2_with fail
      go_ret
      have := HI.out.1
      rw [List.take_of_length_le (by rw [H.out.1]; exact Nat.le_refl _)] at this
      exact ⟨_, rfl, this, hbel⟩
end Go.Proofs.YthgiehlfmdobkaaDoor
