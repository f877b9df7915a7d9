/-
  The reference's padded (layer 4), by its contract. Conditions: the theorem's own premises.
-/
import Derived.Test.YtjhkoepcolpclaaDoorShaEncM
import Derived.Test.YtjhkoepcolpclaaDoorOctetMk
import Derived.BigQuiet
namespace Go.Proofs.YtjhkoepcolpclaaDoor
open Go.RowKit

theorem padZ_at (n j : Nat) (hj : j ≤ padZ n) : (n + 1 + j) % 64 = 56 ↔ j = padZ n := by
  unfold padZ at *
  omega
theorem padZ_lt (n : Nat) : padZ n < 64 := by unfold padZ; omega
theorem be_take (x n k : Nat) (h : k < n) : (beB x n).take k ++ [UInt8.ofNat (x / 256 ^ (n - 1 - k) % 256)] = (beB x n).take (k + 1) := by
  have hb := beB_at x n k h
  have hl : k < (beB x n).length := by rw [beB_length]; exact h
  rw [List.take_succ_eq_append_getElem hl]
  congr 2
  rw [List.getElem?_eq_getElem hl] at hb
  exact (Option.some.inj hb).symm

def lenS : Value → Nat
  | .slice _ n _ => n
  | _ => 0
theorem bs_new (w : World) (t : TypeId) (l : List UInt8) : Bs (w.alloc (.cells (bv l).toArray t)) (w.heap.size + 1) (some ⟨w.heap.size, 0, none⟩) l := fun _ =>
  ⟨_, 0, rfl, Nat.lt_succ_self _, fun j hj => by rw [Nat.zero_add, (Blk.new w t (bv l).toArray).cell, List.getElem?_toArray]; exact bv_get hj⟩
theorem u8w {y : Nat} {c : UInt8} (h : y % 256 = c.toNat) : IntKind.u8.wrap (y : Int) = (c.toNat : Int) ∧ (y : Int) % 256 = (c.toNat : Int) := by
  have h2 : IntKind.u8.wrap (y : Int) = (y : Int) % 256 := by simp [IntKind.wrap, IntKind.bits, IntKind.signed]
  rw [h2]
  omega

set_option maxRecDepth 100000 in
set_option maxHeartbeats 4000000 in
set_option linter.unusedSimpArgs false in
theorem padded_any (A : Option Addr) (l : List UInt8) (c n B : Nat) (w : World) (hn : l.length = n) (hb : Bs w B A l) (hB : B ≤ w.heap.size) (hl : n ≤ 140737488000000) :
    Calls Tryd.prog 21 #[.slice A n c] w (OwnPost w (padded l)) := by
  obtain ⟨i0, hi0, hz0, hz1, hz2⟩ := info_parts u8info
  have HB := Lib.hid hb
  have HN := Lib.hid hn
  clear hb hn
  go_enter Tryd.func21, Tryd.ntmps21
  go_wp2_with (first
    | (at_builtin; refine wpList_append_bytes_n _ rfl (.tmp 6) (.tmp 7) 22 rfl w.heap.size 5 i0 (.int .u8 0) Tryd.underlying22 hi0 hz0 hz1 hz2 rfl (.slice (some ⟨w.heap.size, 0, none⟩) 0 0) [] rfl (Own.empty w _ _ (Nat.le_refl _)) B A c n l HN.out rfl (HB.out.alloc hB _) (by rw [HN.out]; simp; omega) (by simp) ?_; intro v1 w1 hown1 hg1 _; refine stopped ?_)
    | fail)
  refine go_on ?_
  have hz1' : w.heap.size ≤ w1.heap.size := by have := hg1.size; simp at this; omega
  have hB1 : Below w.heap.size w w1 := ((Below.refl _ _).alloc (Nat.le_refl _) _).grown hg1 (by simp) (fun k hk => by simp [Value.ownBlock] at hk; subst hk; exact Nat.le_refl _)
  rw [List.nil_append] at hown1
  have HO := Lib.hid (And.intro hown1 hB1)
  clear hown1 hB1 hg1
  go_wp2_with (first
    | (at_builtin; refine wpList_append_bytes_n _ rfl (.tmp 8) (.tmp 9) 22 rfl w.heap.size 5 i0 (.int .u8 0) Tryd.underlying22 hi0 hz0 hz1 hz2 rfl v1 (l) rfl (HO.out.1.alloc _) (w1.heap.size + 1) (some ⟨w1.heap.size, 0, none⟩) 1 1 [128] rfl rfl (bs_new w1 5 [128]) (by rw [HN.out]; simp; omega) (by simp; omega) ?_; intro v2 w2 hown2 hg2 _; refine stopped ?_)
    | fail)
  refine go_on ?_
  have hB2 : Below w.heap.size w w2 := (HO.out.2.alloc hz1' _).grown hg2 (by simp; omega) (fun g hg => (World.ownsRow.lt HO.out.1 g hg).1)
  have HO2 := Lib.hid (And.intro hown2 hB2)
  clear hown2 hB2 hg2
  try simp only [Act.put, List.setIfInBounds_toArray, List.set_cons_zero, List.set_cons_succ]
  go_wp2_with fail
  go_loopw [3] (fun v wz => ∃ j : Nat, j ≤ padZ n ∧ Own wz w.heap.size 5 v (l ++ 128 :: List.replicate j 0) ∧ Below w.heap.size w wz) (fun v _ => n + 70 - lenS v)
  case atStart => exact ⟨0, Nat.zero_le _, HO2.out.1, HO2.out.2⟩
  case round =>
    obtain ⟨j, hj, hown, hbel⟩ := hrel
    have hpz := padZ_lt n
    have hat := padZ_at n j hj
    have hlen : (l ++ 128 :: List.replicate j 0).length = n + 1 + j := by simp [HN.out]; omega
    obtain ⟨A1, c1, hv, hbs, _⟩ := hown.slice
    rw [hlen] at hv
    obtain ⟨m, em⟩ : ∃ m, n + 1 + j = m := ⟨_, rfl⟩
    obtain ⟨f, ef⟩ : ∃ f, m % 64 = f := ⟨_, rfl⟩
    rw [em] at hv hat hlen
    rw [ef] at hat
    subst hv
    have hsz := hbel.size
    have HW := Lib.hid (And.intro hown hbel)
    have HS := Lib.hid (And.intro hlen (And.intro em (And.intro hat hj)))
    have a1 : (m : Int) % 64 = (f : Int) := by omega
    have a2 : (m : Int).tmod 64 = (f : Int) := by rw [Int.tmod_eq_emod_of_nonneg (by omega)]; exact a1
    clear hown hbel hbs hlen HO2
    by_cases hp : j = padZ n
    · have hf56 : f = 56 := hat.2 hp
      have HPz := Lib.hid hp
      subst hf56
      clear hat em ef hj hp
      obtain ⟨sz, esz⟩ : ∃ x, 8 * n = x := ⟨_, rfl⟩
      have b1 : (n : Int) * 8 = (sz : Int) := by omega
      have b2 : IntKind.u64.wrap (n : Int) = (n : Int) := by simp [IntKind.wrap, IntKind.bits, IntKind.signed]; omega
      have b3 : IntKind.u64.wrap (sz : Int) = (sz : Int) := by simp [IntKind.wrap, IntKind.bits, IntKind.signed]; omega
      have HSZ := Lib.hid esz
      clear esz
      go_wp2_with fail
      clear b1 b2 b3 a1 a2
      go_loopw [3, 5] (fun v i wz => ∃ (j : Nat) (k : Int), j ≤ 8 ∧ i = .int .i64 k ∧ k = 7 - (j : Int) ∧ Own wz w.heap.size 5 v ((l ++ 128 :: List.replicate (padZ n) 0) ++ (beB sz 8).take j) ∧ Below w.heap.size w wz) (fun _ i _ => (intOf i + 1).toNat)
      case atStart => exact ⟨0, 7, by omega, rfl, by omega, by rw [List.take_zero, List.append_nil, ← HPz.out]; exact HW.out.1, HW.out.2⟩
      case round =>
        obtain ⟨j2, k, hj2, rfl, hk, hown, hbel⟩ := hrel
        obtain ⟨L2, eL2⟩ : ∃ L, (l ++ 128 :: List.replicate (padZ n) 0) ++ (beB sz 8).take j2 = L := ⟨_, rfl⟩
        rw [eL2] at hown
        have hlen2 : L2.length = n + 1 + padZ n + j2 := by
          rw [← eL2]
          simp [HN.out, beB_length]
          omega
        obtain ⟨A2, c2, hv2, _, _⟩ := hown.slice
        obtain ⟨m2, em2⟩ : ∃ m, L2.length = m := ⟨_, rfl⟩
        rw [em2] at hv2 hlen2
        subst hv2
        have hsz2 := hbel.size
        have HW2 := Lib.hid (And.intro hown hbel)
        have HK := Lib.hid (And.intro hk (And.intro eL2 (And.intro em2 hlen2)))
        clear hown hbel HW eL2 em2
        by_cases h8 : j2 < 8
        · have hk0 : 0 ≤ k := by omega
          have hk7 : k ≤ 7 := by omega
          obtain ⟨mm, emm⟩ : ∃ x, 8 * (7 - j2) = x := ⟨_, rfl⟩
          have b1 : (8 : Int) * k = (mm : Int) := by omega
          have b2 : IntKind.u64.wrap (mm : Int) = (mm : Int) := by simp [IntKind.wrap, IntKind.bits, IntKind.signed]; omega
          have b4 : (mm : Int) ≤ 64 := by omega
          have b5 : (0 : Int) ≤ (mm : Int) := by omega
          obtain ⟨y, ey⟩ : ∃ y, sz / 2 ^ mm = y := ⟨_, rfl⟩
          have b7 : (sz : Int) / 2 ^ mm = (y : Int) := by rw [← ey, Int.natCast_ediv, Int.natCast_pow]; rfl
          obtain ⟨c3, ec3⟩ : ∃ c : UInt8, UInt8.ofNat (sz / 256 ^ (8 - 1 - j2) % 256) = c := ⟨_, rfl⟩
          have hy : y = sz / 256 ^ (8 - 1 - j2) := by rw [← ey, ← emm, show (256 : Nat) = 2 ^ 8 from rfl, ← Nat.pow_mul]
          have hc : y % 256 = c3.toNat := by rw [← ec3, hy]; simp
          obtain ⟨b8, b9⟩ := u8w hc
          have hnext := be_take sz 8 j2 h8
          rw [ec3] at hnext
          have HNx := Lib.hid hnext
          have HM2 := Lib.hid (show m2 ≤ 140737488000200 by omega)
          clear emm ey ec3 hy hc hnext hk hlen2
          go_wp2_with (first
            | (at_builtin; refine wpList_append_bytes_n _ rfl (.tmp 26) (.tmp 33) 22 rfl w.heap.size 5 i0 (.int .u8 0) Tryd.underlying22 hi0 hz0 hz1 hz2 rfl (.slice A2 m2 c2) (L2) rfl (HW2.out.1.alloc _) (wr.heap.size + 1) (some ⟨wr.heap.size, 0, none⟩) 1 1 [c3] rfl rfl (bs_new wr 5 [c3]) (by rw [HK.out.2.2.1]; have := HM2.out; simp; omega) (by simp; omega) ?_; intro v2 w2 hown2 hg2 _)
            | fail)
          rw [← HK.out.2.1, List.append_assoc, HNx.out] at hown2
          go_roundw
          case rel => exact ⟨j2 + 1, k - 1, by omega, by go_num, by have := HK.out.1; omega, hown2, (HW2.out.2.alloc hsz2 _).grown hg2 (by simp; omega) (fun g hg => (World.ownsRow.lt HW2.out.1 g hg).1)⟩
          case measure => simp [intOf]; omega
        · obtain rfl : j2 = 8 := by omega
          obtain rfl : k = -1 := by omega
          have hL2 : L2 = padded l := by
            rw [← HK.out.2.1, padded, HN.out, HSZ.out, List.take_of_length_le (by rw [beB_length]; omega)]
          clear hk hlen2
          go_wp2_with fail
          go_ret
          exact ⟨_, rfl, by rw [← hL2]; exact HW2.out.1, HW2.out.2⟩
    · have hf56 : ¬ f = 56 := fun h => hp (hat.1 h)
      have hf56' : ¬ (f : Int) = 56 := by omega
      have hj1 : j + 1 ≤ padZ n := by omega
      clear hat ef hp
      go_wp2_with (first
        | (at_builtin; refine wpList_append_bytes_n _ rfl (.tmp 15) (.tmp 16) 22 rfl w.heap.size 5 i0 (.int .u8 0) Tryd.underlying22 hi0 hz0 hz1 hz2 rfl (.slice A1 m c1) (l ++ 128 :: List.replicate j 0) rfl (HW.out.1.alloc _) (wr.heap.size + 1) (some ⟨wr.heap.size, 0, none⟩) 1 1 [0] rfl rfl (bs_new wr 5 [0]) (by rw [HS.out.1]; simp; omega) (by simp; omega) ?_; intro v2 w2 hown2 hg2 _)
        | fail)
      have hll : (l ++ 128 :: List.replicate j 0) ++ [0] = l ++ 128 :: List.replicate (j + 1) 0 := by rw [List.append_assoc, List.cons_append, List.replicate_succ']
      rw [hll] at hown2
      go_roundw
      case rel => exact ⟨j + 1, hj1, hown2, (HW.out.2.alloc hsz _).grown hg2 (by simp; omega) (fun g hg => (World.ownsRow.lt HW.out.1 g hg).1)⟩
      case measure =>
        obtain ⟨A2, c2, hv, _, _⟩ := hown2.slice
        have hl2 : (l ++ 128 :: List.replicate (j + 1) 0).length = m + 1 := by have := HN.out; simp; omega
        rw [hl2] at hv
        rw [hv]
        simp only [lenS]
        omega
end Go.Proofs.YtjhkoepcolpclaaDoor
