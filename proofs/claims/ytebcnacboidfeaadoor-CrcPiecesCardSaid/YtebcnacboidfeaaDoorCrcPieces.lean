/-
  The law CrcPieces answers true and turns nothing that was there. Conditions: the table reads as the program's text lays it; the slice of bytes holds at most 2^47 bytes.
-/
import Derived.Test.YtebcnacboidfeaaDoorCrcAwake
namespace Go.Proofs.YtebcnacboidfeaaDoor
open Go.RowKit

/-- a slice of ints that reads as zs -/
def Is (w : World) (A : Option Addr) (zs : List Int) : Prop :=
  0 < zs.length → ∃ b o, A = some ⟨b, o, none⟩ ∧ ∀ j (h : j < zs.length), w.cell? ⟨b, o + j, none⟩ = some (.int .i64 zs[j])
def I64s (zs : List Int) : Prop := ∀ j (h : j < zs.length), -9223372036854775808 ≤ zs[j] ∧ zs[j] ≤ 9223372036854775807

theorem Bs.cut_at {w : World} {B : Nat} {a : Addr} {l : List UInt8} (h : Bs w B (some a) l) (i j : Nat) (hj : j ≤ l.length) : Bs w B (some (a.add i)) ((l.take j).drop i) := by
  rcases Nat.eq_zero_or_pos l.length with h0 | h0
  · obtain rfl := List.eq_nil_of_length_eq_zero h0
    rw [List.take_nil, List.drop_nil]
    exact Bs.nil_
  · obtain ⟨b, o, e, _, _⟩ := h h0
    injection e with e
    subst e
    rw [Addr.add_lit]
    exact h.cut i j hj
theorem Bs.none_nil {w : World} {B : Nat} {l : List UInt8} (h : Bs w B none l) : l = [] := by
  rcases Nat.eq_zero_or_pos l.length with h0 | h0
  · exact List.eq_nil_of_length_eq_zero h0
  · obtain ⟨_, _, e, _⟩ := h h0
    cases e
theorem take_cut (l : List UInt8) (m n : Nat) : l.take m ++ (l.take (m + n)).drop m = l.take (m + n) := by
  have := List.take_append_drop m (l.take (m + n))
  rwa [List.take_take, Nat.min_eq_left (by omega)] at this

theorem on_is (s : Nat) (A : Option Addr) (l : List UInt8) (n c B : Nat) (w : World) (hs : s < 4294967296) (hn : l.length = n) (hb : Bs w B A l) (ht : Tab w) (h63 : n ≤ 9223372036854775807) :
    Calls Tryd.prog 10 #[.int .u32 s, .slice A n c] w fun e w' => e = .returned (.int .u32 (crcOn s l : Nat)) ∧ w = w' := by
  subst hn
  exact on_any s A l c B w hs hb ht h63

set_option maxRecDepth 100000 in
set_option maxHeartbeats 4000000 in
theorem crcPieces_calls (A : Option Addr) (l : List UInt8) (c : Nat) (A2 : Option Addr) (zs : List Int) (c2 : Nat) (w : World) (hb : Bs w w.heap.size A l) (hl : l.length ≤ 140737488355328) (hc : l.length ≤ c)
    (hz : Is w A2 zs) (hzs : I64s zs) (hn63 : zs.length ≤ 9223372036854775807) (ht : Tab w) :
    Calls Tryd.prog 5 #[.slice A l.length c, .slice A2 zs.length c2] w fun ev w' => ev = .returned (.bool true) ∧ Below w.heap.size w w' := by
  have HL := Lib.hid hl
  have HC := Lib.hid hc
  have HT := Lib.hid ht
  have HB := Lib.hid hb
  have HZ := Lib.hid hz
  have HZS := Lib.hid hzs
  clear hl hc ht hb hz hzs
  go_enter Tryd.func5, Tryd.ntmps5
  go_wp2_with fail
  refine (of_any none [] 0 0 w Bs.nil_ HT.out (by decide)).mono ?_
  rintro e w' ⟨rfl, rfl⟩
  rw [crc_nil]
  go_wp2_with fail
  go_loop [5, 6, 7] (fun s d i => ∃ k q m : Nat, k ≤ zs.length ∧ k ≤ 20 ∧ i = .int .i64 k ∧ d = .int .i64 m ∧ m ≤ l.length ∧ s = .int .u32 q ∧ q = crcOn 0 (l.take m)) (fun _ _ i => zs.length - (intOf i).toNat)
  case atStart => exact ⟨0, 0, 0, Nat.zero_le _, by omega, rfl, rfl, Nat.zero_le _, rfl, by rw [List.take_zero]; exact crc_nil.symm⟩
  case round =>
    obtain ⟨k, q, m, hk, hk20, rfl, rfl, hm, rfl, hq⟩ := hrel
    have HQ := Lib.hid hq
    have hq32 : q < 4294967296 := hq ▸ crcOn_lt 0 _
    have hl47 : l.length ≤ 140737488355328 := HL.out
    clear hq
    by_cases hlt : k < zs.length
    · by_cases h20 : k < 20
      · have hlt' : (k : Int) < (zs.length : Int) := by omega
        obtain ⟨b2, o2, rfl, hcell⟩ := HZ.out (by omega)
        have hck := hcell k hlt
        have hzr := HZS.out k hlt
        obtain ⟨z, ez⟩ : ∃ z, zs[k] = z := ⟨_, rfl⟩
        rw [ez] at hck hzr
        obtain ⟨hz1, hz2⟩ := hzr
        clear hcell ez
        by_cases hneg : z < 0
        · go_wp2_with fail
          go_round
          case rel => exact ⟨k + 1, q, m, by omega, by omega, by go_num, rfl, hm, rfl, HQ.out⟩
          case measure => simp [intOf]; omega
        · obtain ⟨n, rfl⟩ : ∃ n : Nat, z = n := ⟨z.toNat, by omega⟩
          have hd1 : decide ((n : Int) < 0) = false := by simp
          by_cases hgt : l.length < m + n
          · have hd2 : decide ((l.length : Int) - (m : Int) < (n : Int)) = true := by simp; omega
            go_wp2_with fail
            go_round
            case rel => exact ⟨k + 1, q, m, by omega, by omega, by go_num, rfl, hm, rfl, HQ.out⟩
            case measure => simp [intOf]; omega
          · have hd2 : decide ((l.length : Int) - (m : Int) < (n : Int)) = false := by simp; omega
            have hcc : m + n ≤ c := by have := HC.out; omega
            rcases A with _ | a
            · have h0 := HB.out.none_nil
              have hn0 : n = 0 := by rw [h0] at hgt; simp at hgt; omega
              have HO := fun c' => on_is q none [] n c' w.heap.size w hq32 hn0.symm Bs.nil_ HT.out (by omega)
              rw [crcOn_nil hq32] at HO
              have HF := Lib.hid (show q = crcOn 0 (l.take (m + n)) by rw [hn0, Nat.add_zero]; exact HQ.out)
              clear h0 hn0
              go_wp2_with fail
              refine (HO _).mono ?_; rintro e w' ⟨rfl, rfl⟩
              go_wp2_with fail
              go_round
              case rel => exact ⟨k + 1, q, m + n, by omega, by omega, by go_num, by go_num, by omega, rfl, HF.out⟩
              case measure => simp [intOf]; omega
            · by_cases hcm : c = m
              · obtain rfl : m = c := hcm.symm
                obtain rfl : n = 0 := by omega
                have HO := fun a' c' => on_is q a' [] 0 c' w.heap.size w hq32 rfl Bs.nil_ HT.out (by omega)
                rw [crcOn_nil hq32] at HO
                clear hcm
                obtain ⟨ab, ao, asp⟩ := a
                go_wp2_with fail
                refine (HO _ _).mono ?_; rintro e w' ⟨rfl, rfl⟩
                go_wp2_with fail
                go_round
                case rel => exact ⟨k + 1, q, m, by omega, by omega, by go_num, rfl, hm, rfl, HQ.out⟩
                case measure => simp [intOf]; omega
              · have hcut := HB.out.cut_at m (m + n) (by omega)
                have hlen : ((l.take (m + n)).drop m).length = n := by simp; omega
                have HO := on_is q (some (a.add m)) _ n (c - m) w.heap.size w hq32 hlen hcut HT.out (by omega)
                have hF : crcOn q ((l.take (m + n)).drop m) = crcOn 0 (l.take (m + n)) := by rw [HQ.out, crcOn_more, take_cut]
                obtain ⟨x, ex⟩ : ∃ x, crcOn q ((l.take (m + n)).drop m) = x := ⟨_, rfl⟩
                rw [ex] at HO hF
                have HF := Lib.hid hF
                clear hcut hlen ex hF
                obtain ⟨ab, ao, asp⟩ := a
                go_wp2_with fail
                refine HO.mono ?_; rintro e w' ⟨rfl, rfl⟩
                go_wp2_with fail
                go_round
                case rel => exact ⟨k + 1, x, m + n, by omega, by omega, by go_num, by go_num, by omega, rfl, HF.out⟩
                case measure => simp [intOf]; omega
      · have hk2 : decide ((k : Int) < 20) = false := by simp; omega
        have hk1 : (k : Int) < (zs.length : Int) := by omega
        rcases A with _ | a
        · have h0 := HB.out.none_nil
          have hlm : l.length - m = 0 := by rw [h0]; simp
          have HO := fun c' w1 (h : Tab w1) => on_is q none [] (l.length - m) c' w.heap.size w1 hq32 hlm.symm Bs.nil_ h (by omega)
          have hqc : q = crc l := by rw [HQ.out, h0, List.take_nil]; rfl
          rw [crcOn_nil hq32, hqc] at HO
          have HOF := Lib.hid fun w1 (h : Below w.heap.size w w1) => of_any none l c w.heap.size w1 (HB.out.below h) (HT.out.on h (Nat.le_refl _)) (by omega)
          clear h0 hlm
          rw [hqc] at hq32
          subst hqc
          go_wp2_with fail
          refine (crcAwake_true w HT.out).mono ?_
          rintro e w1 ⟨rfl, hb1⟩
          go_wp2_with fail
          refine (HO _ w1 (HT.out.on hb1 (Nat.le_refl _))).mono ?_
          rintro e w' ⟨rfl, rfl⟩
          go_wp2_with fail
          refine (HOF.out w1 hb1).mono ?_
          rintro e w' ⟨rfl, rfl⟩
          go_wp2_with fail
          go_ret
          exact ⟨rfl, hb1⟩
        · by_cases hcm : c = m
          · obtain rfl : m = c := hcm.symm
            have hlm : l.length - m = 0 := by have := HC.out; omega
            have hln : l.length = m := by have := HC.out; omega
            have HO := fun a' n c' w1 (hn : n = 0) (h : Tab w1) => on_is q a' [] n c' w.heap.size w1 hq32 hn.symm Bs.nil_ h (by omega)
            have hqc : q = crc l := by rw [HQ.out, ← hln, List.take_length]; rfl
            rw [crcOn_nil hq32, hqc] at HO
            have HOF := Lib.hid fun w1 (h : Below w.heap.size w w1) => of_any (some a) l m w.heap.size w1 (HB.out.below h) (HT.out.on h (Nat.le_refl _)) (by omega)
            have HLM := Lib.hid hlm
            clear hcm hlm hln
            rw [hqc] at hq32
            subst hqc
            obtain ⟨ab, ao, asp⟩ := a
            go_wp2_with fail
            refine (crcAwake_true w HT.out).mono ?_
            rintro e w1 ⟨rfl, hb1⟩
            go_wp2_with fail
            refine (HO _ _ _ w1 HLM.out (HT.out.on hb1 (Nat.le_refl _))).mono ?_
            rintro e w' ⟨rfl, rfl⟩
            go_wp2_with fail
            refine (HOF.out w1 hb1).mono ?_
            rintro e w' ⟨rfl, rfl⟩
            go_wp2_with fail
            go_ret
            exact ⟨rfl, hb1⟩
          · have hcut := HB.out.cut_at m l.length (Nat.le_refl _)
            rw [List.take_length] at hcut
            have hlen : (l.drop m).length = l.length - m := by simp
            have HO := fun w1 (h : Below w.heap.size w w1) => on_is q (some (a.add m)) _ (l.length - m) (c - m) w.heap.size w1 hq32 hlen (hcut.below h) (HT.out.on h (Nat.le_refl _)) (by omega)
            have hF : crcOn q (l.drop m) = crc l := by rw [HQ.out, crcOn_more, List.take_append_drop]; rfl
            rw [hF] at HO
            have HOF := Lib.hid fun w1 (h : Below w.heap.size w w1) => of_any (some a) l c w.heap.size w1 (HB.out.below h) (HT.out.on h (Nat.le_refl _)) (by omega)
            have hmc : m ≤ c := by have := HC.out; omega
            clear hcut hlen hF
            obtain ⟨ab, ao, asp⟩ := a
            go_wp2_with fail
            refine (crcAwake_true w HT.out).mono ?_
            rintro e w1 ⟨rfl, hb1⟩
            go_wp2_with fail
            refine (HO w1 hb1).mono ?_
            rintro e w' ⟨rfl, rfl⟩
            go_wp2_with fail
            refine (HOF.out w1 hb1).mono ?_
            rintro e w' ⟨rfl, rfl⟩
            go_wp2_with fail
            go_ret
            exact ⟨rfl, hb1⟩
    · have hk1 : decide ((k : Int) < (zs.length : Int)) = false := by simp; omega
      rcases A with _ | a
      · have h0 := HB.out.none_nil
        have hlm : l.length - m = 0 := by rw [h0]; simp
        have HO := fun c' w1 (h : Tab w1) => on_is q none [] (l.length - m) c' w.heap.size w1 hq32 hlm.symm Bs.nil_ h (by omega)
        have hqc : q = crc l := by rw [HQ.out, h0, List.take_nil]; rfl
        rw [crcOn_nil hq32, hqc] at HO
        have HOF := Lib.hid fun w1 (h : Below w.heap.size w w1) => of_any none l c w.heap.size w1 (HB.out.below h) (HT.out.on h (Nat.le_refl _)) (by omega)
        clear h0 hlm
        rw [hqc] at hq32
        subst hqc
        go_wp2_with fail
        refine (crcAwake_true w HT.out).mono ?_
        rintro e w1 ⟨rfl, hb1⟩
        go_wp2_with fail
        refine (HO _ w1 (HT.out.on hb1 (Nat.le_refl _))).mono ?_
        rintro e w' ⟨rfl, rfl⟩
        go_wp2_with fail
        refine (HOF.out w1 hb1).mono ?_
        rintro e w' ⟨rfl, rfl⟩
        go_wp2_with fail
        go_ret
        exact ⟨rfl, hb1⟩
      · by_cases hcm : c = m
        · obtain rfl : m = c := hcm.symm
          have hlm : l.length - m = 0 := by have := HC.out; omega
          have hln : l.length = m := by have := HC.out; omega
          have HO := fun a' n c' w1 (hn : n = 0) (h : Tab w1) => on_is q a' [] n c' w.heap.size w1 hq32 hn.symm Bs.nil_ h (by omega)
          have hqc : q = crc l := by rw [HQ.out, ← hln, List.take_length]; rfl
          rw [crcOn_nil hq32, hqc] at HO
          have HOF := Lib.hid fun w1 (h : Below w.heap.size w w1) => of_any (some a) l m w.heap.size w1 (HB.out.below h) (HT.out.on h (Nat.le_refl _)) (by omega)
          have HLM := Lib.hid hlm
          clear hcm hlm hln
          rw [hqc] at hq32
          subst hqc
          obtain ⟨ab, ao, asp⟩ := a
          go_wp2_with fail
          refine (crcAwake_true w HT.out).mono ?_
          rintro e w1 ⟨rfl, hb1⟩
          go_wp2_with fail
          refine (HO _ _ _ w1 HLM.out (HT.out.on hb1 (Nat.le_refl _))).mono ?_
          rintro e w' ⟨rfl, rfl⟩
          go_wp2_with fail
          refine (HOF.out w1 hb1).mono ?_
          rintro e w' ⟨rfl, rfl⟩
          go_wp2_with fail
          go_ret
          exact ⟨rfl, hb1⟩
        · have hcut := HB.out.cut_at m l.length (Nat.le_refl _)
          rw [List.take_length] at hcut
          have hlen : (l.drop m).length = l.length - m := by simp
          have HO := fun w1 (h : Below w.heap.size w w1) => on_is q (some (a.add m)) _ (l.length - m) (c - m) w.heap.size w1 hq32 hlen (hcut.below h) (HT.out.on h (Nat.le_refl _)) (by omega)
          have hF : crcOn q (l.drop m) = crc l := by rw [HQ.out, crcOn_more, List.take_append_drop]; rfl
          rw [hF] at HO
          have HOF := Lib.hid fun w1 (h : Below w.heap.size w w1) => of_any (some a) l c w.heap.size w1 (HB.out.below h) (HT.out.on h (Nat.le_refl _)) (by omega)
          have hmc : m ≤ c := by have := HC.out; omega
          clear hcut hlen hF
          obtain ⟨ab, ao, asp⟩ := a
          go_wp2_with fail
          refine (crcAwake_true w HT.out).mono ?_
          rintro e w1 ⟨rfl, hb1⟩
          go_wp2_with fail
          refine (HO w1 hb1).mono ?_
          rintro e w' ⟨rfl, rfl⟩
          go_wp2_with fail
          refine (HOF.out w1 hb1).mono ?_
          rintro e w' ⟨rfl, rfl⟩
          go_wp2_with fail
          go_ret
          exact ⟨rfl, hb1⟩
end Go.Proofs.YtebcnacboidfeaaDoor
