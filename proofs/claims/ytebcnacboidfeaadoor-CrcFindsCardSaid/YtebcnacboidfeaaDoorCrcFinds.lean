/-
  The law CrcFinds answers true and turns nothing that was there. Conditions: the table reads as the program's text lays it; the slice holds at most 2^47 - 4 bytes.
-/
import Derived.Test.YtebcnacboidfeaaDoorCrcOwn
namespace Go.Proofs.YtebcnacboidfeaaDoor
open Go.RowKit

theorem Own.round {w : World} {base n c j : Nat} {A : Option Addr} {m : List UInt8} (h : Own w base 5 (.slice A n c) m) (hm : m.length = n) (hj : j < n) :
    ∃ (g : Nat), A = some ⟨g, 0, none⟩ ∧ base ≤ g ∧ w.cell? ⟨g, j, none⟩ = some (.int .u8 ((m[j]'(by omega)).toNat : Int)) ∧ w.frozen? ⟨g, j, none⟩ = false ∧
      ∀ y : UInt8, Own (w.setCell ⟨g, j, none⟩ (.int .u8 (y.toNat : Int))) base 5 (.slice A n c) (m.set j y) := by
  have hrow := h.row hm
  rcases hrow.2 with ⟨h0, hk⟩ | ⟨g, cap, cur, hv, hg, _⟩
  · omega
  · injection hv with hA hk hc
    subst hA hc
    refine ⟨g, rfl, hg, ?_, hrow.frozenAt j, fun y => ?_⟩
    · rw [hrow.cellAt j (by omega), bv_get (by omega)]
    · have hst := (hrow.stored j (.int .u8 (y.toNat : Int))).1
      have e : (bv m).set j (.int .u8 (y.toNat : Int)) = bv (m.set j y) := by simp [bv, List.map_set]
      rw [e] at hst
      exact Own.of_row hst (by simpa using hm)
theorem Own.bs_n {w : World} {base n c : Nat} {A : Option Addr} {m : List UInt8} (h : Own w base 5 (.slice A n c) m) : Bs w w.heap.size A m := by
  obtain ⟨A', c', e, hb, _⟩ := h.slice
  injection e with e
  subst e
  exact hb
theorem leN_inj {a b : List UInt8} (h : a.length = b.length) (he : leN a = leN b) : a = b := by
  rw [← leB_leN a, ← leB_leN b, he, h]

/-- one byte more of a number that is laid over the bytes from place q on -/
theorem burst_step (m : List UInt8) (N W q i : Nat) (hp : q + i < m.length) (hm : leN m = N ^^^ (W % 2 ^ (8 * i)) * 2 ^ (8 * q)) :
    leN (m.set (q + i) (m[q + i] ^^^ UInt8.ofNat (W / 2 ^ (8 * i) % 256))) = N ^^^ (W % 2 ^ (8 * (i + 1))) * 2 ^ (8 * q) := by
  have h1 : (UInt8.ofNat (W / 2 ^ (8 * i) % 256)).toNat = W / 2 ^ (8 * i) % 256 := by rw [UInt8.toNat_ofNat']; omega
  have h2 : W % 2 ^ (8 * (i + 1)) = (W % 2 ^ (8 * i)) ^^^ ((W / 2 ^ (8 * i) % 256) * 2 ^ (8 * i)) := by
    rw [xor_shift _ _ _ (Nat.mod_lt _ (Nat.two_pow_pos _)), Nat.mul_add, Nat.mul_one, Nat.pow_add, Nat.mod_mul, Nat.mul_comm (2 ^ (8 * i))]
  rw [leN_set m (q + i) _ hp, hm, h1, h2, mul_xor, Nat.xor_assoc, Nat.mul_assoc, ← Nat.pow_add, ← Nat.mul_add, Nat.add_comm i q]
theorem burst_step0 (m : List UInt8) (N W i : Nat) (hp : i < m.length) (hm : leN m = N ^^^ W % 2 ^ (8 * i)) :
    leN (m.set i (m[i] ^^^ UInt8.ofNat (W / 2 ^ (8 * i) % 256))) = N ^^^ W % 2 ^ (8 * (i + 1)) := by
  have := burst_step m N W 0 i (by omega) (by simpa using hm)
  simpa using this
theorem burst_end {v k L i : Nat} (hv : v < 4294967296) (hk : k ≤ 8 * L) (hi : i = 5 ∨ L + 4 ≤ k / 8 + i) : (v * 2 ^ (k % 8)) % 2 ^ (8 * i) * 2 ^ (8 * (k / 8)) = v * 2 ^ k := by
  have h1 : 32 + k % 8 ≤ 8 * i := by rcases hi with rfl | h <;> omega
  have h2 : v * 2 ^ (k % 8) < 2 ^ (8 * i) := by
    refine Nat.lt_of_lt_of_le ?_ (Nat.pow_le_pow_right (by omega) h1)
    rw [Nat.pow_add]
    exact Nat.mul_lt_mul_of_pos_right hv (Nat.two_pow_pos _)
  rw [Nat.mod_eq_of_lt h2, Nat.mul_assoc, ← Nat.pow_add, Nat.mod_add_div]

theorem burst_end0 {v L i : Nat} (hv : v < 4294967296) (hi : i = 5 ∨ L + 4 ≤ i) : v % 2 ^ (8 * i) = v * 2 ^ 0 := by
  have := burst_end (k := 0) (L := L) (i := i) hv (by omega) (by rcases hi with h | h <;> omega)
  simpa using this

set_option maxRecDepth 100000 in
set_option maxHeartbeats 4000000 in
theorem crcFinds_calls (A : Option Addr) (l : List UInt8) (c a v : Nat) (w : World) (hb : Bs w w.heap.size A l) (hl : l.length + 4 ≤ 140737488355328) (ha : a < 18446744073709551616) (hv : v < 4294967296) (ht : Tab w) :
    Calls Tryd.prog 7 #[.slice A l.length c, .int .u64 a, .int .u32 v] w fun ev w' => ev = .returned (.bool true) ∧ Below w.heap.size w w' := by
  have HL := Lib.hid hl
  have HT := Lib.hid ht
  have HB := Lib.hid hb
  clear hl ht hb
  go_enter Tryd.func7, Tryd.ntmps7
  go_wp2_with fail
  refine (seal_own A l c w.heap.size w HB.out (Nat.le_refl _) HT.out HL.out).mono ?_
  rintro e w1 ⟨A1, c1, rfl, hcap1, hown1, hbs1, hb1⟩
  have HC1 := Lib.hid hcap1
  have HT1 := Lib.hid (HT.out.on hb1 (Nat.le_refl _))
  have HT0 := Lib.hid HT.out
  clear hcap1 HT
  go_wp2_with fail
  refine (open_own A1 l c1 w1.heap.size w1 hbs1 (Nat.le_refl _) HT1.out HL.out HC1.out).mono ?_
  rintro e w2 ⟨A2, c2, rfl, _, hbs2, hb2⟩
  go_wp2_with fail
  refine (crcAwake_true w2 (HT1.out.on hb2 (Nat.le_refl _))).mono ?_
  rintro e w3 ⟨rfl, hb3⟩
  have hB13 : Below w1.heap.size w1 w3 := hb2.trans (hb3.mono hb2.size)
  have hB3 : Below w.heap.size w w3 := hb1.trans (hB13.mono hb1.size)
  have HO3 := Lib.hid (hown1.below hB13)
  have HT3 := Lib.hid (HT1.out.on hB13 (Nat.le_refl _))
  have hx3 := (hbs2.below hb3).str (P := Tryd.prog) Tryd.underlying23 Tryd.underlying5 c2 9 Tryd.underlying9
  have hy3 := (HB.out.below hB3).str (P := Tryd.prog) Tryd.underlying23 Tryd.underlying5 c 9 Tryd.underlying9
  clear hown1 hbs1 hb1 hbs2 hb2 hb3 hB13 HT1
  have hkb : l.length + 4 ≤ 140737488355328 := HL.out
  obtain ⟨k, ek⟩ : ∃ k, a % (8 * l.length + 1) = k := ⟨_, rfl⟩
  have hk : k ≤ 8 * l.length := by
    have := Nat.mod_lt a (show 0 < 8 * l.length + 1 by omega)
    omega
  have hmod : (a : Int) % (8 * ((l.length : Int) + 4) - 32 + 1) = (k : Int) := by
    rw [show 8 * ((l.length : Int) + 4) - 32 + 1 = ((8 * l.length + 1 : Nat) : Int) by omega, ← ek]
    exact (Int.natCast_emod _ _).symm
  obtain ⟨j, ej⟩ : ∃ j, k % 8 = j := ⟨_, rfl⟩
  obtain ⟨q, eq⟩ : ∃ q, k / 8 = q := ⟨_, rfl⟩
  have hj : j < 8 := by omega
  have hjm : (k : Int) % 8 = (j : Int) := by omega
  have hjt : (k : Int).tmod 8 = (j : Int) := by rw [Int.tmod_eq_emod_of_nonneg (by omega)]; exact hjm
  have hqd : (k : Int) / 8 = (q : Int) := by omega
  obtain ⟨W, eW⟩ : ∃ W, v * 2 ^ j = W := ⟨_, rfl⟩
  have hW : W < 549755813888 := by
    rw [← eW]
    have : 2 ^ j ≤ 2 ^ 7 := Nat.pow_le_pow_right (by omega) (by omega)
    exact Nat.lt_of_lt_of_le (Nat.mul_lt_mul_of_lt_of_le hv this (by omega)) (by decide)
  have hWI : (v : Int) * 2 ^ j = (W : Int) := by rw [← eW]; push_cast; rfl
  have hWw : IntKind.u64.wrap (W : Int) = (W : Int) := by rw [IntKind.wrap_u64]; omega
  go_wp2_with fail
  -- the loop
  · have hdec : decide ((32 : Int) < 8 * ((l.length : Int) + 4)) = true := by simp only [decide_eq_true_eq]; assumption
    rw [hmod, hdec]
    clear hdec
    clear hmod hjt hjm hWI hWw hj hW
    have HB3 := Lib.hid hB3
    have hq47 : (q : Int) ≤ 140737488355328 := by omega
    go_loopw [13] (fun i wr => ∃ (n : Nat) (m : List UInt8), n ≤ 5 ∧ i = .int .u64 n ∧ m.length = l.length + 4 ∧ leN m = leN (sealed l) ^^^ (W % 2 ^ (8 * n)) * 2 ^ (8 * q) ∧ Own wr w.heap.size 5 (.slice A1 (l.length + 4) c1) m ∧ Below w.heap.size w wr) (fun i _ => 5 - (intOf i).toNat)
    case atStart => exact ⟨0, sealed l, by omega, rfl, seal_length l, by simp [Nat.mod_one], HO3.out, HB3.out⟩
    case round =>
      obtain ⟨n, m, hn5, rfl, hml, hmN, hown, hbw⟩ := hrel
      have HM := Lib.hid hmN
      have HOw := Lib.hid hown
      have HBw := Lib.hid hbw
      clear hmN hown hbw
      by_cases hlt : n < 5
      · by_cases hin : q + n < l.length + 4
        · obtain ⟨g, rfl, hgb, hcell, hfr, hset⟩ := HOw.out.round hml hin
          have hstep := burst_step m (leN (sealed l)) W q n (by omega) HM.out
          obtain ⟨u, eu⟩ : ∃ u : UInt8, m[q + n]'(by omega) = u := ⟨_, rfl⟩
          rw [eu] at hcell hstep
          have hd : W / 2 ^ (8 * n) % 256 < 256 := Nat.mod_lt _ (by omega)
          have hd8 : (UInt8.ofNat (W / 2 ^ (8 * n) % 256)).toNat = W / 2 ^ (8 * n) % 256 := by rw [UInt8.toNat_ofNat']; omega
          have hx := u8_xor_nat u.toNat (W / 2 ^ (8 * n) % 256) u.toNat_lt hd
          have hy : (u ^^^ UInt8.ofNat (W / 2 ^ (8 * n) % 256)).toNat = u.toNat ^^^ (W / 2 ^ (8 * n) % 256) := by rw [UInt8.toNat_xor, hd8]
          rw [← hy] at hx
          have hd2 : ((W / 2 ^ (8 * n) % 256 : Nat) : Int) = (W : Int) / 2 ^ (8 * n) % 256 := by push_cast; rfl
          rw [hd2] at hx
          have HS := Lib.hid (hset (u ^^^ UInt8.ofNat (W / 2 ^ (8 * n) % 256)))
          have HSt := Lib.hid hstep
          have hqn : (q : Int) + (n : Int) < (l.length : Int) + 4 := by omega
          have hqi : ((q : Int) + (n : Int)).toNat = q + n := by omega
          obtain ⟨y, ey⟩ : ∃ y, u ^^^ UInt8.ofNat (W / 2 ^ (8 * n) % 256) = y := ⟨_, rfl⟩
          rw [ey] at hx HS HSt
          clear hset hstep hd hd8 hy hd2 eu ey
          go_wp2_with fail
          go_roundw
          case rel => exact ⟨n + 1, m.set (q + n) y, by omega, by go_num, by simp [hml], HSt.out, HS.out, HBw.out.setCell hgb _⟩
          case measure => simp [intOf]; omega
        · have hi : n = 5 ∨ l.length + 4 ≤ k / 8 + n := .inr (by omega)
          have hnt : (n : Int) < 5 := by omega
          have hqf : decide ((q : Int) + (n : Int) < (l.length : Int) + 4) = false := by simp; omega
          have hN := HM.out
          have hend := burst_end hv hk hi
          rw [ej, eq, eW] at hend
          rw [hend] at hN
          have HBm := Lib.hid (HOw.out.bs_n)
          have HTw := Lib.hid (HT0.out.on HBw.out (Nat.le_refl _))
          have hlen : m.length = (sealed l).length := by rw [hml, seal_length]
          by_cases hv0 : v = 0
          · have em : m = sealed l := leN_inj hlen (by rw [hN, hv0, Nat.zero_mul, Nat.xor_zero])
            have hvi : (v : Int) = 0 := by omega
            rw [em] at HBm
            have HBB := Lib.hid (HB.out.below HBw.out)
            clear hN hend hlen em hv0
            go_wp2_with fail
            refine (open_own A1 l c1 wr.heap.size wr HBm.out (Nat.le_refl _) HTw.out HL.out HC1.out).mono ?_
            rintro e w5 ⟨A5, c5, rfl, _, hbs5, hb5⟩
            have hB5 : Below w.heap.size w w5 := HBw.out.trans (hb5.mono HBw.out.size)
            have hx5 := hbs5.str (P := Tryd.prog) Tryd.underlying23 Tryd.underlying5 c5 9 Tryd.underlying9
            have hy5 := (HB.out.below hB5).str (P := Tryd.prog) Tryd.underlying23 Tryd.underlying5 c 9 Tryd.underlying9
            clear hbs5 hb5
            go_wp2_with fail
            go_ret
            exact ⟨rfl, hB5⟩
          · have hno : ¬ opens m := burst (l := sealed l) (k := k) (by rw [seal_length]; omega) hlen hN hv hv0 (by rw [seal_length]; omega) (seal_opens l)
            have hvi : ((v : Int) == 0) = false := by simp; omega
            have hvj : ¬ (v : Int) = 0 := by omega
            clear hN hend hlen
            go_wp2_with fail
            refine (open_no A1 m l.length c1 wr.heap.size wr hml HBm.out HTw.out (by rw [hml]; exact HL.out) (by rw [hml]; exact HC1.out) hno).mono ?_
            rintro e w5 ⟨rfl, hb5⟩
            go_wp2_with fail
            go_ret
            exact ⟨rfl, HBw.out.trans (hb5.mono HBw.out.size)⟩
      · have hi : n = 5 ∨ l.length + 4 ≤ k / 8 + n := .inl (by omega)
        have hnt : decide ((n : Int) < 5) = false := by simp; omega
        have hN := HM.out
        have hend := burst_end hv hk hi
        rw [ej, eq, eW] at hend
        rw [hend] at hN
        have HBm := Lib.hid (HOw.out.bs_n)
        have HTw := Lib.hid (HT0.out.on HBw.out (Nat.le_refl _))
        have hlen : m.length = (sealed l).length := by rw [hml, seal_length]
        by_cases hv0 : v = 0
        · have em : m = sealed l := leN_inj hlen (by rw [hN, hv0, Nat.zero_mul, Nat.xor_zero])
          have hvi : (v : Int) = 0 := by omega
          rw [em] at HBm
          have HBB := Lib.hid (HB.out.below HBw.out)
          clear hN hend hlen em hv0
          go_wp2_with fail
          refine (open_own A1 l c1 wr.heap.size wr HBm.out (Nat.le_refl _) HTw.out HL.out HC1.out).mono ?_
          rintro e w5 ⟨A5, c5, rfl, _, hbs5, hb5⟩
          have hB5 : Below w.heap.size w w5 := HBw.out.trans (hb5.mono HBw.out.size)
          have hx5 := hbs5.str (P := Tryd.prog) Tryd.underlying23 Tryd.underlying5 c5 9 Tryd.underlying9
          have hy5 := (HB.out.below hB5).str (P := Tryd.prog) Tryd.underlying23 Tryd.underlying5 c 9 Tryd.underlying9
          clear hbs5 hb5
          go_wp2_with fail
          go_ret
          exact ⟨rfl, hB5⟩
        · have hno : ¬ opens m := burst (l := sealed l) (k := k) (by rw [seal_length]; omega) hlen hN hv hv0 (by rw [seal_length]; omega) (seal_opens l)
          have hvi : ((v : Int) == 0) = false := by simp; omega
          have hvj : ¬ (v : Int) = 0 := by omega
          clear hN hend hlen
          go_wp2_with fail
          refine (open_no A1 m l.length c1 wr.heap.size wr hml HBm.out HTw.out (by rw [hml]; exact HL.out) (by rw [hml]; exact HC1.out) hno).mono ?_
          rintro e w5 ⟨rfl, hb5⟩
          go_wp2_with fail
          go_ret
          exact ⟨rfl, HBw.out.trans (hb5.mono HBw.out.size)⟩
  · have hL0 : l.length = 0 := by omega
    have hdec : decide ((32 : Int) < 8 * ((l.length : Int) + 4)) = false := by simp; omega
    rw [hdec]
    clear hdec hL0
    clear hmod hjt hjm hWI hWw hj hW eW hqd eq ej ek hk
    have HB3 := Lib.hid hB3
    go_loopw [13] (fun i wr => ∃ (n : Nat) (m : List UInt8), n ≤ 5 ∧ i = .int .u64 n ∧ m.length = l.length + 4 ∧ leN m = leN (sealed l) ^^^ v % 2 ^ (8 * n) ∧ Own wr w.heap.size 5 (.slice A1 (l.length + 4) c1) m ∧ Below w.heap.size w wr) (fun i _ => 5 - (intOf i).toNat)
    case atStart => exact ⟨0, sealed l, by omega, rfl, seal_length l, by simp [Nat.mod_one], HO3.out, HB3.out⟩
    case round =>
      obtain ⟨n, m, hn5, rfl, hml, hmN, hown, hbw⟩ := hrel
      have HM := Lib.hid hmN
      have HOw := Lib.hid hown
      have HBw := Lib.hid hbw
      clear hmN hown hbw
      by_cases hlt : n < 5
      · by_cases hin : n < l.length + 4
        · obtain ⟨g, rfl, hgb, hcell, hfr, hset⟩ := HOw.out.round hml hin
          have hstep := burst_step0 m (leN (sealed l)) v n (by omega) HM.out
          obtain ⟨u, eu⟩ : ∃ u : UInt8, m[n]'(by omega) = u := ⟨_, rfl⟩
          rw [eu] at hcell hstep
          have hd : v / 2 ^ (8 * n) % 256 < 256 := Nat.mod_lt _ (by omega)
          have hd8 : (UInt8.ofNat (v / 2 ^ (8 * n) % 256)).toNat = v / 2 ^ (8 * n) % 256 := by rw [UInt8.toNat_ofNat']; omega
          have hx := u8_xor_nat u.toNat (v / 2 ^ (8 * n) % 256) u.toNat_lt hd
          have hy : (u ^^^ UInt8.ofNat (v / 2 ^ (8 * n) % 256)).toNat = u.toNat ^^^ (v / 2 ^ (8 * n) % 256) := by rw [UInt8.toNat_xor, hd8]
          rw [← hy] at hx
          have hd2 : ((v / 2 ^ (8 * n) % 256 : Nat) : Int) = (v : Int) / 2 ^ (8 * n) % 256 := by push_cast; rfl
          rw [hd2] at hx
          have HS := Lib.hid (hset (u ^^^ UInt8.ofNat (v / 2 ^ (8 * n) % 256)))
          have HSt := Lib.hid hstep
          have hqn : (n : Int) < (l.length : Int) + 4 := by omega
          obtain ⟨y, ey⟩ : ∃ y, u ^^^ UInt8.ofNat (v / 2 ^ (8 * n) % 256) = y := ⟨_, rfl⟩
          rw [ey] at hx HS HSt
          clear hset hstep hd hd8 hy hd2 eu ey
          go_wp2_with fail
          go_roundw
          case rel => exact ⟨n + 1, m.set (n) y, by omega, by go_num, by simp [hml], HSt.out, HS.out, HBw.out.setCell hgb _⟩
          case measure => simp [intOf]; omega
        · have hi : n = 5 ∨ l.length + 4 ≤ n := .inr (by omega)
          have hnt : (n : Int) < 5 := by omega
          have hqf : decide ((n : Int) < (l.length : Int) + 4) = false := by simp; omega
          have hN := HM.out
          have hend := burst_end0 hv hi
          rw [hend] at hN
          have HBm := Lib.hid (HOw.out.bs_n)
          have HTw := Lib.hid (HT0.out.on HBw.out (Nat.le_refl _))
          have hlen : m.length = (sealed l).length := by rw [hml, seal_length]
          by_cases hv0 : v = 0
          · have em : m = sealed l := leN_inj hlen (by rw [hN, hv0, Nat.zero_mul, Nat.xor_zero])
            have hvi : (v : Int) = 0 := by omega
            rw [em] at HBm
            have HBB := Lib.hid (HB.out.below HBw.out)
            clear hN hend hlen em hv0
            go_wp2_with fail
            refine (open_own A1 l c1 wr.heap.size wr HBm.out (Nat.le_refl _) HTw.out HL.out HC1.out).mono ?_
            rintro e w5 ⟨A5, c5, rfl, _, hbs5, hb5⟩
            have hB5 : Below w.heap.size w w5 := HBw.out.trans (hb5.mono HBw.out.size)
            have hx5 := hbs5.str (P := Tryd.prog) Tryd.underlying23 Tryd.underlying5 c5 9 Tryd.underlying9
            have hy5 := (HB.out.below hB5).str (P := Tryd.prog) Tryd.underlying23 Tryd.underlying5 c 9 Tryd.underlying9
            clear hbs5 hb5
            go_wp2_with fail
            go_ret
            exact ⟨rfl, hB5⟩
          · have hno : ¬ opens m := burst (l := sealed l) (k := 0) (by rw [seal_length]; omega) hlen hN hv hv0 (by rw [seal_length]; omega) (seal_opens l)
            have hvi : ((v : Int) == 0) = false := by simp; omega
            have hvj : ¬ (v : Int) = 0 := by omega
            clear hN hend hlen
            go_wp2_with fail
            refine (open_no A1 m l.length c1 wr.heap.size wr hml HBm.out HTw.out (by rw [hml]; exact HL.out) (by rw [hml]; exact HC1.out) hno).mono ?_
            rintro e w5 ⟨rfl, hb5⟩
            go_wp2_with fail
            go_ret
            exact ⟨rfl, HBw.out.trans (hb5.mono HBw.out.size)⟩
      · have hi : n = 5 ∨ l.length + 4 ≤ n := .inl (by omega)
        have hnt : decide ((n : Int) < 5) = false := by simp; omega
        have hN := HM.out
        have hend := burst_end0 hv hi
        rw [hend] at hN
        have HBm := Lib.hid (HOw.out.bs_n)
        have HTw := Lib.hid (HT0.out.on HBw.out (Nat.le_refl _))
        have hlen : m.length = (sealed l).length := by rw [hml, seal_length]
        by_cases hv0 : v = 0
        · have em : m = sealed l := leN_inj hlen (by rw [hN, hv0, Nat.zero_mul, Nat.xor_zero])
          have hvi : (v : Int) = 0 := by omega
          rw [em] at HBm
          have HBB := Lib.hid (HB.out.below HBw.out)
          clear hN hend hlen em hv0
          go_wp2_with fail
          refine (open_own A1 l c1 wr.heap.size wr HBm.out (Nat.le_refl _) HTw.out HL.out HC1.out).mono ?_
          rintro e w5 ⟨A5, c5, rfl, _, hbs5, hb5⟩
          have hB5 : Below w.heap.size w w5 := HBw.out.trans (hb5.mono HBw.out.size)
          have hx5 := hbs5.str (P := Tryd.prog) Tryd.underlying23 Tryd.underlying5 c5 9 Tryd.underlying9
          have hy5 := (HB.out.below hB5).str (P := Tryd.prog) Tryd.underlying23 Tryd.underlying5 c 9 Tryd.underlying9
          clear hbs5 hb5
          go_wp2_with fail
          go_ret
          exact ⟨rfl, hB5⟩
        · have hno : ¬ opens m := burst (l := sealed l) (k := 0) (by rw [seal_length]; omega) hlen hN hv hv0 (by rw [seal_length]; omega) (seal_opens l)
          have hvi : ((v : Int) == 0) = false := by simp; omega
          have hvj : ¬ (v : Int) = 0 := by omega
          clear hN hend hlen
          go_wp2_with fail
          refine (open_no A1 m l.length c1 wr.heap.size wr hml HBm.out HTw.out (by rw [hml]; exact HL.out) (by rw [hml]; exact HC1.out) hno).mono ?_
          rintro e w5 ⟨rfl, hb5⟩
          go_wp2_with fail
          go_ret
          exact ⟨rfl, HBw.out.trans (hb5.mono HBw.out.size)⟩
end Go.Proofs.YtebcnacboidfeaaDoor
