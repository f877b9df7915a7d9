/-
  Package code's Check, by its contract. Conditions: the theorem's own premises.
-/
import Derived.Test.YthgiehlfmdobkaaDoorCodeFnF
import Derived.Test.YthgiehlfmdobkaaDoorCodeData
namespace Go.Proofs.YthgiehlfmdobkaaDoor
open Go.RowKit

/-- a variable's four cells -/
structure At4 (g : Nat) (v0 v1 v2 v3 : Value) (W : World) : Prop where
  lt : g < W.heap.size
  c0 : W.cell? ⟨g, 0, none⟩ = some v0
  c1 : W.cell? ⟨g, 1, none⟩ = some v1
  c2 : W.cell? ⟨g, 2, none⟩ = some v2
  c3 : W.cell? ⟨g, 3, none⟩ = some v3
theorem At4.below {g : Nat} {v0 v1 v2 v3 : Value} {W W' : World} (h : At4 g v0 v1 v2 v3 W) (hb : Below W.heap.size W W') : At4 g v0 v1 v2 v3 W' :=
  ⟨Nat.lt_of_lt_of_le h.lt hb.size, (hb.cell (p := ⟨g, 0, none⟩) h.lt).trans h.c0, (hb.cell (p := ⟨g, 1, none⟩) h.lt).trans h.c1, (hb.cell (p := ⟨g, 2, none⟩) h.lt).trans h.c2, (hb.cell (p := ⟨g, 3, none⟩) h.lt).trans h.c3⟩
theorem at4 (w : World) (v0 v1 v2 v3 : Value) (t : TypeId) : At4 w.heap.size v0 v1 v2 v3 (w.alloc (.cells #[v0, v1, v2, v3] t)) :=
  have h := Blk.new w t #[v0, v1, v2, v3]
  ⟨h.lt, by rw [h.cell]; rfl, by rw [h.cell]; rfl, by rw [h.cell]; rfl, by rw [h.cell]; rfl⟩

set_option maxRecDepth 100000 in
set_option maxHeartbeats 4000000 in
set_option linter.unusedSimpArgs false in
theorem coCheck (A : Option Addr) (l : List Ins) (n cp : Nat) (hl : l.length = n) (hn : n ≤ 9223372036854775807) (w : World) (hA : InsAt w A l) : Calls Tryd.prog 15 #[.slice A n cp] w (CheckPost w (checkL l)) := by
  obtain ⟨f1, f2, ef⟩ : ∃ f1 f2, checkL l = (f1, f2) := ⟨_, _, rfl⟩
  rw [ef]
  have H := Lib.hid (And.intro hl (And.intro hA ef))
  clear hl hA ef
  go_enter Tryd.func15, Tryd.ntmps15
  by_cases hs1 : n = 0
  · subst hs1
    have := checkL_size (l := l) (by rw [H.out.1]; omega)
    rw [H.out.2.2, Prod.mk.injEq] at this
    obtain ⟨rfl, rfl⟩ := this
    go_wp2_with (go_at_call 29; refine (fNew 1 0 w (by decide)).mono ?_; rintro e w1 ⟨v1, rfl, hc1, hb1⟩)
    go_ret
    exact ⟨v1, rfl, hc1, hb1⟩
  · by_cases hs2 : 128 < n
    · have hs1i : ((n : Int) == 0) = false := by rw [beq_eq_false_iff_ne]; omega
      have hs2i : (n : Int) > 128 := by omega
      have := checkL_size (l := l) (by rw [H.out.1]; omega)
      rw [H.out.2.2, Prod.mk.injEq] at this
      obtain ⟨rfl, rfl⟩ := this
      go_wp2_with (go_at_call 29; refine (fNew 1 0 w (by decide)).mono ?_; rintro e w1 ⟨v1, rfl, hc1, hb1⟩)
      go_ret
      exact ⟨v1, rfl, hc1, hb1⟩
    · have hs1i : ((n : Int) == 0) = false := by rw [beq_eq_false_iff_ne]; omega
      have hs2i : ¬ (n : Int) > 128 := by omega
      go_wp2_with fail
      go_loopw [17] (fun u wz => ∃ k : Nat, k ≤ n ∧ u = .int .i64 (k : Int) ∧ Below w.heap.size w wz ∧ ∀ m, m < k → wrongAt n (l.getD m i0) = none) (fun u _ => n - (intOf u).toNat)
      case atStart => exact ⟨0, by omega, rfl, Below.refl _ _, fun m hm => by omega⟩
      case round =>
        obtain ⟨k, hk, rfl, hbel, hno⟩ := hrel
        have HI := Lib.hid (And.intro hbel hno)
        clear hno
        by_cases hlt : k < n
        · have hki : (k : Int) < (n : Int) := by omega
          have hk0 : (0 : Int) ≤ (k : Int) := by omega
          obtain ⟨b, o, op, a, bb, c, eA, hbl, eI, ⟨q1, q2, q3, q4⟩, hce⟩ := H.out.2.1.at_ (j := k) (by rw [H.out.1]; exact hlt)
          have d0 : ∀ W, Below w.heap.size w W → W.cell? ⟨b, o + k * 4, none⟩ = some (.int .u8 (op : Int)) := fun W h => (hce W h).1
          have d1 : ∀ W, Below w.heap.size w W → W.cell? ⟨b, o + k * 4 + 1, none⟩ = some (.int .u8 (a : Int)) := fun W h => (hce W h).2.1
          have d2 : ∀ W, Below w.heap.size w W → W.cell? ⟨b, o + k * 4 + 2, none⟩ = some (.int .u8 (bb : Int)) := fun W h => (hce W h).2.2.1
          have d3 : ∀ W, Below w.heap.size w W → W.cell? ⟨b, o + k * 4 + 3, none⟩ = some (.int .u8 (c : Int)) := fun W h => (hce W h).2.2.2
          have e0 : ∀ W, At4 wr.heap.size (.int .u8 (op : Int)) (.int .u8 (a : Int)) (.int .u8 (bb : Int)) (.int .u8 (c : Int)) W → W.cell? ⟨wr.heap.size, 0, none⟩ = some (.int .u8 (op : Int)) := fun W h => h.c0
          have e1 : ∀ W, At4 wr.heap.size (.int .u8 (op : Int)) (.int .u8 (a : Int)) (.int .u8 (bb : Int)) (.int .u8 (c : Int)) W → W.cell? ⟨wr.heap.size, 1, none⟩ = some (.int .u8 (a : Int)) := fun W h => h.c1
          have e2 : ∀ W, At4 wr.heap.size (.int .u8 (op : Int)) (.int .u8 (a : Int)) (.int .u8 (bb : Int)) (.int .u8 (c : Int)) W → W.cell? ⟨wr.heap.size, 2, none⟩ = some (.int .u8 (bb : Int)) := fun W h => h.c2
          have e3 : ∀ W, At4 wr.heap.size (.int .u8 (op : Int)) (.int .u8 (a : Int)) (.int .u8 (bb : Int)) (.int .u8 (c : Int)) W → W.cell? ⟨wr.heap.size, 3, none⟩ = some (.int .u8 (c : Int)) := fun W h => h.c3
          have HE := Lib.hid eI
          have hzA := HI.out.1.trans ((below_alloc wr (.cells #[.int .u8 (op : Int), .int .u8 (a : Int), .int .u8 (bb : Int), .int .u8 (c : Int)] 61)).mono HI.out.1.size)
          have hrf := fun W => coFormed op a bb c W
          have hrn := fun W => coNumber op a bb c ⟨q1, q2, q3, q4⟩ W
          have hrp := fun W => coNeeds op W
          subst eA
          have hri := fun z W => coPlace (some ⟨b, o, none⟩) n cp z W
          clear hce eI
          cases hfo : formedB ⟨op, a, bb, c⟩
          · rw [hfo] at hrf
            have := checkL_at (l := l) (k := k) (c := 3) (by rw [H.out.1]; omega) (by rw [H.out.1]; exact HI.out.2) (by rw [H.out.1]; exact hlt) (by rw [HE.out]; exact wrong_form hfo)
            rw [H.out.2.2, Prod.mk.injEq] at this
            obtain ⟨rfl, rfl⟩ := this
            have HF := Lib.hid (And.intro hrf hrp)
            clear hrf hrn hrp hri hfo
            go_wp2_with (first
              | (go_at_call 30; refine (HF.out.1 _).mono ?_; rintro e w1 ⟨rfl, hb1⟩; have hz1 := hzA.trans (hb1.mono hzA.size); have hy1 := At4.below (at4 _ _ _ _ _ _) hb1)
              | (go_at_call 29; refine (fNew 3 _ _ (by decide)).mono ?_; rintro e w9 ⟨v9, rfl, hc9, hb9⟩; have hz9 := hz1.trans (hb9.mono hz1.size)))
            go_ret
            exact ⟨v9, rfl, hc9, hz9⟩
          · rw [hfo] at hrf
            by_cases hp : op = 15 ∨ op = 16
            · rw [numS_place hp] at hrn
              rw [decide_eq_true hp] at hrp
              obtain ⟨z, ez⟩ : ∃ z, bb + 256 * c = z := ⟨_, rfl⟩
              rw [ez] at hrn
              have hri := hri (z : Int)
              by_cases hz : n ≤ z
              · rw [decide_eq_false (by omega)] at hri
                have := checkL_at (l := l) (k := k) (c := 4) (by rw [H.out.1]; omega) (by rw [H.out.1]; exact HI.out.2) (by rw [H.out.1]; exact hlt) (by rw [HE.out, H.out.1]; exact wrong_place hfo hp (by omega))
                rw [H.out.2.2, Prod.mk.injEq] at this
                obtain ⟨rfl, rfl⟩ := this
                have HF := Lib.hid (And.intro hrf (And.intro hrp (And.intro hrn hri)))
                clear hrf hrn hrp hri hfo ez
                go_wp2_with (first
                  | (go_at_call 30; refine (HF.out.1 _).mono ?_; rintro e w1 ⟨rfl, hb1⟩; have hz1 := hzA.trans (hb1.mono hzA.size); have hy1 := At4.below (at4 _ _ _ _ _ _) hb1)
                  | (go_at_call 31; refine (HF.out.2.1 _).mono ?_; rintro e w2 ⟨rfl, hb2⟩; have hz2 := hz1.trans (hb2.mono hz1.size); have hy2 := hy1.below hb2)
                  | (go_at_call 33; refine (HF.out.2.2.1 _).mono ?_; rintro e w3 ⟨rfl, hb3⟩; have hz3 := hz2.trans (hb3.mono hz2.size); have hy3 := hy2.below hb3)
                  | (go_at_call 32; refine (HF.out.2.2.2 _).mono ?_; rintro e w4 ⟨rfl, hb4⟩; have hz4 := hz3.trans (hb4.mono hz3.size); have hy4 := hy3.below hb4)
                  | (go_at_call 29; refine (fNew 4 _ _ (by decide)).mono ?_; rintro e w9 ⟨v9, rfl, hc9, hb9⟩; have hz9 := hz4.trans (hb9.mono hz4.size)))
                go_ret
                exact ⟨v9, rfl, hc9, hz9⟩
              · rw [decide_eq_true (by omega)] at hri
                have hw := wrong_none (n := n) hfo (.inr (by omega) : ¬ (op = 15 ∨ op = 16) ∨ bb + 256 * c < n)
                have HW := Lib.hid hw
                have HF := Lib.hid (And.intro hrf (And.intro hrp (And.intro hrn hri)))
                clear hrf hrn hrp hri hfo ez hw
                go_wp2_with (first
                  | (go_at_call 30; refine (HF.out.1 _).mono ?_; rintro e w1 ⟨rfl, hb1⟩; have hz1 := hzA.trans (hb1.mono hzA.size); have hy1 := At4.below (at4 _ _ _ _ _ _) hb1)
                  | (go_at_call 31; refine (HF.out.2.1 _).mono ?_; rintro e w2 ⟨rfl, hb2⟩; have hz2 := hz1.trans (hb2.mono hz1.size); have hy2 := hy1.below hb2)
                  | (go_at_call 33; refine (HF.out.2.2.1 _).mono ?_; rintro e w3 ⟨rfl, hb3⟩; have hz3 := hz2.trans (hb3.mono hz2.size); have hy3 := hy2.below hb3)
                  | (go_at_call 32; refine (HF.out.2.2.2 _).mono ?_; rintro e w4 ⟨rfl, hb4⟩; have hz4 := hz3.trans (hb4.mono hz3.size); have hy4 := hy3.below hb4))
                go_roundw
                case rel => exact ⟨k + 1, by omega, by go_num, hz4, fun m hm => by
                  rcases Nat.lt_or_ge m k with h8 | h8
                  · exact HI.out.2 m h8
                  · obtain rfl : m = k := by omega
                    rw [HE.out]
                    exact HW.out⟩
                case measure => simp [intOf]; omega
            · rw [decide_eq_false hp] at hrp
              have hw := wrong_none (n := n) hfo (.inl hp : ¬ (op = 15 ∨ op = 16) ∨ bb + 256 * c < n)
              have HW := Lib.hid hw
              have HF := Lib.hid (And.intro hrf hrp)
              clear hrf hrn hrp hri hfo hw
              go_wp2_with (first
                | (go_at_call 30; refine (HF.out.1 _).mono ?_; rintro e w1 ⟨rfl, hb1⟩; have hz1 := hzA.trans (hb1.mono hzA.size); have hy1 := At4.below (at4 _ _ _ _ _ _) hb1)
                | (go_at_call 31; refine (HF.out.2 _).mono ?_; rintro e w2 ⟨rfl, hb2⟩; have hz2 := hz1.trans (hb2.mono hz1.size); have hy2 := hy1.below hb2))
              go_roundw
              case rel => exact ⟨k + 1, by omega, by go_num, hz2, fun m hm => by
                rcases Nat.lt_or_ge m k with h8 | h8
                · exact HI.out.2 m h8
                · obtain rfl : m = k := by omega
                  rw [HE.out]
                  exact HW.out⟩
              case measure => simp [intOf]; omega
        · obtain rfl : k = n := by omega
          have hkn : ¬ (k : Int) < (k : Int) := by omega
          obtain ⟨m, em⟩ : ∃ m, k - 1 = m := ⟨_, rfl⟩
          have hm1 : (k : Int) - 1 = (m : Int) := by omega
          have hm0 : (0 : Int) ≤ (m : Int) := by omega
          have hmk : (m : Int) < (k : Int) := by omega
          have hend := checkL_end (l := l) (by rw [H.out.1]; omega) (by rw [H.out.1]; exact HI.out.2)
          rw [H.out.2.2, H.out.1, em] at hend
          obtain ⟨b, o, op, a, bb, c, eA, hbl, eI, ⟨q1, q2, q3, q4⟩, hce⟩ := H.out.2.1.at_ (j := m) (by rw [H.out.1]; omega)
          rw [eI] at hend
          have d0 : ∀ W, Below w.heap.size w W → W.cell? ⟨b, o + m * 4, none⟩ = some (.int .u8 (op : Int)) := fun W h => (hce W h).1
          subst eA
          have hre := fun W => coEnds op W
          clear hce eI
          by_cases hop : op = 0 ∨ op = 15
          · rw [if_neg (by simp only; omega), Prod.mk.injEq] at hend
            obtain ⟨rfl, rfl⟩ := hend
            rw [decide_eq_true hop] at hre
            have HF := Lib.hid hre
            clear hre
            go_wp2_with (go_at_call 34; refine (HF.out _).mono ?_; rintro e w1 ⟨rfl, hb1⟩; have hz1 := HI.out.1.trans (hb1.mono HI.out.1.size))
            go_ret
            exact ⟨_, rfl, rfl, hz1⟩
          · rw [if_pos (by simp only; omega), Prod.mk.injEq] at hend
            obtain ⟨rfl, rfl⟩ := hend
            rw [decide_eq_false hop] at hre
            have HF := Lib.hid hre
            clear hre
            go_wp2_with (first
              | (go_at_call 34; refine (HF.out _).mono ?_; rintro e w1 ⟨rfl, hb1⟩; have hz1 := HI.out.1.trans (hb1.mono HI.out.1.size))
              | (go_at_call 29; refine (fNew 2 _ _ (by decide)).mono ?_; rintro e w9 ⟨v9, rfl, hc9, hb9⟩; have hz9 := hz1.trans (hb9.mono hz1.size)))
            go_ret
            exact ⟨v9, rfl, hc9, hz9⟩
end Go.Proofs.YthgiehlfmdobkaaDoor
