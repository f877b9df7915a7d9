/-
  The programs' reference: Check, by its contract. Conditions: the theorem's own premises.
-/
import Derived.Test.YthgiehlfmdobkaaDoorCodeRef
namespace Go.Proofs.YthgiehlfmdobkaaDoor
open Go.RowKit

/-- the slice has the instructions; each is four bytes -/
structure InsAt (w : World) (A : Option Addr) (l : List Ins) : Prop where
  vs : Vs w w.heap.size A (ivs l)
  ok : okL l
theorem InsAt.below {w w' : World} {A : Option Addr} {l : List Ins} (h : InsAt w A l) (hb : Below w.heap.size w w') : InsAt w' A l := ⟨(h.vs.below hb).more hb.size, h.ok⟩
theorem InsAt.take {w : World} {A : Option Addr} {l : List Ins} (h : InsAt w A l) (m : Nat) : InsAt w A (l.take m) := ⟨ivs_take h.vs m, okL_take h.ok m⟩
/-- an element's four cells -/
theorem InsAt.at_ {w : World} {A : Option Addr} {l : List Ins} (h : InsAt w A l) {j : Nat} (hj : j < l.length) : ∃ b o op a bb c, A = some ⟨b, o, none⟩ ∧ b < w.heap.size ∧ l.getD j i0 = ⟨op, a, bb, c⟩ ∧ (op < 256 ∧ a < 256 ∧ bb < 256 ∧ c < 256) ∧
    ∀ W, Below w.heap.size w W → W.cell? ⟨b, o + j * 4, none⟩ = some (.int .u8 (op : Int)) ∧ W.cell? ⟨b, o + j * 4 + 1, none⟩ = some (.int .u8 (a : Int)) ∧ W.cell? ⟨b, o + j * 4 + 2, none⟩ = some (.int .u8 (bb : Int)) ∧ W.cell? ⟨b, o + j * 4 + 3, none⟩ = some (.int .u8 (c : Int)) := by
  obtain ⟨b, o, e, hb, hc⟩ := ivs_at h.vs hj
  refine ⟨b, o, (l.getD j i0).op, (l.getD j i0).a, (l.getD j i0).b, (l.getD j i0).c, e, hb, rfl, okL_get h.ok hj, fun W hW => ?_⟩
  exact ⟨(hW.cell (p := ⟨b, o + j * 4, none⟩) hb).trans (hc 0 _ rfl), (hW.cell (p := ⟨b, o + j * 4 + 1, none⟩) hb).trans (hc 1 _ rfl), (hW.cell (p := ⟨b, o + j * 4 + 2, none⟩) hb).trans (hc 2 _ rfl), (hW.cell (p := ⟨b, o + j * 4 + 3, none⟩) hb).trans (hc 3 _ rfl)⟩
theorem wrong_form {n op a b c : Nat} (h : formedB ⟨op, a, b, c⟩ = false) : wrongAt n ⟨op, a, b, c⟩ = some 3 := by unfold wrongAt; rw [if_pos h]
theorem wrong_place {n op a b c : Nat} (h : formedB ⟨op, a, b, c⟩ = true) (hp : op = 15 ∨ op = 16) (hn : n ≤ b + 256 * c) : wrongAt n ⟨op, a, b, c⟩ = some 4 := by
  unfold wrongAt
  rw [if_neg (by rw [h]; decide), if_pos ⟨decide_eq_true hp, hn⟩]
theorem wrong_none {n op a b c : Nat} (h : formedB ⟨op, a, b, c⟩ = true) (hp : ¬ (op = 15 ∨ op = 16) ∨ b + 256 * c < n) : wrongAt n ⟨op, a, b, c⟩ = none := by
  unfold wrongAt
  rw [if_neg (by rw [h]; decide), if_neg]
  rintro ⟨h1, h2⟩
  have h3 : op = 15 ∨ op = 16 := of_decide_eq_true h1
  have h4 : n ≤ b + 256 * c := h2
  omega
theorem numS_place {op a b c : Nat} (h : op = 15 ∨ op = 16) : Ins.numS ⟨op, a, b, c⟩ = ((b + 256 * c : Nat) : Int) := by
  unfold Ins.numS
  rw [if_neg (by simp only; omega)]
  rfl

set_option maxRecDepth 100000 in
set_option maxHeartbeats 4000000 in
set_option linter.unusedSimpArgs false in
theorem refCheck7 (A : Option Addr) (l : List Ins) (n cp : Nat) (hl : l.length = n) (hn : n ≤ 1000000) (w : World) (hA : InsAt w A l) :
    Calls Tryd.prog 23 #[.slice A n cp] w (Says w (.tuple #[.int .i64 ((checkL l).1 : Nat), .int .i64 ((checkL l).2 : Nat)])) := by
  obtain ⟨f1, f2, ef⟩ : ∃ f1 f2, checkL l = (f1, f2) := ⟨_, _, rfl⟩
  rw [ef]
  have H := Lib.hid (And.intro hl (And.intro hA ef))
  clear hl hA ef
  go_enter Tryd.func23, Tryd.ntmps23
  by_cases hs1 : n < 1
  · have hs1i : (n : Int) < 1 := by omega
    have := checkL_size (l := l) (by rw [H.out.1]; omega)
    rw [H.out.2.2, Prod.mk.injEq] at this
    obtain ⟨rfl, rfl⟩ := this
    go_wp2_with fail
    go_ret2
    exact ⟨rfl, Below.refl _ _⟩
  · by_cases hs2 : 128 < n
    · have hs1i : ¬ (n : Int) < 1 := by omega
      have hs2i : (n : Int) > 128 := by omega
      have := checkL_size (l := l) (by rw [H.out.1]; omega)
      rw [H.out.2.2, Prod.mk.injEq] at this
      obtain ⟨rfl, rfl⟩ := this
      go_wp2_with fail
      go_ret2
      exact ⟨rfl, Below.refl _ _⟩
    · have hs1i : ¬ (n : Int) < 1 := by omega
      have hs2i : ¬ (n : Int) > 128 := by omega
      go_wp2_with fail
      go_loopw [4] (fun u wz => ∃ k : Nat, k ≤ n ∧ u = .int .i64 (k : Int) ∧ Below w.heap.size w wz ∧ ∀ m, m < k → wrongAt n (l.getD m i0) = none) (fun u _ => n - (intOf u).toNat)
      case atStart => exact ⟨0, by omega, rfl, Below.refl _ _, fun m hm => by omega⟩
      case round =>
        obtain ⟨k, hk, rfl, hbel, hno⟩ := hrel
        have HI := Lib.hid (And.intro hbel hno)
        clear hno
        by_cases hlt : k < n
        · have hki : (k : Int) < (n : Int) := by omega
          have hk0 : (0 : Int) ≤ (k : Int) := by omega
          obtain ⟨b, o, op, a, bb, c, eA, hbl, eI, ⟨q1, q2, q3, q4⟩, hce⟩ := H.out.2.1.at_ (j := k) (by rw [H.out.1]; exact hlt)
          have d0 : ∀ W, Below w.heap.size w W → W.cell? ⟨b, o + k * 4, none⟩ = some (.int .u8 (op : Int)) := fun W h => (hce W h).1
          have d1 : ∀ W, Below w.heap.size w W → W.cell? ⟨b, o + k * 4 + 1, none⟩ = some (.int .u8 (a : Int)) := fun W h => (hce W h).2.1
          have d2 : ∀ W, Below w.heap.size w W → W.cell? ⟨b, o + k * 4 + 2, none⟩ = some (.int .u8 (bb : Int)) := fun W h => (hce W h).2.2.1
          have d3 : ∀ W, Below w.heap.size w W → W.cell? ⟨b, o + k * 4 + 3, none⟩ = some (.int .u8 (c : Int)) := fun W h => (hce W h).2.2.2
          have HE := Lib.hid (And.intro eI (And.intro q3 q4))
          have hrf := fun W => refFormed op a bb c W
          have hrn := fun W => refNumber7 op a bb c q3 q4 W
          subst eA
          clear hce eI q1 q2 q3 q4
          cases hfo : formedB ⟨op, a, bb, c⟩
          · rw [hfo] at hrf
            have := checkL_at (l := l) (k := k) (c := 3) (by rw [H.out.1]; omega) (by rw [H.out.1]; exact HI.out.2) (by rw [H.out.1]; exact hlt) (by rw [HE.out.1]; exact wrong_form hfo)
            rw [H.out.2.2, Prod.mk.injEq] at this
            obtain ⟨rfl, rfl⟩ := this
            have HF := Lib.hid hrf
            clear hrf hrn hfo
            go_wp2_with (go_at_call 44; refine (HF.out _).mono ?_; rintro e w1 ⟨rfl, hb1⟩)
            go_ret2
            exact ⟨rfl, HI.out.1.trans (hb1.mono HI.out.1.size)⟩
          · rw [hfo] at hrf
            by_cases hp : op = 15 ∨ op = 16
            · rw [numS_place hp] at hrn
              obtain ⟨z, ez⟩ : ∃ z, bb + 256 * c = z := ⟨_, rfl⟩
              rw [ez] at hrn
              have HF := Lib.hid (And.intro hrf hrn)
              by_cases hz : n ≤ z
              · have := checkL_at (l := l) (k := k) (c := 4) (by rw [H.out.1]; omega) (by rw [H.out.1]; exact HI.out.2) (by rw [H.out.1]; exact hlt) (by rw [HE.out.1, H.out.1]; exact wrong_place hfo hp (by omega))
                rw [H.out.2.2, Prod.mk.injEq] at this
                obtain ⟨rfl, rfl⟩ := this
                have hzi : (z : Int) ≥ (n : Int) := by omega
                clear hrf hrn hfo ez
                rcases hp with rfl | rfl
                · go_wp2_with (first
                    | (go_at_call 44; refine (HF.out.1 _).mono ?_; rintro e w1 ⟨rfl, hb1⟩; have hz1 := HI.out.1.trans (hb1.mono HI.out.1.size))
                    | (go_at_call 45; refine (HF.out.2 _).mono ?_; rintro e w2 ⟨rfl, hb2⟩; have hz2 := hz1.trans (hb2.mono hz1.size)))
                  go_ret2
                  exact ⟨rfl, hz2⟩
                · go_wp2_with (first
                    | (go_at_call 44; refine (HF.out.1 _).mono ?_; rintro e w1 ⟨rfl, hb1⟩; have hz1 := HI.out.1.trans (hb1.mono HI.out.1.size))
                    | (go_at_call 45; refine (HF.out.2 _).mono ?_; rintro e w2 ⟨rfl, hb2⟩; have hz2 := hz1.trans (hb2.mono hz1.size)))
                  go_ret2
                  exact ⟨rfl, hz2⟩
              · have hzi : ¬ (z : Int) ≥ (n : Int) := by omega
                have hw := wrong_none (n := n) hfo (.inr (by omega) : ¬ (op = 15 ∨ op = 16) ∨ bb + 256 * c < n)
                have HW := Lib.hid hw
                clear hrf hrn hfo ez hw
                rcases hp with rfl | rfl
                · go_wp2_with (first
                    | (go_at_call 44; refine (HF.out.1 _).mono ?_; rintro e w1 ⟨rfl, hb1⟩; have hz1 := HI.out.1.trans (hb1.mono HI.out.1.size))
                    | (go_at_call 45; refine (HF.out.2 _).mono ?_; rintro e w2 ⟨rfl, hb2⟩; have hz2 := hz1.trans (hb2.mono hz1.size)))
                  go_roundw
                  case rel => exact ⟨k + 1, by omega, by go_num, hz2, fun m hm => by
                    rcases Nat.lt_or_ge m k with h8 | h8
                    · exact HI.out.2 m h8
                    · obtain rfl : m = k := by omega
                      rw [HE.out.1]
                      exact HW.out⟩
                  case measure => simp [intOf]; omega
                · go_wp2_with (first
                    | (go_at_call 44; refine (HF.out.1 _).mono ?_; rintro e w1 ⟨rfl, hb1⟩; have hz1 := HI.out.1.trans (hb1.mono HI.out.1.size))
                    | (go_at_call 45; refine (HF.out.2 _).mono ?_; rintro e w2 ⟨rfl, hb2⟩; have hz2 := hz1.trans (hb2.mono hz1.size)))
                  go_roundw
                  case rel => exact ⟨k + 1, by omega, by go_num, hz2, fun m hm => by
                    rcases Nat.lt_or_ge m k with h8 | h8
                    · exact HI.out.2 m h8
                    · obtain rfl : m = k := by omega
                      rw [HE.out.1]
                      exact HW.out⟩
                  case measure => simp [intOf]; omega
            · have HF := Lib.hid hrf
              have hw := wrong_none (n := n) hfo (.inl hp : ¬ (op = 15 ∨ op = 16) ∨ bb + 256 * c < n)
              have HW := Lib.hid hw
              have n15 : ((op : Int) == 15) = false := by rw [beq_eq_false_iff_ne]; omega
              have n16 : ((op : Int) == 16) = false := by rw [beq_eq_false_iff_ne]; omega
              clear hrf hrn hfo hw
              go_wp2_with (go_at_call 44; refine (HF.out _).mono ?_; rintro e w1 ⟨rfl, hb1⟩; have hz1 := HI.out.1.trans (hb1.mono HI.out.1.size))
              go_roundw
              case rel => exact ⟨k + 1, by omega, by go_num, hz1, fun m hm => by
                    rcases Nat.lt_or_ge m k with h8 | h8
                    · exact HI.out.2 m h8
                    · obtain rfl : m = k := by omega
                      rw [HE.out.1]
                      exact HW.out⟩
              case measure => simp [intOf]; omega
        · obtain rfl : k = n := by omega
          have hnl : ¬ (k : Int) < (k : Int) := by omega
          obtain ⟨q, eq⟩ : ∃ q, k = q + 1 := ⟨k - 1, by omega⟩
          obtain ⟨b, o, op, a, bb, c, eA, hbl, eI, _, hce⟩ := H.out.2.1.at_ (j := q) (by rw [H.out.1]; omega)
          have d0 : ∀ W, Below w.heap.size w W → W.cell? ⟨b, o + q * 4, none⟩ = some (.int .u8 (op : Int)) := fun W h => (hce W h).1
          have hend := checkL_end (l := l) (by rw [H.out.1]; omega) (by rw [H.out.1]; exact HI.out.2)
          have eI2 : l.getD (l.length - 1) i0 = ⟨op, a, bb, c⟩ := by rw [H.out.1, show k - 1 = q by omega]; exact eI
          rw [H.out.2.2, eI2] at hend
          simp only at hend
          have hq1 : IntKind.i64.wrap ((k : Int) - 1) = (q : Int) := by rw [show (k : Int) - 1 = (q : Int) by omega]; exact IntWalk.i64_in _ (by omega)
          have hq0 : (0 : Int) ≤ (q : Int) := by omega
          have hqk : (q : Int) < (k : Int) := by omega
          subst eA
          clear hce eI eI2
          by_cases g0 : op = 0
          · rw [if_neg (by omega), Prod.mk.injEq] at hend
            obtain ⟨rfl, rfl⟩ := hend
            subst g0
            clear eq
            go_wp2_with fail
            go_ret2
            exact ⟨rfl, HI.out.1⟩
          · by_cases g15 : op = 15
            · rw [if_neg (by omega), Prod.mk.injEq] at hend
              obtain ⟨rfl, rfl⟩ := hend
              subst g15
              clear eq
              go_wp2_with fail
              go_ret2
              exact ⟨rfl, HI.out.1⟩
            · rw [if_pos ⟨g0, g15⟩, Prod.mk.injEq, H.out.1] at hend
              obtain ⟨rfl, hf2⟩ := hend
              obtain rfl : f2 = q := by omega
              have n0 : ((op : Int) == 0) = false := by rw [beq_eq_false_iff_ne]; omega
              have n15 : ((op : Int) == 15) = false := by rw [beq_eq_false_iff_ne]; omega
              have m0 : ((op : Int) != 0) = true := by simp [bne, n0]
              have m15 : ((op : Int) != 15) = true := by simp [bne, n15]
              clear eq hf2
              go_wp2_with fail
              go_ret2
              exact ⟨rfl, HI.out.1⟩
end Go.Proofs.YthgiehlfmdobkaaDoor
