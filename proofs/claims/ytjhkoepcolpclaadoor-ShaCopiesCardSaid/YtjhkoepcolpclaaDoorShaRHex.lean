/-
  The reference's Hex (layer 4), by its contract. Conditions: the theorem's own premises.
-/
import Derived.Test.YtjhkoepcolpclaaDoorShaHex
namespace Go.Proofs.YtjhkoepcolpclaaDoor
open Go.RowKit

theorem still_cat {P : Program} {w : World} {ops : Array Oper} {rest : List Oper} {o : Oper} {a : Act} {Q : Act → Prop} (hgd : o.guard = none) (t t2 : TypeId) (x y : Operand) (ho : o.op = .binOp .add t x y t2) (s1 s2 : ByteArray) (hx : a.eval x = .string s1) (hy : a.eval y = .string s2)
    (hs : s1.size + s2.size ≤ 9223372036854775807) (h : wpStill P ops w Q rest (a.put o.dst (.string (s1 ++ s2)))) : wpStill P ops w Q (o :: rest) a := by
  refine still_run hgd (.string (s1 ++ s2)) ?_ h
  have e := run_string_add_sum (P := P) w s1 s2 hs
  simp [execOp, ho, hx, hy, eqGuard, binOp, e]

set_option maxRecDepth 100000 in
set_option maxHeartbeats 4000000 in
set_option linter.unusedSimpArgs false in
theorem refHex_any (l : List UInt8) (hl : l.length = 32) (X : Array Value) (hX : X = (bv l).toArray) (w : World) :
    Calls Tryd.prog 15 #[.agg X] w fun e w' => e = .returned (.string ⟨(hexOf l).toArray⟩) ∧ Below w.heap.size w w' := by
  have HX0 := Lib.hid hX
  clear hX
  go_enter Tryd.func15, Tryd.ntmps15
  go_wp2_with (first
    | (refine wpList_box rfl 24 (.tmp 0) rfl X rfl ?_; intro w1 hb1 hw1 hz1; refine stopped ?_)
    | fail)
  rw [HX0.out] at hb1
  obtain ⟨g, eg⟩ : ∃ g, w.heap.size = g := ⟨_, rfl⟩
  refine go_on ?_
  rw [eg] at hb1 ⊢
  have H1 := Lib.hid (And.intro hb1 hw1)
  clear hb1 hw1 hz1 eg
  go_wp2_with fail
  go_loopw [3, 4] (fun v i wz => ∃ (k m : Nat) (st : ByteArray), k ≤ 32 ∧ i = .int .i64 (k : Int) ∧ v = .string st ∧ st.data.toList = (hexOf l).take (2 * k) ∧ wz = w1.drewN m) (fun _ i _ => 32 - (intOf i).toNat)
  case atStart => exact ⟨0, 0, _, by omega, rfl, rfl, rfl, rfl⟩
  case round =>
    obtain ⟨k, dm, st, hk, rfl, rfl, hst, rfl⟩ := hrel
    have HS := Lib.hid hst
    clear hst
    by_cases hlt : k < 32
    · have hcl := (H1.out.1.drewN (dm + 1)).getb (p := k) (by omega)
      have hcl' : (w1.drewN dm).drew.cell? ⟨g, k, none⟩ = some (.int .u8 ((l.getD k 0).toNat : Int)) := hcl
      obtain ⟨x1, x2⟩ := hexOf_at l k (by omega)
      have hg : l[k].toNat = (l.getD k 0).toNat := by simp [List.getD, show k < l.length by omega]
      rw [hg] at x1 x2
      obtain ⟨c, ec⟩ : ∃ c, (l.getD k 0).toNat = c := ⟨_, rfl⟩
      have hc : c < 256 := by rw [← ec]; exact (l.getD k 0).toNat_lt
      rw [ec] at hcl hcl' x1 x2
      obtain ⟨q, eq⟩ : ∃ q, c / 16 = q := ⟨_, rfl⟩
      obtain ⟨r, er⟩ : ∃ r, c % 16 = r := ⟨_, rfl⟩
      rw [eq] at x1
      rw [er] at x2
      have hq : q < 16 := by omega
      have hr : r < 16 := by omega
      obtain ⟨q1, eq1⟩ : ∃ x, q + 1 = x := ⟨_, rfl⟩
      obtain ⟨r1, er1⟩ : ∃ x, r + 1 = x := ⟨_, rfl⟩
      have a1 : (c : Int) / 16 = (q : Int) := by omega
      have a2 : (c : Int) % 16 = (r : Int) := by omega
      have a4 : (q : Int) + 1 = (q1 : Int) := by omega
      have a5 : (r : Int) + 1 = (r1 : Int) := by omega
      have a6 : IntKind.u8.wrap (q1 : Int) = (q1 : Int) := by simp [IntKind.wrap, IntKind.bits, IntKind.signed]; omega
      have a7 : IntKind.u8.wrap (r1 : Int) = (r1 : Int) := by simp [IntKind.wrap, IntKind.bits, IntKind.signed]; omega
      have a8 : IntKind.u8.wrap (q : Int) = (q : Int) := by simp [IntKind.wrap, IntKind.bits, IntKind.signed]; omega
      have a9 : IntKind.u8.wrap (r : Int) = (r : Int) := by simp [IntKind.wrap, IntKind.bits, IntKind.signed]; omega
      have a10 : (k : Int) < 32 := by omega
      have a11 : (c : Int).tdiv 16 = (q : Int) := by rw [Int.tdiv_eq_ediv_of_nonneg (by omega)]; exact a1
      have a3 : (c : Int).tmod 16 = (r : Int) := by rw [Int.tmod_eq_emod_of_nonneg (by omega)]; exact a2
      have HT := Lib.hid (take_two _ _ _ _ x1 x2)
      clear eq er ec x1 x2 hg
      go_wp2_with fail
      refine region_tail 23 (by kernel_rfl) (by kernel_rfl) ?_
      simp only [List.take_succ_cons, List.take_zero, List.drop_succ_cons, List.drop_zero]
      iterate 10 still_step
      refine still_digit rfl (.tmp 13) (.tmp 18) rfl q q1 rfl rfl hq eq1 ?_
      simp only [Act.put, List.setIfInBounds_toArray, List.set_cons_zero, List.set_cons_succ]
      iterate 9 still_step
      refine still_digit rfl (.tmp 23) (.tmp 28) rfl r r1 rfl rfl hr er1 ?_
      simp only [Act.put, List.setIfInBounds_toArray, List.set_cons_zero, List.set_cons_succ]
      refine still_cat rfl 9 9 (.tmp 19) (.tmp 29) rfl ⟨#[hexD q]⟩ ⟨#[hexD r]⟩ rfl rfl (by rw [show (⟨#[hexD q]⟩ : ByteArray).size = 1 from rfl, show (⟨#[hexD r]⟩ : ByteArray).size = 1 from rfl]; omega) ?_
      simp only [Act.put, List.setIfInBounds_toArray, List.set_cons_zero, List.set_cons_succ]
      refine still_cat rfl 9 9 (.tmp 9) (.tmp 30) rfl st (⟨#[hexD q]⟩ ++ ⟨#[hexD r]⟩) rfl rfl (by
        have h1 : st.size = st.data.toList.length := rfl
        have h2 : (⟨#[hexD q]⟩ ++ ⟨#[hexD r]⟩ : ByteArray).size = 2 := by rw [ByteArray.size_append]; rfl
        rw [h1, h2, HS.out, List.length_take]
        omega) ?_
      simp only [Act.put, List.setIfInBounds_toArray, List.set_cons_zero, List.set_cons_succ]
      refine wpStill_nil ?_
      go_wp2_with fail
      go_roundw
      case rel => exact ⟨k + 1, dm + 1, _, by omega, by go_num, rfl, by rw [HT.out, ← HS.out]; simp, rfl⟩
      case measure => simp [intOf]; omega
    · obtain rfl : k = 32 := by omega
      have hend : st = ⟨(hexOf l).toArray⟩ := by
        have h := HS.out
        rw [List.take_of_length_le (by rw [hexOf_length]; omega)] at h
        cases st with
        | mk d =>
          congr 1
          rw [← h]
      go_wp2_with fail
      go_ret
      exact ⟨by rw [← hend]; rfl, below_drewN H1.out.2 _⟩
end Go.Proofs.YtjhkoepcolpclaaDoor
