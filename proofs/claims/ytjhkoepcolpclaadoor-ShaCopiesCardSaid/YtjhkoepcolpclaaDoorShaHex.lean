/-
  Hex, the package's and the reference's, by their contracts. Conditions: each theorem's own premises.
-/
import Derived.Test.YtjhkoepcolpclaaDoorShaHexM
import Derived.Test.YtjhkoepcolpclaaDoorShaEnc
import Derived.BigQuiet
namespace Go.Proofs.YtjhkoepcolpclaaDoor
open Go.RowKit

def digitsB : ByteArray := ⟨#[48, 49, 50, 51, 52, 53, 54, 55, 56, 57, 97, 98, 99, 100, 101, 102]⟩
theorem digitsB_at : ∀ v, (h : v < 16) → ((digitsB[v]'h).toNat : Nat) = (hexD v).toNat := by decide
theorem run_digit (w : World) (k : IntKind) (v : Nat) (hv : v < 16) : (Instr.index 9 (.string digitsB) (.int k (v : Int))).run Tryd.prog w = .ok (.int .u8 ((hexD v).toNat : Int)) w := by
  rw [run_index_string w _ _ _ _ Tryd.underlying9]
  have h : (0 : Int) ≤ (v : Int) ∧ (v : Int) < (digitsB.size : Int) := ⟨by omega, by have : digitsB.size = 16 := rfl; omega⟩
  rw [dif_pos h]
  exact congrArg (fun n : Nat => Result.ok (Value.int .u8 (n : Int)) w) (digitsB_at v hv)
theorem digits_cut : ∀ v, v < 16 → digitsB.extract v (v + 1) = ⟨#[hexD v]⟩ := by
  intro v hv
  match v, hv with
  | 0, _ => rfl
  | 1, _ => rfl
  | 2, _ => rfl
  | 3, _ => rfl
  | 4, _ => rfl
  | 5, _ => rfl
  | 6, _ => rfl
  | 7, _ => rfl
  | 8, _ => rfl
  | 9, _ => rfl
  | 10, _ => rfl
  | 11, _ => rfl
  | 12, _ => rfl
  | 13, _ => rfl
  | 14, _ => rfl
  | 15, _ => rfl
  | n + 16, h => exact absurd h (by omega)
theorem run_digit_cut (w : World) (v v1 : Nat) (hv : v < 16) (h1 : v + 1 = v1) : (Instr.sliceAt 9 (.string digitsB) (some (.int .u8 (v : Int))) (some (.int .u8 (v1 : Int))) none).run Tryd.prog w = .ok (.string ⟨#[hexD v]⟩) w := by
  subst h1
  rw [run_sliceAt_string (h := Tryd.underlying9)]
  have hs : digitsB.size = 16 := rfl
  have h2 : ((v + 1 : Nat) : Int) ≤ 16 := by omega
  have h3 : (v : Int) ≤ ((v + 1 : Nat) : Int) := by omega
  have e : (Instr.slice 9 (.string digitsB) (some (.int .u8 (v : Int))) (some (.int .u8 ((v + 1 : Nat) : Int))) none).run Tryd.prog w = .ok (.string (digitsB.extract v (v + 1))) w := by
    simp only [Instr.slice, Sem.run_bind, run_underlying Tryd.underlying9, Result.andThen_ok, Option.isSome_none, Bool.false_eq_true, if_false, Sem.run_pure, Instr.sliceBounds]
    rw [run_sliceBound (h0 := by omega) (h1 := by rw [hs]; exact h2)]
    simp only [Result.andThen_ok, Int.toNat_natCast]
    rw [run_sliceBound (h0 := by omega) (h1 := h3)]
    simp
  rw [e, digits_cut v hv]
theorem at_index {P : Program} {w : World} {ops : Array Oper} {rest : List Oper} {d : Option Tmp} (ty : TypeId) {x y : Operand} {t : TypeId} {p : String} {af : Array Edge} {g : Option (Nat × Bool)} {a : Act} {Q : Exit → Act → World → Prop}
    (h : wpList P ops Q (⟨d, .index ty x y, t, p, af, g⟩ :: rest) a w) : wpList P ops Q (⟨d, .index ty x y, t, p, af, g⟩ :: rest) a w := h
theorem wpList_digit {w : World} {ops : Array Oper} {rest : List Oper} {o : Oper} {a : Act} {Q : Exit → Act → World → Prop} (hgd : o.guard = none) (x : Operand) (ho : o.op = .index 9 (.const (.string digitsB)) x) (k : IntKind) (v : Nat) (hx : a.eval x = .int k (v : Int)) (hv : v < 16)
    (h : wpList Tryd.prog ops Q rest (a.put o.dst (.int .u8 ((hexD v).toNat : Int))) w) : wpList Tryd.prog ops Q (o :: rest) a w := by
  refine wpList_run hgd (.int .u8 ((hexD v).toNat : Int)) ?_ h
  have e : a.eval (.const (.string digitsB)) = .string digitsB := rfl
  simp only [execOp, ho, hx, e, Sem.run_bind, run_digit w k v hv, Result.andThen_ok, Sem.run_pure]
theorem still_run {P : Program} {w : World} {ops : Array Oper} {rest : List Oper} {o : Oper} {a : Act} {Q : Act → Prop} (hgd : o.guard = none) (v : Value) (hrun : (execOp a.eval o).run P w = .ok (.value v) w) (h : wpStill P ops w Q rest (a.put o.dst v)) : wpStill P ops w Q (o :: rest) a := by
  refine wpStill_step fun K hK => ?_
  rw [if_pos (by simp [Region.wanted, hgd])]
  unfold Oper.still
  rw [hrun]
  exact ⟨rfl, hK _ h⟩
theorem still_digit {w : World} {ops : Array Oper} {rest : List Oper} {o : Oper} {a : Act} {Q : Act → Prop} (hgd : o.guard = none) (lo hi : Operand) (ho : o.op = .slice 9 (.const (.string digitsB)) (some lo) (some hi) none) (v v1 : Nat) (hlo : a.eval lo = .int .u8 (v : Int)) (hhi : a.eval hi = .int .u8 (v1 : Int)) (hv : v < 16) (h1 : v + 1 = v1)
    (h : wpStill Tryd.prog ops w Q rest (a.put o.dst (.string ⟨#[hexD v]⟩))) : wpStill Tryd.prog ops w Q (o :: rest) a := by
  refine still_run hgd (.string ⟨#[hexD v]⟩) ?_ h
  have e : a.eval (.const (.string digitsB)) = .string digitsB := rfl
  simp only [execOp, ho, hlo, hhi, e, Option.map_some, Option.map_none, Sem.run_bind, run_digit_cut w v v1 hv h1, Result.andThen_ok, Sem.run_pure]

theorem arr64_info : (Tryd.prog.info? 49).map (·.size) = some 64 := by kernel_rfl
theorem arr64_zero : (Tryd.prog.info? 49).map (·.zero) = some (some (.agg (bv (List.replicate 64 0)).toArray)) := by kernel_rfl
theorem u8_and15 (c : Nat) (h : c < 256) : bits .and .u8 (c : Int) 15 = ((c % 16 : Nat) : Int) := by
  have e : ((List.range 256).all fun c => decide (bits .and .u8 (c : Int) 15 = ((c % 16 : Nat) : Int))) = true := by kernel_rfl
  exact of_decide_eq_true (List.all_eq_true.1 e c (List.mem_range.2 h))
theorem sum_at (l : List UInt8) (hl : l.length = 32) (i : Nat) (hi : i < 32) (w : World) : (Instr.index 24 (.agg (bv l).toArray) (.int .i64 (i : Int))).run Tryd.prog w = .ok (.int .u8 ((l.getD i 0).toNat : Int)) w :=
  run_index_agg _ 5 32 _ _ i _ Tryd.underlying24 u8_plain u8_info hi (by rw [List.getElem?_toArray, bv_get (by omega)]; simp [List.getD, show i < l.length by omega])

set_option maxRecDepth 100000 in
set_option maxHeartbeats 4000000 in
set_option linter.unusedSimpArgs false in
theorem hex_any (l : List UInt8) (hl : l.length = 32) (X : Array Value) (hX : X = (bv l).toArray) (w : World) :
    Calls Tryd.prog 14 #[.agg X] w fun e w' => e = .returned (.string ⟨(hexOf l).toArray⟩) ∧ Below w.heap.size w w' := by
  have hXi : ∀ (i : Nat), i < 32 → ∀ w, (Instr.index 24 (.agg X) (.int .i64 (i : Int))).run Tryd.prog w = .ok (.int .u8 ((l.getD i 0).toNat : Int)) w := fun i hi w => by rw [hX]; exact sum_at l hl i hi w
  have hXs : X.size = 32 := by rw [hX]; simp [bv, hl]
  have HX := Lib.hid hXi
  have HXs := Lib.hid hXs
  have HX0 := Lib.hid hX
  clear hXi hXs hX
  go_enter Tryd.func14, Tryd.ntmps14
  go_wp2_with (first
    | (refine wpList_box rfl 24 (.tmp 0) rfl X rfl ?_; intro w1 hb1 hw1 hz1)
    | (refine wpList_alloc rfl 49 rfl _ arr64_zero ?_; intro w2 hb2 hw2 hz2; refine stopped ?_)
    | fail)
  refine go_on ?_
  have hx2 := hb1.below hw2 (by omega)
  have h2 : Below w.heap.size w w2 := hw1.trans (hw2.mono (by omega))
  have h3 : w.heap.size ≤ w1.heap.size := by omega
  obtain ⟨g, eg⟩ : ∃ g, w.heap.size + 1 = g := ⟨_, rfl⟩
  rw [hz1, eg] at hb2 h3
  rw [eg]
  have hb2' : Blk w2 g 49 (bv (hexL l 0)).toArray := hb2
  have H2 := Lib.hid (And.intro hb2' (And.intro h2 (And.intro h3 hx2)))
  clear hb1 hw1 hz1 hb2 hw2 hz2 eg h2 h3 hx2 hb2'
  try simp only [Act.put, List.setIfInBounds_toArray, List.set_cons_zero, List.set_cons_succ]
  go_wp2_with (first | (with_reducible refine at_load 24 ?_; refine stopped ?_) | fail)
  refine go_on ?_
  refine wpList_load_at rfl 24 (.tmp 1) rfl w.heap.size 0 rfl X _ (Blk.cells H2.out.2.2.2) Tryd.underlying24 rfl (by rw [HXs.out]; exact arr32_info) ?_
  simp only [Act.put, List.setIfInBounds_toArray, List.set_cons_zero, List.set_cons_succ]
  go_wp2_with fail
  go_loopw [7] (fun v wz => ∃ i : Nat, i ≤ 32 ∧ v = .int .i64 (i : Int) ∧ Blk wz g 49 (bv (hexL l i)).toArray ∧ w2.grownBy wz (some g)) (fun v _ => 32 - (intOf v).toNat)
  case atStart => exact ⟨0, by omega, rfl, H2.out.1, only_refl _ _⟩
  case round =>
    obtain ⟨i, hi, rfl, hblk, hgr⟩ := hrel
    have HBk := Lib.hid hblk
    have HGr := Lib.hid hgr
    clear hblk hgr
    by_cases hlt : i < 32
    · have hix := HX.out i hlt
      have hst := hexL_step l i hl hlt
      obtain ⟨c, ec⟩ : ∃ c, (l.getD i 0).toNat = c := ⟨_, rfl⟩
      have hc : c < 256 := by rw [← ec]; exact (l.getD i 0).toNat_lt
      rw [ec] at hix hst
      obtain ⟨q, eq⟩ : ∃ q, c / 16 = q := ⟨_, rfl⟩
      obtain ⟨r, er⟩ : ∃ r, c % 16 = r := ⟨_, rfl⟩
      rw [eq, er] at hst
      have hq : q < 16 := by omega
      have hr : r < 16 := by omega
      have a1 : (c : Int) / 16 = (q : Int) := by omega
      have a2 := u8_and15 c hc
      rw [er] at a2
      obtain ⟨p, ep⟩ : ∃ p, 2 * i = p := ⟨_, rfl⟩
      obtain ⟨p1, ep1⟩ : ∃ p1, p + 1 = p1 := ⟨_, rfl⟩
      rw [ep, ep1] at hst
      have a3 : (2 : Int) * (i : Int) = (p : Int) := by omega
      have a4 : (p : Int) + 1 = (p1 : Int) := by omega
      have a5 : (p : Int) < 64 := by omega
      have a6 : (p1 : Int) < 64 := by omega
      have hp64 : p < 64 := by omega
      have hp164 : p1 < 64 := by omega
      have hb1 := HBk.out.setb p (hexD q) _ rfl
      have hcp : wr.cell? ⟨g, p, none⟩ = some (.int .u8 (((hexL l i).getD p 0).toNat : Int)) := HBk.out.getb (by rw [hexL_length l i hl hi]; exact hp64)
      have hfp := HBk.out.frozen p
      obtain ⟨o1, eo1⟩ : ∃ x, ((hexL l i).getD p 0).toNat = x := ⟨_, rfl⟩
      rw [eo1] at hcp
      have HB1 := Lib.hid hb1
      have HSt := Lib.hid hst.symm
      have HL1 := Lib.hid (show ((hexL l i).set p (hexD q)).length = 64 by rw [List.length_set, hexL_length l i hl hi])
      clear hst ec eq er ep ep1 hb1 eo1
      go_wp2_with (first | (with_reducible refine at_index 9 ?_; refine stopped ?_) | fail)
      refine go_on ?_
      refine wpList_digit rfl (.tmp 14) rfl .u8 q rfl hq ?_
      simp only [Act.put, List.setIfInBounds_toArray, List.set_cons_zero, List.set_cons_succ]
      go_wp2_with (first | (with_reducible refine at_index 9 ?_; refine stopped ?_) | fail)
      refine go_on ?_
      obtain ⟨w3, ew3⟩ : ∃ x, wr.setCell ⟨g, p, none⟩ (.int .u8 ((hexD q).toNat : Int)) = x := ⟨_, rfl⟩
      have hg3 : w2.grownBy w3 (some g) := by rw [← ew3]; exact only_setCell HGr.out (.inl rfl) _
      have hb3 := HB1.out
      rw [ew3] at hb3 ⊢
      have hcp1 : w3.cell? ⟨g, p1, none⟩ = some (.int .u8 ((((hexL l i).set p (hexD q)).getD p1 0).toNat : Int)) := hb3.getb (by rw [HL1.out]; exact hp164)
      have hfp1 := hb3.frozen p1
      have hb4 := hb3.setb p1 (hexD r) _ rfl
      obtain ⟨o2, eo2⟩ : ∃ x, (((hexL l i).set p (hexD q)).getD p1 0).toNat = x := ⟨_, rfl⟩
      rw [eo2] at hcp1
      have HB4 := Lib.hid (And.intro hb4 hg3)
      clear hb3 hb4 hg3 ew3 eo2 hcp hfp
      refine wpList_digit rfl (.tmp 21) rfl .u8 r rfl hr ?_
      simp only [Act.put, List.setIfInBounds_toArray, List.set_cons_zero, List.set_cons_succ]
      go_wp2_with fail
      go_roundw
      case rel => exact ⟨i + 1, by omega, by go_num, by rw [HSt.out]; exact HB4.out.1, only_setCell HB4.out.2 (.inl rfl) _⟩
      case measure => simp [intOf]; omega
    · obtain rfl : i = 32 := by omega
      have hend : Blk wr g 49 (bv (hexOf l)).toArray := by rw [← hexL_end l hl]; exact HBk.out
      have h64 : (hexOf l).length = 64 := by rw [hexOf_length, hl]
      have hbs : Bs wr (g + 1) (some ⟨g, 0, none⟩) (hexOf l) := fun _ => ⟨g, 0, rfl, Nat.lt_succ_self _, fun j hj => by rw [Nat.zero_add, hend.cell, List.getElem?_toArray]; exact bv_get hj⟩
      have hcv := hbs.str Tryd.underlying22 Tryd.underlying5 64 (P := Tryd.prog) 9 Tryd.underlying9
      rw [h64] at hcv
      obtain ⟨R, eR⟩ : ∃ R, (hexOf l).toArray = R := ⟨_, rfl⟩
      rw [eR] at hcv
      clear hend hbs h64 HX
      go_wp2_with fail
      go_ret
      exact ⟨by rw [eR]; rfl, H2.out.2.1.trans (only_below HGr.out H2.out.2.1.size (fun g' e => by cases e; exact H2.out.2.2.1))⟩
end Go.Proofs.YtjhkoepcolpclaaDoor
