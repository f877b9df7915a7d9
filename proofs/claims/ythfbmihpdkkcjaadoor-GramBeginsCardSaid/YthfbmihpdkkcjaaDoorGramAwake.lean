/-
  The law's awake, by the package's contracts. Conditions: each theorem's own premises.
-/
import Derived.Test.YthfbmihpdkkcjaaDoorGramMatch
import Derived.Test.YthfbmihpdkkcjaaDoorGramEx
import Derived.Test.YthfbmihpdkkcjaaDoorFText
import Derived.Lib.SlBytesConst
namespace Go.Proofs.YthfbmihpdkkcjaaDoor
open Go.RowKit

theorem sg_size : (Tryd.prog.info? 42).map (·.size) = some 3 := by kernel_rfl
theorem wpList_load_gw {P : Program} {w : World} {ops : Array Oper} {rest : List Oper} {o : Oper} {a : Act} {Q : Exit → Act → World → Prop} (hgw : Region.wanted o (yielded ops a.tmps) = true) (ty : TypeId) (x : Operand) (ho : o.op = .load ty x)
    (g off : Nat) (hx : a.eval x = .pointer (some ⟨g, off, none⟩)) (cs : Array Value) (d : TypeDesc) (hc : Cells w g off cs)
    (hu : P.underlying ty = some d) (hd : agg? d = true) (hi : (P.info? ty).map (·.size) = some cs.size)
    (h : wpList P ops Q rest (a.put o.dst (.agg cs)) w) : wpList P ops Q (o :: rest) a w := by
  refine wpList_step fun K hK => ?_
  rw [if_pos hgw]
  unfold Oper.wp execOp
  simp only [ho, hx, Instr.loadAt, Instr.sureAddr, Sem.run_bind, Sem.run_pure, Result.andThen_ok, run_loadVar_at g off ty cs d hc hu hd hi]
  exact hK _ _ h
theorem aw_txt : textL [(91, 0)] = [57, 49, 64, 48] := by
  simp only [textL, textOne, List.flatMap_nil]
  rw [show ((91 : Int)).toNat = 91 from rfl, show ((0 : Int)).toNat = 0 from rfl, Lib.decDigits_two (i := 91) (by decide) (by decide), Lib.decDigits_one (i := 0) (by decide)]
  rfl
theorem aw_small : SmallL [(91, 0)] := by
  intro p hp
  simp only [List.mem_singleton] at hp
  subst hp
  exact ⟨91, 0, rfl, by decide, by decide⟩
theorem gm_bs (w : World) (t : TypeId) (fr : Nat × Nat) (l : List UInt8) : Bs (w.alloc (.cells (bv l).toArray t fr)) (w.alloc (.cells (bv l).toArray t fr)).heap.size (some ⟨w.heap.size, 0, none⟩) l := fun _ =>
  ⟨w.heap.size, 0, rfl, by simp, fun j hj => by
    rw [Nat.zero_add, Lib.cell_of_heap (heap_alloc_new w _)]
    rw [List.getElem?_toArray]
    exact bv_get hj⟩
/-- a grammar just made: two forms of name 0, one of two signs, one of none -/
theorem gmNew (w : World) (p q : Sg) (hp : SgOk p) (hq : SgOk q) {W : World} (eW : ((w.alloc (.cells (svs [p, q]).toArray 42)).alloc (.cells #[.int .i64 0, .slice (some ⟨w.heap.size, 0, none⟩) 2 2, .int .i64 0, .slice none 0 0] 46)).alloc (.cells #[.int .i64 1, .slice (some ⟨w.heap.size + 1, 0, none⟩) 2 2] 25) = W) :
    GmAt W W.heap.size (some ⟨w.heap.size + 1, 0, none⟩) [⟨⟨0, [p, q]⟩, some ⟨w.heap.size, 0, none⟩, 2⟩, ⟨gE, none, 0⟩] ⟨1, [⟨0, [p, q]⟩, gE]⟩ ∧
    Blk W (w.heap.size + 1 + 1) 25 #[.int .i64 1, .slice (some ⟨w.heap.size + 1, 0, none⟩) 2 2] ∧ Below w.heap.size w W ∧ W.heap.size = w.heap.size + 1 + 1 + 1 := by
  have b1 := ((Blk.new w 42 (svs [p, q]).toArray).alloc (.cells #[.int .i64 0, .slice (some ⟨w.heap.size, 0, none⟩) 2 2, .int .i64 0, .slice none 0 0] 46)).alloc (.cells #[.int .i64 1, .slice (some ⟨w.heap.size + 1, 0, none⟩) 2 2] 25)
  have b2 := (Blk.new (w.alloc (.cells (svs [p, q]).toArray 42)) 46 #[.int .i64 0, .slice (some ⟨w.heap.size, 0, none⟩) 2 2, .int .i64 0, .slice none 0 0]).alloc (.cells #[.int .i64 1, .slice (some ⟨w.heap.size + 1, 0, none⟩) 2 2] 25)
  have b3 := Blk.new ((w.alloc (.cells (svs [p, q]).toArray 42)).alloc (.cells #[.int .i64 0, .slice (some ⟨w.heap.size, 0, none⟩) 2 2, .int .i64 0, .slice none 0 0] 46)) 25 #[.int .i64 1, .slice (some ⟨w.heap.size + 1, 0, none⟩) 2 2]
  have hz : W.heap.size = w.heap.size + 1 + 1 + 1 := by rw [← eW]; simp
  have hb : Below w.heap.size w W := by
    rw [← eW]
    exact (((Below.refl w.heap.size w).alloc (Nat.le_refl _) _).alloc (by simp) _).alloc (by simp <;> omega) _
  rw [eW] at b1 b2 b3
  have e1 : (w.alloc (.cells (svs [p, q]).toArray 42)).heap.size = w.heap.size + 1 := by simp
  have e2 : ((w.alloc (.cells (svs [p, q]).toArray 42)).alloc (.cells #[.int .i64 0, .slice (some ⟨w.heap.size, 0, none⟩) 2 2, .int .i64 0, .slice none 0 0] 46)).heap.size = w.heap.size + 1 + 1 := by simp
  rw [e1] at b2
  rw [e2] at b3
  refine ⟨⟨rfl, vs_of_blk b2 (by omega), fun x hx => ?_, show (-9223372036854775808 : Int) ≤ 1 by decide, show (1 : Int) ≤ 9223372036854775807 by decide⟩, b3, hb, hz⟩
  simp only [List.mem_cons, List.not_mem_nil, or_false] at hx
  rcases hx with rfl | rfl
  · refine ⟨vs_of_blk b1 (by omega), Nat.le_refl _, ⟨show (-9223372036854775808 : Int) ≤ 0 by decide, show (0 : Int) ≤ 9223372036854775807 by decide⟩, fun s hs => ?_⟩
    simp only [List.mem_cons, List.not_mem_nil, or_false] at hs
    rcases hs with rfl | rfl
    · exact hp
    · exact hq
  · exact ⟨Vs.nil_, Nat.le_refl _, ⟨show (-9223372036854775808 : Int) ≤ 0 by decide, show (0 : Int) ≤ 9223372036854775807 by decide⟩, fun s hs => by cases hs⟩
theorem sA_ok : SgOk sA := ⟨⟨by decide, by decide⟩, by decide, by decide⟩
theorem s0_ok : SgOk s0 := ⟨⟨by decide, by decide⟩, by decide, by decide⟩
theorem gA_small : SmallG gA := ⟨by decide, fun f hf => by rcases gA_mem hf with rfl | rfl <;> decide⟩
theorem gB_small : SmallG gB := ⟨by decide, fun f hf => by rcases gB_mem hf with rfl | rfl <;> decide⟩
set_option maxRecDepth 100000 in
set_option linter.unusedSimpArgs false in
theorem gmByte (c : Nat) (w : World) : Calls Tryd.prog 14 #[.int .u8 (c : Int)] w fun e w' => e = .returned (.agg #[.int .i64 (-1), .int .u8 (c : Int), .int .u8 (c : Int)]) ∧ Below w.heap.size w w' := by
  go_enter Tryd.func14, Tryd.ntmps14
  go_wp2_with fail
  exact bodyPost_row rfl w.heap.size rfl 42 _ _ (Blk.new w 42 #[.int .i64 (-1), .int .u8 (c : Int), .int .u8 (c : Int)]) Tryd.underlying42 rfl sg_size rfl ⟨rfl, below_alloc w _⟩

set_option maxRecDepth 100000 in
set_option maxHeartbeats 4000000 in
set_option linter.unusedSimpArgs false in
theorem gmAwake (w : World) (hG : HasErr w) : Calls Tryd.prog 6 #[] w (GSays w (.bool true)) := by
  have HG := Lib.hid hG
  clear hG
  have kc := fun (w : World) (C : Array Value) (n c : Nat) => Lib.run_convert_bytes_const (P := Tryd.prog) w 26 5 C n c Tryd.underlying26 Tryd.underlying5
  go_enter Tryd.func6, Tryd.ntmps6
  go_wp2_with fail
  refine (gmByte 97 w).mono ?_
  rintro e w1 ⟨rfl, hb1⟩
  have H1 := Lib.hid hb1
  clear hb1
  go_wp2_with fail
  obtain ⟨W1, eW1⟩ : ∃ W, ((w1.alloc (.cells #[.int .i64 (-1), .int .u8 97, .int .u8 97, .int .i64 0, .int .u8 0, .int .u8 0] 42)).alloc (.cells #[.int .i64 0, .slice (some ⟨w1.heap.size, 0, none⟩) 2 2, .int .i64 0, .slice none 0 0] 46)).alloc (.cells #[.int .i64 1, .slice (some ⟨w1.heap.size + 1, 0, none⟩) 2 2] 25) = W := ⟨_, rfl⟩
  rw [eW1]
  have K1 := gmNew w1 sA s0 sA_ok s0_ok eW1
  have q1 := H1.out.trans (K1.2.2.1.mono H1.out.size)
  obtain ⟨x1, ex1⟩ : ∃ x, w1.heap.size + 1 = x := ⟨_, rfl⟩
  rw [ex1] at K1 ⊢
  obtain ⟨g1, eg1⟩ : ∃ x, x1 + 1 = x := ⟨_, rfl⟩
  rw [eg1] at K1 ⊢
  have J1 := Lib.hid (And.intro K1.1 (And.intro K1.2.1 q1))
  clear K1 q1 eW1 eg1
  refine (gmByte 97 W1).mono ?_
  rintro e w2 ⟨rfl, hb2⟩
  have H2 := Lib.hid hb2
  clear hb2
  go_wp2_with (first | (with_reducible refine st_load 25 ?_; refine stopped ?_) | fail)
  obtain ⟨W2, eW2⟩ : ∃ W, ((w2.alloc (.cells #[.int .i64 0, .int .u8 0, .int .u8 0, .int .i64 (-1), .int .u8 97, .int .u8 97] 42)).alloc (.cells #[.int .i64 0, .slice (some ⟨w2.heap.size, 0, none⟩) 2 2, .int .i64 0, .slice none 0 0] 46)).alloc (.cells #[.int .i64 1, .slice (some ⟨w2.heap.size + 1, 0, none⟩) 2 2] 25) = W := ⟨_, rfl⟩
  rw [eW2]
  have K2 := gmNew w2 s0 sA s0_ok sA_ok eW2
  have p2 := H2.out.trans (K2.2.2.1.mono H2.out.size)
  have q2 := J1.out.2.2.trans (p2.mono J1.out.2.2.size)
  obtain ⟨x2, ex2⟩ : ∃ x, w2.heap.size + 1 = x := ⟨_, rfl⟩
  rw [ex2] at K2 ⊢
  obtain ⟨g2, eg2⟩ : ∃ x, x2 + 1 = x := ⟨_, rfl⟩
  rw [eg2] at K2 ⊢
  have J2 := Lib.hid (And.intro K2.1 (And.intro K2.2.1 (And.intro q2 (And.intro ((J1.out.1.below p2).more p2.size) (J1.out.2.1.below p2 J1.out.2.1.lt)))))
  clear K2 q2 p2 eW2 eg2
  refine go_on ?_
  refine wpList_load_at rfl 25 (.tmp 1) rfl g1 0 rfl #[.int .i64 1, .slice (some ⟨x1, 0, none⟩) 2 2] _ (Blk.cells J2.out.2.2.2.2) Tryd.underlying25 rfl gram_size ?_
  simp only [Act.put, List.setIfInBounds_toArray, List.set_cons_zero, List.set_cons_succ]
  go_wp2_with (first | (go_at_call 11; refine stopped ?_) | fail)
  refine go_on ?_
  have y2 := below_alloc W2 (.cells (bv [97, 97, 97]).toArray 5 (3, 4))
  have z2 := J2.out.2.2.1.trans (y2.mono J2.out.2.2.1.size)
  have m3 := gmMatch (W2.alloc (.cells (bv [97, 97, 97]).toArray 5 (3, 4))) gA _ _ 2 2 ((J2.out.2.2.2.1.below y2).more y2.size) rfl (Nat.le_refl _) gA_small (HG.out.below z2) (some ⟨W2.heap.size, 0, none⟩) [97, 97, 97] 3 3 (gm_bs W2 5 (3, 4) [97, 97, 97]) rfl (Nat.le_refl _) (by decide)
  refine m3.mono ?_
  rintro e w3 ⟨r, q, rfl, hrq, hb3⟩
  obtain ⟨rfl, rfl⟩ : r = 1 ∧ q = 0 := by
    rcases hrq with ⟨_, h2, h3⟩ | ⟨h1, _, _⟩
    · exact ⟨gA_aaa h3, h2⟩
    · exact absurd gA_fit h1
  have y3 := y2.trans (hb3.mono y2.size)
  have z3 := z2.trans (hb3.mono z2.size)
  have J3 := Lib.hid (And.intro z3 (And.intro ((J2.out.2.2.2.1.below y3).more y3.size) (And.intro (J2.out.2.2.2.2.below y3 J2.out.2.2.2.2.lt) (And.intro ((J2.out.1.below y3).more y3.size) (J2.out.2.1.below y3 J2.out.2.1.lt)))))
  clear hrq hb3 y2 y3 z2 z3 m3
  go_wp2_with (first | (with_reducible refine st_load 25 ?_; refine stopped ?_) | fail)
  refine go_on ?_
  refine wpList_load_at rfl 25 (.tmp 1) rfl g1 0 rfl #[.int .i64 1, .slice (some ⟨x1, 0, none⟩) 2 2] _ (Blk.cells J3.out.2.2.1) Tryd.underlying25 rfl gram_size ?_
  simp only [Act.put, List.setIfInBounds_toArray, List.set_cons_zero, List.set_cons_succ]
  go_wp2_with (first | (go_at_call 11; refine stopped ?_) | fail)
  refine go_on ?_
  have y3 := below_alloc w3 (.cells (bv [97, 97, 98]).toArray 5 (3, 4))
  have z3 := J3.out.1.trans (y3.mono J3.out.1.size)
  have m4 := gmMatch (w3.alloc (.cells (bv [97, 97, 98]).toArray 5 (3, 4))) gA _ _ 2 2 ((J3.out.2.1.below y3).more y3.size) rfl (Nat.le_refl _) gA_small (HG.out.below z3) (some ⟨w3.heap.size, 0, none⟩) [97, 97, 98] 3 3 (gm_bs w3 5 (3, 4) [97, 97, 98]) rfl (Nat.le_refl _) (by decide)
  refine m4.mono ?_
  rintro e w4 ⟨r, q, rfl, hrq, hb4⟩
  obtain ⟨rfl, rfl⟩ : r = 0 ∧ q = 0 := by
    rcases hrq with ⟨_, h2, h3⟩ | ⟨h1, _, _⟩
    · exact ⟨gA_aab h3, h2⟩
    · exact absurd gA_fit h1
  have y4 := y3.trans (hb4.mono y3.size)
  have z4 := z3.trans (hb4.mono z3.size)
  have J4 := Lib.hid (And.intro z4 (And.intro ((J3.out.2.1.below y4).more y4.size) (And.intro (J3.out.2.2.1.below y4 J3.out.2.2.1.lt) (And.intro ((J3.out.2.2.2.1.below y4).more y4.size) (J3.out.2.2.2.2.below y4 J3.out.2.2.2.2.lt)))))
  clear hrq hb4 y3 y4 z3 z4 m4
  go_wp2_with (first | (with_reducible refine st_load 25 ?_; refine stopped ?_) | fail)
  refine go_on ?_
  refine wpList_load_at rfl 25 (.tmp 1) rfl g1 0 rfl #[.int .i64 1, .slice (some ⟨x1, 0, none⟩) 2 2] _ (Blk.cells J4.out.2.2.1) Tryd.underlying25 rfl gram_size ?_
  simp only [Act.put, List.setIfInBounds_toArray, List.set_cons_zero, List.set_cons_succ]
  go_wp2_with (first | (go_at_call 8; refine stopped ?_) | fail)
  refine go_on ?_
  have m5 := gmCheck w4 gA _ _ 2 2 J4.out.2.1 rfl (Nat.le_refl _) gA_small (HG.out.below J4.out.1)
  refine m5.mono ?_
  rintro e w5 ⟨r, v, rfl, hr, hc, hb5⟩
  rw [checkIs_zero hr gA_fit] at hc
  obtain rfl : v = .nilIface := hc
  have z5 := J4.out.1.trans (hb5.mono J4.out.1.size)
  have J5 := Lib.hid (And.intro z5 (And.intro ((J4.out.2.2.2.1.below hb5).more hb5.size) (J4.out.2.2.2.2.below hb5 J4.out.2.2.2.2.lt)))
  clear hr hb5 z5 m5
  go_wp2_with (first | (with_reducible refine st_load 25 ?_; refine stopped ?_) | fail)
  refine go_on ?_
  refine wpList_load_gw (by first | rfl | simp [Region.wanted, yielded]) 25 (.tmp 2) rfl g2 0 rfl #[.int .i64 1, .slice (some ⟨x2, 0, none⟩) 2 2] _ (Blk.cells J5.out.2.2) Tryd.underlying25 rfl gram_size ?_
  simp only [Act.put, List.setIfInBounds_toArray, List.set_cons_zero, List.set_cons_succ]
  go_wp2_with (first | (go_at_call 8; refine stopped ?_) | fail)
  refine go_on ?_
  have m6 := gmCheck w5 gB _ _ 2 2 J5.out.2.1 rfl (Nat.le_refl _) gB_small (HG.out.below J5.out.1)
  refine m6.mono ?_
  rintro e w6 ⟨r, v, rfl, hr, hc, hb6⟩
  have hc : Chain w6 v [(91, 0)] := by rw [gB_check hr] at hc; exact hc
  have z6 := J5.out.1.trans (hb6.mono J5.out.1.size)
  have J6 := Lib.hid (And.intro z6 hc)
  clear hr hb6 z6 m6 hc
  go_wp2_with fail
  refine (fText J6.out.2 (HG.out.below J6.out.1) (by decide) aw_small).mono ?_
  rintro e w7 ⟨rfl, hb7⟩
  rw [aw_txt]
  have J7 := Lib.hid (J6.out.1.trans (hb7.mono J6.out.1.size))
  clear hb7
  go_wp2_with fail
  go_ret
  exact ⟨rfl, J7.out⟩

set_option maxRecDepth 100000 in
set_option linter.unusedSimpArgs false in
theorem gramNumbers_calls (w : World) (hG : HasErr w) : Calls Tryd.prog 3 #[] w fun e w' => e = .returned (.bool true) ∧ Below w.heap.size w w' := by
  go_enter Tryd.func3, Tryd.ntmps3
  go_wp2_with fail
  refine (gmAwake w hG).mono ?_
  rintro e w1 ⟨rfl, hb1⟩
  go_wp2_with fail
  go_ret
  exact ⟨rfl, hb1⟩
end Go.Proofs.YthfbmihpdkkcjaaDoor
