/-
  Package sha's New, Len and Copy, by their contracts; a Hash in memory. Conditions: the tables read as the program's text lays them; each theorem's own premises.
-/
import Derived.Test.YtjhkoepcolpclaaDoorShaProc
import Derived.BigQuiet
namespace Go.Proofs.YtjhkoepcolpclaaDoor
open Go.RowKit

/-- a Hash's cells: eight words, a block, how many bytes -/
def HV (ws : List Nat) (blk : List UInt8) (n : Nat) : List Value := wv ws ++ (bv blk ++ [.int .i64 (n : Int)])
theorem HV_length (ws : List Nat) (blk : List UInt8) (n : Nat) (h8 : ws.length = 8) (h64 : blk.length = 64) : (HV ws blk n).length = 73 := by simp [HV, wv_length, bv_length, h8, h64]
theorem HV_one (ws : List Nat) (blk : List UInt8) (n : Nat) : ∀ u ∈ HV ws blk n, u.oneCell' = true := by
  intro u hu
  simp only [HV, List.mem_append, List.mem_singleton] at hu
  rcases hu with hu | hu | rfl
  · exact wv_one _ u hu
  · exact bv_one _ u hu
  · rfl
theorem HV_n (ws : List Nat) (blk : List UInt8) (n : Nat) (h8 : ws.length = 8) (h64 : blk.length = 64) : (HV ws blk n)[72]? = some (.int .i64 (n : Int)) := by
  unfold HV
  rw [List.getElem?_append_right (by rw [wv_length, h8]; decide), wv_length, h8, List.getElem?_append_right (by rw [bv_length, h64]; decide), bv_length, h64]
  rfl
theorem HV_set (ws : List Nat) (blk : List UInt8) (n m : Nat) (h8 : ws.length = 8) (h64 : blk.length = 64) : (HV ws blk n).set 72 (.int .i64 (m : Int)) = HV ws blk m := by
  unfold HV
  rw [List.set_append, if_neg (by rw [wv_length, h8]; decide), wv_length, h8, List.set_append, if_neg (by rw [bv_length, h64]; decide), bv_length, h64]
  rfl
theorem HV_ws (ws : List Nat) (blk : List UInt8) (n : Nat) : ((HV ws blk n).drop 0).take (wv ws).length = wv ws := by simp [HV]
theorem HV_blk (ws : List Nat) (blk : List UInt8) (n : Nat) (h8 : ws.length = 8) : ((HV ws blk n).drop 8).take (bv blk).length = bv blk := by
  unfold HV
  rw [List.drop_append, wv_length, h8, List.drop_eq_nil_of_le (by rw [wv_length, h8]; decide)]
  simp
theorem HV_splice_ws (ws ws' : List Nat) (blk : List UInt8) (n : Nat) (h8 : ws.length = 8) (h8' : ws'.length = 8) : splice (HV ws blk n) 0 (wv ws') = HV ws' blk n := by
  unfold splice HV
  rw [Nat.zero_add, wv_length, h8', List.drop_append, wv_length, h8, List.drop_eq_nil_of_le (by rw [wv_length, h8]; decide)]
  simp
theorem HV_splice_blk (ws : List Nat) (blk cs : List UInt8) (n o : Nat) (h8 : ws.length = 8) (h64 : o + cs.length ≤ blk.length) : splice (HV ws blk n) (8 + o) (bv cs) = HV ws (splice blk o cs) n := by
  unfold splice HV
  rw [List.take_append, wv_length, h8, List.take_of_length_le (by rw [wv_length, h8]; omega), show 8 + o - 8 = o by omega, List.take_append_of_le_length (by rw [bv_length]; omega),
    List.drop_append, wv_length, h8, List.drop_eq_nil_of_le (by rw [wv_length, h8]; omega), show 8 + o + (bv cs).length - 8 = o + cs.length by rw [bv_length]; omega, List.drop_append_of_le_length (by rw [bv_length]; omega)]
  simp [bv, List.map_take, List.map_drop]

/-- g is a Hash that has received l -/
def Has (w : World) (g : Nat) (l : List UInt8) : Prop := ∃ blk : List UInt8, Blk w g 53 (HV (shaH.take (l.length / 64) l).list blk l.length).toArray ∧ blk.length = 64 ∧ blk.take (l.length % 64) = l.drop (64 * (l.length / 64))
theorem Has.below {w w' : World} {g B : Nat} {l : List UInt8} (h : Has w g l) (hb : Below B w w') (hg : g < B) : Has w' g l := let ⟨blk, h1, h2, h3⟩ := h; ⟨blk, h1.below hb hg, h2, h3⟩
theorem Has.grown {w w' : World} {g : Nat} {l : List UInt8} {row : Option Nat} (h : Has w g l) (hb : w.grownBy w' row) (hg : some g ≠ row) : Has w' g l := let ⟨blk, h1, h2, h3⟩ := h; ⟨blk, h1.grown hb hg, h2, h3⟩
theorem Has.drewN {w : World} {g : Nat} {l : List UInt8} (h : Has w g l) (n : Nat) : Has (w.drewN n) g l := h
theorem Has.lt {w : World} {g : Nat} {l : List UInt8} (h : Has w g l) : g < w.heap.size := let ⟨_, h1, _, _⟩ := h; h1.lt

theorem hash_info : (Tryd.prog.info? 53).map (·.size) = some 73 := by kernel_rfl
theorem hash_zero : (Tryd.prog.info? 53).map (·.zero) = some (some (.agg (HV (List.replicate 8 0) (List.replicate 64 0) 0).toArray)) := by kernel_rfl
theorem hash_built : Tryd.prog.built 53 [(0, .agg (wv shaH.list).toArray)] = some (HV shaH.list (List.replicate 64 0) 0).toArray := by kernel_rfl
theorem hash_new (a : Act) (h : a.eval (.tmp 1) = .agg (wv shaH.list).toArray) : Tryd.prog.built 53 ((#[(0, Operand.tmp 1)] : Array (Nat × Operand)).map fun (i, x) => (i, a.eval x)).toList = some (HV shaH.list (List.replicate 64 0) 0).toArray := by
  have e : ((#[(0, Operand.tmp 1)] : Array (Nat × Operand)).map fun (i, x) => (i, a.eval x)).toList = [(0, .agg (wv shaH.list).toArray)] := by simp [h]
  rw [e]
  exact hash_built

theorem wpList_run {P : Program} {w w' : World} {ops : Array Oper} {rest : List Oper} {o : Oper} {a : Act} {Q : Exit → Act → World → Prop} (hgd : o.guard = none) (v : Value) (hrun : (execOp a.eval o).run P w = .ok (.value v) w')
    (h : wpList P ops Q rest (a.put o.dst v) w') : wpList P ops Q (o :: rest) a w := by
  refine wpList_plain hgd fun _ hK => ?_
  unfold Oper.wp
  rw [hrun]
  exact hK _ _ h
theorem at_list {P : Program} {w : World} {ops : Array Oper} {rest : List Oper} {o : Oper} {a : Act} {Q : Exit → Act → World → Prop} (h : wpList P ops Q (o :: rest) a w) : wpList P ops Q (o :: rest) a w := h

theorem at_load {P : Program} {w : World} {ops : Array Oper} {rest : List Oper} {d : Option Tmp} (ty : TypeId) {x : Operand} {t : TypeId} {p : String} {af : Array Edge} {g : Option (Nat × Bool)} {a : Act} {Q : Exit → Act → World → Prop}
    (h : wpList P ops Q (⟨d, .load ty x, t, p, af, g⟩ :: rest) a w) : wpList P ops Q (⟨d, .load ty x, t, p, af, g⟩ :: rest) a w := h

set_option maxRecDepth 100000 in
theorem new_any (w : World) (ht : Tabs w) :
    Calls Tryd.prog 16 #[] w fun e w' => e = .returned (.pointer (some ⟨w.heap.size, 0, none⟩)) ∧ Has w' w.heap.size [] ∧ Below w.heap.size w w' := by
  go_enter Tryd.func16, Tryd.ntmps16
  go_wp2_with (first | (with_reducible refine at_list ?_; refine stopped ?_) | fail)
  refine go_on ?_
  refine wpList_load_at rfl 50 (.global 0) rfl 0 0 rfl (wv shaH.list).toArray _ ht.2 Tryd.underlying50 rfl words_info ?_
  refine wpList_build_is rfl 53 _ rfl (HV shaH.list (List.replicate 64 0) 0).toArray (hash_new _ rfl) ?_
  refine wpList_box rfl 53 (.tmp 2) rfl _ rfl ?_
  intro w1 hb1 hw1 hz1
  simp only [Act.put, List.setIfInBounds_toArray, List.set_cons_zero, List.set_cons_succ]
  go_wp2_with fail
  go_ret
  exact ⟨rfl, ⟨_, hb1, rfl, rfl⟩, hw1⟩

theorem len_any (g : Nat) (l : List UInt8) (w : World) (h : Has w g l) :
    Calls Tryd.prog 18 #[.pointer (some ⟨g, 0, none⟩)] w fun e w' => e = .returned (.int .i64 (l.length : Int)) ∧ w = w' := by
  obtain ⟨blk, hb, h64, _⟩ := h
  have hc : w.cell? ⟨g, 72, none⟩ = some (.int .i64 (l.length : Int)) := by rw [hb.cell, List.getElem?_toArray]; exact HV_n _ _ _ (St.list_length _) h64
  obtain ⟨n, en⟩ : ∃ n, l.length = n := ⟨_, rfl⟩
  rw [en] at hc ⊢
  clear hb h64
  go_enter Tryd.func18, Tryd.ntmps18
  go_wp2_with fail
  go_ret
  exact ⟨rfl, rfl⟩

set_option maxRecDepth 100000 in
theorem copy_any (g : Nat) (l : List UInt8) (w : World) (h : Has w g l) :
    Calls Tryd.prog 20 #[.pointer (some ⟨g, 0, none⟩)] w fun e w' => e = .returned (.pointer (some ⟨w.heap.size, 0, none⟩)) ∧ Has w' w.heap.size l ∧ Below w.heap.size w w' := by
  obtain ⟨blk, hb, h64, hrest⟩ := h
  obtain ⟨L, eL⟩ : ∃ L, HV (shaH.take (l.length / 64) l).list blk l.length = L := ⟨_, rfl⟩
  have hL : L.length = 73 := by rw [← eL]; exact HV_length _ _ _ (St.list_length _) h64
  have hL1 : ∀ u ∈ L, u.oneCell' = true := by rw [← eL]; exact HV_one _ _ _
  rw [eL] at hb
  have HB := Lib.hid (And.intro hb (And.intro hL hL1))
  clear hb hL hL1
  go_enter Tryd.func20, Tryd.ntmps20
  go_wp2_with (first | (with_reducible refine at_load 53 ?_; refine stopped ?_) | fail)
  refine go_on ?_
  refine wpList_load_at rfl 53 (.tmp 5) rfl g 0 rfl L.toArray _ (Blk.cells HB.out.1) Tryd.underlying53 rfl (by rw [List.size_toArray, HB.out.2.1]; exact hash_info) ?_
  refine wpList_alloc rfl 53 rfl _ hash_zero ?_
  intro w1 hb1 hw1 hz1
  refine wpList_store_whole rfl 53 (.tmp 3) (.tmp 6) rfl w.heap.size L rfl rfl 53 (HV (List.replicate 8 0) (List.replicate 64 0) 0) hb1 (by rw [HB.out.2.1]; exact hash_info) (by rw [HB.out.2.1]; rfl) HB.out.2.2 ?_
  intro w2 hb2 hg2
  simp only [Act.put, List.setIfInBounds_toArray, List.set_cons_zero, List.set_cons_succ]
  go_wp2_with fail
  go_ret
  exact ⟨rfl, ⟨blk, by rw [eL]; exact hb2, h64, hrest⟩, hw1.trans (only_below hg2 (by omega) (fun g e => by cases e; omega))⟩
end Go.Proofs.YtjhkoepcolpclaaDoor
