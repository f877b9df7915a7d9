/-
  A machine in a variable, with words of the call's own; package pvm's trap and wellFormed, by their contracts. Conditions: each theorem's own premises.
-/
import Derived.Test.YthgiehlfmdobkaaDoorPvmFnB
import Derived.Test.YthgiehlfmdobkaaDoorCodeFnC
namespace Go.Proofs.YthgiehlfmdobkaaDoor
open Go.RowKit

/-- a machine in block g, its words the call's own -/
structure MV (B : Nat) (w : World) (g : Nat) (M : Mach) (A : Option Addr) (n c : Nat) : Prop where
  lo : B ≤ g
  len : M.mem.length = n
  cap : n ≤ c
  blk : Blk w g 27 (mcells M A n c).toArray
  row : w.ownsRow B 2 1 (.slice A n c) n (zv M.mem)
  ok : MOk M
/-- what a step may write -/
def FF (g : Nat) (A : Option Addr) (k : Nat) : Prop := k = g ∨ (Value.slice A 0 0).ownBlock = some k
theorem own_any (A : Option Addr) (n c m d : Nat) : (Value.slice A n c).ownBlock = (Value.slice A m d).ownBlock := by cases A <;> rfl
section
variable {B : Nat} {w w' : World} {g : Nat} {M M' : Mach} {A : Option Addr} {n c : Nat}
theorem MV.ne (h : MV B w g M A n c) : (Value.slice A n c).ownBlock ≠ some g := row_apart h.row h.blk (by decide)
theorem MV.lt (h : MV B w g M A n c) : g < w.heap.size := h.blk.lt
theorem MV.fb (h : MV B w g M A n c) : ∀ k, FF g A k → B ≤ k := fun k hk => by
  rcases hk with rfl | hk
  · exact h.lo
  · exact (World.ownsRow.lt h.row k ((own_any A n c 0 0).trans hk)).1
theorem MV.fl (h : MV B w g M A n c) : ∀ k, FF g A k → k < w.heap.size := fun k hk => by
  rcases hk with rfl | hk
  · exact h.lt
  · exact (World.ownsRow.lt h.row k ((own_any A n c 0 0).trans hk)).2
theorem MV.below (h : MV B w g M A n c) (hb : Below w.heap.size w w') : MV B w' g M A n c := ⟨h.lo, h.len, h.cap, h.blk.below hb h.lt, row_below h.row hb, h.ok⟩
theorem MV.keep {F : Nat → Prop} (h : MV B w g M A n c) (hk : Kept F w w') (hF : ∀ k, FF g A k → ¬ F k) : MV B w' g M A n c :=
  ⟨h.lo, h.len, h.cap, hk.blk h.blk (hF g (.inl rfl)), row_keep h.row hk (fun k e => hF k (.inr ((own_any A 0 0 n c).trans e))), h.ok⟩
theorem MV.drewN (h : MV B w g M A n c) (k : Nat) : MV B (w.drewN k) g M A n c := ⟨h.lo, h.len, h.cap, h.blk.drewN k, h.row, h.ok⟩
theorem MV.grown {k : Nat} (h : MV B w g M A n c) (hg : w.grownBy w' (some k)) (hk : ¬ FF g A k) : MV B w' g M A n c :=
  h.keep (F := fun j => j = k) (Kept.of_grown hg (fun j e => by cases e; exact .inl rfl)) (fun j hj e => hk (e ▸ hj))
theorem MV.set (h : MV B w g M A n c) (i : Nat) (u : Value) (he : (mcells M A n c).toArray.setIfInBounds i u = (mcells M' A n c).toArray) (hm : M'.mem = M.mem) (hok : MOk M') : MV B (w.setCell ⟨g, i, none⟩ u) g M' A n c :=
  ⟨h.lo, by rw [hm]; exact h.len, h.cap, by have := h.blk.set_ i u; rwa [he] at this, by
    rw [hm]
    exact row_keep (F := fun k => k = g) h.row (Kept.set _ w ⟨g, i, none⟩ u (.inl rfl)) (fun k e hk => h.ne (by rw [e, hk])), hok⟩
theorem MV.word {b : Nat} (h : MV B w g M (some ⟨b, 0, none⟩) n c) (k : Nat) (v : Int) (hv : R64 v) : MV B (w.setCell ⟨b, k, none⟩ (.int .i64 v)) g { M with mem := M.mem.set k v } (some ⟨b, 0, none⟩) n c :=
  ⟨h.lo, by rw [List.length_set]; exact h.len, h.cap, h.blk.far (p := ⟨b, k, none⟩) (fun e => h.ne (by rw [e]; rfl)) _, by
    have := (World.ownsRow.stored h.row k (.int .i64 v)).1
    rwa [show (zv M.mem).set k (.int .i64 v) = zv (M.mem.set k v) by simp [zv, List.map_set]] at this,
    ⟨h.ok.p, h.ok.r, fun x hx => by
      rcases List.mem_or_eq_of_mem_set hx with h9 | h9
      · exact h.ok.mem x h9
      · rw [h9]; exact hv, h.ok.s, h.ok.t⟩⟩
theorem MV.cp (h : MV B w g M A n c) : w.cell? ⟨g, 0, none⟩ = some (.int .i64 M.p) := by rw [h.blk.cell]; rfl
theorem MV.cr (h : MV B w g M A n c) {i : Nat} (hi : i < 8) : w.cell? ⟨g, 1 + i, none⟩ = some (.int .i64 (M.r i)) := by rw [h.blk.cell]; exact mcells_reg M A n c i hi
theorem MV.cm (h : MV B w g M A n c) : w.cell? ⟨g, 9, none⟩ = some (.slice A n c) := by rw [h.blk.cell]; rfl
theorem MV.cs (h : MV B w g M A n c) : w.cell? ⟨g, 10, none⟩ = some (.int .i64 M.s) := by rw [h.blk.cell]; rfl
theorem MV.ct (h : MV B w g M A n c) : w.cell? ⟨g, 11, none⟩ = some (.int .i64 M.t) := by rw [h.blk.cell]; rfl
theorem MV.fz (h : MV B w g M A n c) (i : Nat) : w.frozen? ⟨g, i, none⟩ = false := h.blk.frozen i
end
theorem mcells_p (M : Mach) (A : Option Addr) (n c : Nat) (v : Int) : (mcells M A n c).toArray.setIfInBounds 0 (.int .i64 v) = (mcells { M with p := v } A n c).toArray := rfl
theorem mcells_s (M : Mach) (A : Option Addr) (n c : Nat) (v : Int) : (mcells M A n c).toArray.setIfInBounds 10 (.int .i64 v) = (mcells { M with s := v } A n c).toArray := rfl
theorem mcells_t (M : Mach) (A : Option Addr) (n c : Nat) (v : Int) : (mcells M A n c).toArray.setIfInBounds 11 (.int .i64 v) = (mcells { M with t := v } A n c).toArray := rfl
theorem mcells_r (M : Mach) (A : Option Addr) (n c : Nat) (v : Int) : ∀ a, a < 8 → (mcells M A n c).toArray.setIfInBounds (1 + a) (.int .i64 v) = (mcells (setR M a v) A n c).toArray := by
  intro i hi
  match i, hi with
  | 0, _ => rfl
  | 1, _ => rfl
  | 2, _ => rfl
  | 3, _ => rfl
  | 4, _ => rfl
  | 5, _ => rfl
  | 6, _ => rfl
  | 7, _ => rfl
theorem event_zero : (Tryd.prog.info? 38).map (·.zero) = some (some (.agg #[.int .i64 0, .int .i64 0])) := by kernel_rfl
theorem instr_zero : (Tryd.prog.info? 61).map (·.zero) = some (some (.agg #[.int .u8 0, .int .u8 0, .int .u8 0, .int .u8 0])) := by kernel_rfl
theorem instr_size : (Tryd.prog.info? 61).map (·.size) = some 4 := by kernel_rfl

set_option linter.unusedSimpArgs false in
theorem pvTrap {B g : Nat} {M : Mach} {A : Option Addr} {n c : Nat} (w : World) (hv : MV B w g M A n c) (t : Int) (ht : R64 t) :
    Calls Tryd.prog 48 #[.pointer (some ⟨g, 0, none⟩), .int .i64 t] w fun e w' => e = .returned (ev 3 t) ∧ MV B w' g (trapM M t).1 A n c ∧ Kept (FF g A) w w' := by
  have HV := Lib.hid (And.intro hv ht)
  clear hv ht
  go_enter Tryd.func48, Tryd.ntmps48
  go_wp2_with (first
    | (refine wpList_alloc rfl 38 rfl #[.int .i64 0, .int .i64 0] event_zero ?_; intro w1 hb1 hw1 hz1; refine stopped ?_)
    | fail)
  have hv1 := HV.out.1.below hw1
  have f10 := hv1.fz 10
  have c10 := hv1.cs
  have hv2 := (hv1.set 10 (.int .i64 2) (mcells_s M A n c 2) rfl ⟨hv1.ok.p, hv1.ok.r, hv1.ok.mem, r64_2, hv1.ok.t⟩)
  have f11 := hv2.fz 11
  have c11 := hv2.ct
  have hv3 := (hv2.set 11 (.int .i64 t) (mcells_t _ A n c t) rfl ⟨hv1.ok.p, hv1.ok.r, hv1.ok.mem, r64_2, HV.out.2⟩)
  refine go_on ?_
  go_wp2_with (first | (with_reducible refine st_store 38 ?_; refine stopped ?_) | fail)
  have hs3 : ((w1.setCell ⟨g, 10, none⟩ (.int .i64 2)).setCell ⟨g, 11, none⟩ (.int .i64 t)).heap.size = w.heap.size + 1 := by simp [World.setCell, hz1]
  have hgw : g ≠ w.heap.size := Nat.ne_of_lt HV.out.1.lt
  have hbE := (hb1.far (p := ⟨g, 10, none⟩) hgw.symm (.int .i64 2)).far (p := ⟨g, 11, none⟩) hgw.symm (.int .i64 t)
  have hk3 : Kept (FF g A) w ((w1.setCell ⟨g, 10, none⟩ (.int .i64 2)).setCell ⟨g, 11, none⟩ (.int .i64 t)) :=
    ((Kept.of_below (F := FF g A) hw1).trans (Kept.set (FF g A) w1 ⟨g, 10, none⟩ (.int .i64 2) (.inl (.inl rfl))) (fun _ => .inl)).trans (Kept.set (FF g A) _ ⟨g, 11, none⟩ (.int .i64 t) (.inl (.inl rfl))) (fun _ => .inl)
  obtain ⟨w3, ew3⟩ : ∃ W, (w1.setCell ⟨g, 10, none⟩ (.int .i64 2)).setCell ⟨g, 11, none⟩ (.int .i64 t) = W := ⟨_, rfl⟩
  rw [ew3] at hv3 hs3 hbE hk3 ⊢
  have HZ := Lib.hid (And.intro hv3 (And.intro hs3 (And.intro hbE hk3)))
  clear hv1 f10 c10 hv2 f11 c11 hv3 hs3 hbE hk3 ew3 hb1 hw1 hz1 hgw
  refine go_on ?_
  refine wpList_store_whole rfl 38 (.tmp 4) (.tmp 13) rfl w.heap.size [.int .i64 3, .int .i64 t] rfl rfl 38 [.int .i64 0, .int .i64 0] HZ.out.2.2.1 event_size rfl (by simp [Value.oneCell']) ?_
  intro w6 hb6 hg6
  refine wpList_nil ?_
  have hnf : ¬ FF g A w.heap.size := fun h => Nat.lt_irrefl _ (HV.out.1.fl _ h)
  have hv6 := HZ.out.1.grown hg6 hnf
  have hk6 : Kept (FF g A) w w6 := HZ.out.2.2.2.trans (Kept.of_grown (F := fun j => j = w.heap.size) hg6 (fun j e => by cases e; exact .inl rfl)) (fun j e => .inr (Nat.le_of_eq e.symm))
  repeat (first | go_values | go_skip | go_guarded | go_step)
  exact bodyPost_row rfl w.heap.size rfl 38 _ _ hb6 Tryd.underlying38 rfl event_size rfl ⟨rfl, hv6, hk6⟩

theorem check_two (i : Ins) : ((checkL [i, i0]).1 : Int) ≠ 3 ↔ formedB i = true := by
  have h2 : wrongAt 2 i0 = none := rfl
  cases hf : formedB i
  · have hw : wrongAt 2 i = some 3 := by unfold wrongAt; rw [if_pos hf]
    have : checkL [i, i0] = (3, 0) := by simp [checkL, firstBad, hw]
    rw [this]
    simp
  · by_cases hp : placeB i = true ∧ 2 ≤ i.num
    · have hw : wrongAt 2 i = some 4 := by unfold wrongAt; rw [if_neg (by simp [hf]), if_pos hp]
      have : checkL [i, i0] = (4, 0) := by simp [checkL, firstBad, hw]
      rw [this]
      simp
    · have hw : wrongAt 2 i = none := by unfold wrongAt; rw [if_neg (by simp [hf]), if_neg hp]
      have : checkL [i, i0] = (0, 0) := by
        simp only [checkL, firstBad, hw, h2, List.length_cons, List.length_nil]
        rfl
      rw [this]
      simp
theorem codeOf_fault (f : Nat × Nat) : codeOf (faultC f) = (f.1 : Int) := by
  unfold faultC
  split
  · rename_i h; rw [h]; rfl
  · rfl
theorem insTwo (w : World) (op a b c : Nat) (hi : Ins.ok ⟨op, a, b, c⟩) : InsAt (w.alloc (.cells #[.int .u8 (op : Int), .int .u8 (a : Int), .int .u8 (b : Int), .int .u8 (c : Int), .int .u8 0, .int .u8 0, .int .u8 0, .int .u8 0] 61)) (some ⟨w.heap.size, 0, none⟩) [⟨op, a, b, c⟩, i0] :=
  ⟨vs_of_blk (Blk.new w 61 (ivs [⟨op, a, b, c⟩, i0]).toArray) (by simp), fun i h => by
    simp only [List.mem_cons, List.not_mem_nil, or_false] at h
    rcases h with rfl | rfl
    · exact hi
    · exact ⟨by decide, by decide, by decide, by decide⟩⟩
def a4 (op a b c : Nat) : List Value := [.int .u8 (op : Int), .int .u8 (a : Int), .int .u8 (b : Int), .int .u8 (c : Int)]
theorem a4_one (op a b c : Nat) : ∀ u ∈ a4 op a b c, u.oneCell' = true := by
  intro u hu
  simp only [a4, List.mem_cons, List.not_mem_nil, or_false] at hu
  rcases hu with rfl | rfl | rfl | rfl <;> rfl

set_option maxRecDepth 100000 in
set_option maxHeartbeats 4000000 in
set_option linter.unusedSimpArgs false in
theorem pvWell (op a b c : Nat) (hi : Ins.ok ⟨op, a, b, c⟩) (w : World) (hG : HasErr w) : Calls Tryd.prog 59 #[.agg #[.int .u8 (op : Int), .int .u8 (a : Int), .int .u8 (b : Int), .int .u8 (c : Int)]] w (Says w (.bool (formedB ⟨op, a, b, c⟩))) := by
  have HG := Lib.hid (And.intro hG hi)
  clear hG hi
  go_enter Tryd.func59, Tryd.ntmps59
  go_wp2_with (first
    | (refine wpList_box rfl 61 (.tmp 0) rfl #[.int .u8 (op : Int), .int .u8 (a : Int), .int .u8 (b : Int), .int .u8 (c : Int)] rfl ?_; intro w1 hb1 hw1 hz1)
    | (refine wpList_alloc rfl 61 rfl #[.int .u8 0, .int .u8 0, .int .u8 0, .int .u8 0] instr_zero ?_; intro w2 hb2 hw2 hz2)
    | (with_reducible refine st_store 61 ?_; refine stopped ?_)
    | fail)
  rw [hz1] at hb2
  have hk2 := hb1.below hw2 hb1.lt
  have hbw2 := hw1.trans (hw2.mono hw1.size)
  rw [hz1] at hz2
  have HX := Lib.hid (And.intro hk2 (And.intro hbw2 (And.intro hz2 hb2)))
  clear hb1 hw1 hz1 hb2 hw2 hz2 hk2 hbw2
  refine go_on ?_
  refine wpList_store_whole rfl 61 (.tmp 3) (.tmp 4) rfl (w.heap.size + 1) (a4 0 0 0 0) rfl rfl 61 (a4 0 0 0 0) HX.out.2.2.2 instr_size rfl (a4_one 0 0 0 0) ?_
  intro w3 hb3 hg3
  have hk3 := HX.out.1.grown hg3 (by simp)
  have hbw3 : Below w.heap.size w w3 := HX.out.2.1.grown hg3 HX.out.2.1.size (fun k e => by cases e; omega)
  obtain ⟨g0, eg0⟩ : ∃ x, w.heap.size = x := ⟨_, rfl⟩
  obtain ⟨g1, eg1⟩ : ∃ x, g0 + 1 = x := ⟨_, rfl⟩
  have hj3 := hb3
  rw [eg0] at hk3 hj3
  rw [eg1] at hj3
  have HY := Lib.hid (And.intro hk3 (And.intro hj3 hbw3))
  clear hb3 hg3 hk3 hbw3 hj3 HX
  simp only [Act.put, List.setIfInBounds_toArray, List.set_cons_zero, List.set_cons_succ]
  rw [eg0, eg1]
  clear eg0 eg1
  refine wpList_nil ?_
  go_wp2_with (first
    | (with_reducible refine st_load 61 ?_; refine stopped ?_)
    | fail)
  refine go_on ?_
  refine wpList_load_at rfl 61 (.tmp 1) rfl g0 0 rfl (a4 op a b c).toArray _ (Blk.cells HY.out.1) Tryd.underlying61 rfl instr_size ?_
  refine wpList_load_at rfl 61 (.tmp 3) rfl g1 0 rfl (a4 0 0 0 0).toArray _ (Blk.cells HY.out.2.1) Tryd.underlying61 rfl instr_size ?_
  simp only [Act.put, List.setIfInBounds_toArray, List.set_cons_zero, List.set_cons_succ]
  unfold a4
  go_wp2_with fail
  have hin := insTwo w3 op a b c HG.out.2
  have hckk := coCheck (some ⟨w3.heap.size, 0, none⟩) [⟨op, a, b, c⟩, i0] 2 2 rfl (by decide) _ hin
  have hba : Below w.heap.size w (w3.alloc (.cells #[.int .u8 (op : Int), .int .u8 (a : Int), .int .u8 (b : Int), .int .u8 (c : Int), .int .u8 0, .int .u8 0, .int .u8 0, .int .u8 0] 61)) := HY.out.2.2.alloc HY.out.2.2.size _
  refine hckk.mono ?_
  rintro e w5 ⟨v5, rfl, hc5, hb5⟩
  have hb5 := hba.trans (hb5.mono hba.size)
  have hcode := fCode hc5 (HG.out.1.below hb5)
  rw [codeOf_fault] at hcode
  have hne : (((checkL [⟨op, a, b, c⟩, i0]).1 : Int) != 3) = formedB ⟨op, a, b, c⟩ := by
    have := check_two ⟨op, a, b, c⟩
    cases h : formedB ⟨op, a, b, c⟩
    · rw [h] at this
      have h3 : ¬ ((checkL [⟨op, a, b, c⟩, i0]).1 : Int) ≠ 3 := fun hh => by have := this.1 hh; cases this
      rw [bne_eq_false_iff_eq]
      exact Classical.not_not.1 h3
    · exact bne_iff_ne.2 (this.2 h)
  obtain ⟨z, ez⟩ : ∃ z : Int, ((checkL [⟨op, a, b, c⟩, i0]).1 : Int) = z := ⟨_, rfl⟩
  rw [ez] at hne
  rw [ez] at hcode
  have HC := Lib.hid (And.intro hcode hb5)
  have HN := Lib.hid hne
  clear hcode hb5 hckk hin hba hc5 ez hne
  go_wp2_with (first
    | (go_at_call 57; refine HC.out.1.mono ?_; rintro e w6 ⟨rfl, hb6⟩)
    | fail)
  go_ret
  exact ⟨by rw [← HN.out]; rfl, HC.out.2.trans (hb6.mono HC.out.2.size)⟩
end Go.Proofs.YthgiehlfmdobkaaDoor
