/-
  Package pvm's Step, by its contract. Conditions: the theorem's own premises.
-/
import Derived.Test.YthgiehlfmdobkaaDoorPvmFnS
import Derived.Test.YthgiehlfmdobkaaDoorPvmFnD
import Derived.Deep.RegionHeld
namespace Go.Proofs.YthgiehlfmdobkaaDoor
open Go.RowKit

/-- a call whose results are two variables of its own -/
theorem bodyPost_row2 {P : Program} {w : World} {fn : Func} {R : Ending → World → Prop} {a : Act} {p q : Tmp} {ty tz : TypeId} (hr : fn.results = #[.cell p ty, .cell q tz]) (g k : Nat) (hp : a.tmps.getD p undef = .pointer (some ⟨g, 0, none⟩)) (hq : a.tmps.getD q undef = .pointer (some ⟨k, 0, none⟩)) (t u : TypeId) (cs ds : Array Value) (d e : TypeDesc)
    (hg : Blk w g t cs) (hk : Blk w k u ds) (hu : P.underlying ty = some d) (hd : agg? d = true) (hi : (P.info? ty).map (·.size) = some cs.size) (hv : P.underlying tz = some e) (he : agg? e = true) (hj : (P.info? tz).map (·.size) = some ds.size) (hdef : a.defers = []) (hR : R (.returned (.tuple #[.agg cs, .agg ds])) w) : bodyPost P fn R .ret a w := by
  refine bodyPost_ret ?_ hdef hR
  have hp' : a.tmps[p]?.getD undef = .pointer (some ⟨g, 0, none⟩) := by simpa using hp
  have hq' : a.tmps[q]?.getD undef = .pointer (some ⟨k, 0, none⟩) := by simpa using hq
  simp [results, hr, hp', hq', asAddr, run_loadVar_at g 0 ty cs d hg.cells hu hd hi, run_loadVar_at k 0 tz ds e hk.cells hv he hj]
theorem bodyPost_row3 {P : Program} {w : World} {fn : Func} {R : Ending → World → Prop} {a : Act} {p q r : Tmp} {ty tz : TypeId} (hr : fn.results = #[.cell p ty, .cell q tz, .tmp r]) (g k : Nat) (hp : a.tmps.getD p undef = .pointer (some ⟨g, 0, none⟩)) (hq : a.tmps.getD q undef = .pointer (some ⟨k, 0, none⟩)) (v : Value) (hw : a.tmps.getD r undef = v) (t u : TypeId) (cs ds : Array Value) (d e : TypeDesc)
    (hg : Blk w g t cs) (hk : Blk w k u ds) (hu : P.underlying ty = some d) (hd : agg? d = true) (hi : (P.info? ty).map (·.size) = some cs.size) (hv : P.underlying tz = some e) (he : agg? e = true) (hj : (P.info? tz).map (·.size) = some ds.size) (hdef : a.defers = []) (hR : R (.returned (.tuple #[.agg cs, .agg ds, v])) w) : bodyPost P fn R .ret a w := by
  refine bodyPost_ret ?_ hdef hR
  have hp' : a.tmps[p]?.getD undef = .pointer (some ⟨g, 0, none⟩) := by simpa using hp
  have hq' : a.tmps[q]?.getD undef = .pointer (some ⟨k, 0, none⟩) := by simpa using hq
  have hw' : a.tmps[r]?.getD undef = v := by simpa using hw
  simp [results, hr, hp', hq', hw', asAddr, run_loadVar_at g 0 ty cs d hg.cells hu hd hi, run_loadVar_at k 0 tz ds e hk.cells hv he hj]
theorem MV.off {B g n c k : Nat} {w : World} {M : Mach} {A : Option Addr} {t : TypeId} {cs : Array Value} (h : MV B w g M A n c) (hb : Blk w k t cs) (ht : 2 ≠ t) (hne : k ≠ g) : ¬ FF g A k := fun hf => by
  rcases hf with h9 | h9
  · exact hne h9
  · exact row_apart h.row hb ht ((own_any A n c 0 0).trans h9)
/-- the variables of a call of Step or Run: the machine's and the results' -/
structure TwoRes (w W : World) (X : Mach) (A : Option Addr) (n c : Nat) : Prop where
  mv : MV w.heap.size W w.heap.size X A n c
  r1 : Blk W (w.heap.size + 1) 27 (mcells (newM 0) none 0 0).toArray
  r2 : Blk W (w.heap.size + 2) 38 #[.int .i64 0, .int .i64 0]
  bel : Below w.heap.size w W
section
variable {w W W' : World} {X X' : Mach} {A : Option Addr} {n c : Nat}
theorem TwoRes.below (h : TwoRes w W X A n c) (hb : Below W.heap.size W W') : TwoRes w W' X A n c := ⟨h.mv.below hb, h.r1.below hb h.r1.lt, h.r2.below hb h.r2.lt, h.bel.trans (hb.mono h.bel.size)⟩
theorem TwoRes.keep (h : TwoRes w W X A n c) (hv : MV w.heap.size W' w.heap.size X' A n c) (hk : Kept (FF w.heap.size A) W W') (hr1 : ¬ FF w.heap.size A (w.heap.size + 1)) : TwoRes w W' X' A n c :=
  ⟨hv, hk.blk h.r1 hr1, hk.blk h.r2 (h.mv.off h.r2 (by decide) (by omega)), h.bel.trans (hk.below h.mv.fb h.bel.size)⟩
theorem TwoRes.off1 (h : TwoRes w W X A n c) : ¬ FF w.heap.size A (w.heap.size + 1) := h.mv.off h.r1 (by decide) (by omega)
end

set_option maxRecDepth 100000 in
set_option maxHeartbeats 4000000 in
set_option linter.unusedSimpArgs false in
theorem pvStep (L : Option Addr) (l : List Ins) (n cp : Nat) (hl : l.length = n) (hn : n ≤ 1000000) (w : World) (hL : InsAt w L l) (hG : HasErr w) (M : Mach) (B : Option Addr) (k d : Nat) (hM : MachAt w M B k d) (hk : k ≤ 1000000) : Calls Tryd.prog 14 #[.slice L n cp, mv M B k d] w (StepPost w (stepM l M)) := by
  have H := Lib.hid (And.intro hl (And.intro hn (And.intro hL (And.intro hG (And.intro hM (And.intro hk True.intro))))))
  clear hl hn hL hG hM hk 
  go_enter Tryd.func14, Tryd.ntmps14
  go_wp2_with (first
    | (refine wpList_box rfl 27 (.tmp 1) rfl (mcells M B k d).toArray rfl ?_; intro w1 hb1 hw1 hz1)
    | (refine wpList_alloc rfl 27 rfl (mcells (newM 0) none 0 0).toArray mach_zero ?_; intro w2 hb2 hw2 hz2)
    | (with_reducible refine st_alloc 38 ?_; refine stopped ?_)
    | fail)
  refine go_on ?_
  refine wpList_alloc rfl 38 rfl #[.int .i64 0, .int .i64 0] event_zero ?_
  intro w3 hb3 hw3 hz3
  rw [hz1] at hb2 hz2
  rw [hz2] at hb3 hz3
  try rw [hz2]
  simp only [Act.put, List.setIfInBounds_toArray, List.set_cons_zero, List.set_cons_succ]
  have hbl := (hw1.trans (hw2.mono hw1.size)).trans (hw3.mono (Nat.le_trans hw1.size hw2.size))
  have H3 := Lib.hid (And.intro ((hb1.below hw2 hb1.lt).below hw3 (Nat.lt_of_lt_of_le hb1.lt hw2.size)) (And.intro (hb2.below hw3 hb2.lt) (And.intro hb3 (And.intro hbl hz3))))
  have hcm : w3.cell? ⟨w.heap.size, 9, none⟩ = some (.slice B k d) := by rw [H3.out.1.cell]; rfl
  clear hb1 hw1 hz1 hb2 hw2 hz2 hb3 hw3 hz3
  have hcl := wordClone w3 B M.mem d k H.out.2.2.2.2.1.len ((H.out.2.2.2.2.1.vs.below hbl).more hbl.size) H.out.2.2.2.2.2.1
  have HC := Lib.hid hcl
  clear hcl hbl
  refine wpList_nil ?_
  go_wp2_with (first
    | (go_at_call 27; refine HC.out.mono ?_; rintro e w4 ⟨A, c, rfl, hc4, hr4, hb4⟩; have hk4 := H3.out.1.below hb4 H3.out.1.lt; have hf4 := hk4.frozen 9; have hq4 : w4.cell? ⟨w.heap.size, 9, none⟩ = some (.slice B k d) := by (rw [hk4.cell]; rfl))
    | (go_at_call 28; refine stopped ?_)
    | fail)
  have hk5 := hk4.set_ 9 (.slice A k c)
  rw [show (mcells M B k d).toArray.setIfInBounds 9 (.slice A k c) = (mcells M A k c).toArray from rfl] at hk5
  have hap := row_apart hr4 hk4 (by decide)
  have hr5 := row_keep (F := fun j => j = w.heap.size) hr4 (Kept.set _ w4 ⟨w.heap.size, 9, none⟩ (.slice A k c) (.inl rfl)) (fun j e1 e2 => hap (by rw [e1, e2]))
  have hb35 : Below w3.heap.size w3 w4 := hb4
  have hT := TwoRes.mk (w := w) (W := w4.setCell ⟨w.heap.size, 9, none⟩ (.slice A k c)) ⟨Nat.le_refl _, H.out.2.2.2.2.1.len, hc4, hk5, row_base hr5 (by have := H3.out.2.2.2.2; omega), H.out.2.2.2.2.1.ok⟩
    ((H3.out.2.1.below hb35 H3.out.2.1.lt).far (p := ⟨w.heap.size, 9, none⟩) (by show w.heap.size + 1 ≠ w.heap.size; omega) _)
    ((H3.out.2.2.1.below hb35 H3.out.2.2.1.lt).far (p := ⟨w.heap.size, 9, none⟩) (by show w.heap.size + 2 ≠ w.heap.size; omega) _)
    ((H3.out.2.2.2.1.trans (hb35.mono H3.out.2.2.2.1.size)).setCell (Nat.le_refl _) _)
  obtain ⟨w5, ew5⟩ : ∃ W, w4.setCell ⟨w.heap.size, 9, none⟩ (.slice A k c) = W := ⟨_, rfl⟩
  rw [ew5] at hT ⊢
  have HT := Lib.hid hT
  clear hT ew5 hk5 hap hr5 hb35 hk4 hf4 hq4 hr4 hb4
  have hst := pvStepAt w L l n cp H.out.1 H.out.2.1 H.out.2.2.1 H.out.2.2.2.1 H.out.2.2.2.2.2.1 w5 HT.out.bel HT.out.mv
  have hsl := (stepM_stepped l M).len
  obtain ⟨X, kd, nm, es⟩ : ∃ X kd nm, stepM l M = (X, kd, nm) := ⟨_, _, _, rfl⟩
  rw [es] at hst hsl ⊢
  have HS := Lib.hid es
  refine go_on ?_
  refine hst.mono ?_
  rintro e w6 ⟨rfl, hv6, hk6⟩
  have hT6 := HT.out.keep hv6 hk6 HT.out.off1
  have HT6 := Lib.hid hT6
  clear hst hv6 hk6 hT6 es
  dsimp only at HT6 hsl ⊢
  unfold ev
  go_wp2_with (first
    | (with_reducible refine st_alloc 38 ?_; refine stopped ?_)
    | fail)
  refine go_on ?_
  refine wpList_alloc rfl 38 rfl #[.int .i64 0, .int .i64 0] event_zero ?_
  intro w7 hb7 hw7 hz7
  have hg3 : w.heap.size + 2 < w6.heap.size := HT6.out.r2.lt
  obtain ⟨g3, eg3⟩ : ∃ x, w6.heap.size = x := ⟨_, rfl⟩
  have H7 := Lib.hid (And.intro (HT6.out.below hw7) (And.intro hb7 hg3))
  rw [eg3] at H7
  simp only [Act.put, List.setIfInBounds_toArray, List.set_cons_zero, List.set_cons_succ]
  rw [eg3]
  clear eg3 hb7 hw7 hz7 hg3
  go_wp2_with (first
    | (with_reducible refine st_store 38 ?_; refine stopped ?_)
    | fail)
  refine go_on ?_
  refine wpList_store_whole rfl 38 (.tmp 6) (.tmp 12) rfl g3 [.int .i64 kd, .int .i64 nm] rfl rfl 38 [.int .i64 0, .int .i64 0] H7.out.2.1 event_size rfl (ev_one _ _) ?_
  intro w8 hb8 hg8
  have hkk : Kept (fun j => j = g3) w7 w8 := Kept.of_grown hg8 (fun j e => by cases e; exact .inl rfl)
  have hng : ∀ j, FF w.heap.size A j → ¬ j = g3 := fun j hj e => by
    have := HT6.out.mv.fl j hj
    subst e
    exact H7.out.1.mv.off H7.out.2.1 (by decide) (by have := H7.out.2.2; omega) hj
  have hT8 : TwoRes w w8 X A k c := ⟨H7.out.1.mv.keep hkk hng, hkk.blk H7.out.1.r1 (by have := H7.out.2.2; omega), hkk.blk H7.out.1.r2 (by have := H7.out.2.2; omega), H7.out.1.bel.trans (hkk.below (B := w.heap.size) (fun j e => by have := H7.out.2.2; omega) H7.out.1.bel.size)⟩
  have H8 := Lib.hid (And.intro hT8 (And.intro hb8 H7.out.2.2))
  clear hb8 hg8 hkk hng hT8
  simp only [Act.put, List.setIfInBounds_toArray, List.set_cons_zero, List.set_cons_succ]
  refine wpList_nil ?_
  go_wp2_with fail
  have hS0 : (fun W' : World => Blk W' w.heap.size 27 (mcells X A k c).toArray ∧ Blk W' g3 38 #[.int .i64 kd, .int .i64 nm]) w8.drew := ⟨H8.out.1.mv.blk, H8.out.2.1⟩
  refine wp_region_held_drew (S := fun W' => Blk W' w.heap.size 27 (mcells X A k c).toArray ∧ Blk W' g3 38 #[.int .i64 kd, .int .i64 nm]) (by kernel_rfl) hS0 (fun hHeld => ?_)
  refine wpAnyH_take (i := 0) (v := .agg (mcells X A k c).toArray) (List.getElem?_toArray.trans (List.getElem?_cons_zero)) (by kernel_rfl) (by kernel_rfl) (by kernel_rfl) (fun _ _ _ h => h) (Or.inl ⟨by rfl, ?_⟩) (by assumption) ?_
  · intro w' hSw; exact load_row_yields 27 (.tmp 3) rfl w.heap.size 0 rfl (mcells X A k c).toArray _ (Blk.cells hSw.1) Tryd.underlying27 rfl mach_size
  try simp only [Act.put, List.setIfInBounds_toArray, List.set_cons_zero, List.set_cons_succ]
  refine wpAnyH_take (i := 1) (v := .agg [Value.int .i64 kd, .int .i64 nm].toArray) (List.getElem?_toArray.trans (List.getElem?_cons_succ.trans (List.getElem?_cons_zero))) (by kernel_rfl) (by kernel_rfl) (by kernel_rfl) (fun _ _ _ h => h) (Or.inl ⟨by rfl, ?_⟩) (by assumption) ?_
  · intro w' hSw; exact load_row_yields 38 (.tmp 6) rfl g3 0 rfl [Value.int .i64 kd, .int .i64 nm].toArray _ (Blk.cells hSw.2) Tryd.underlying38 rfl event_size
  try simp only [Act.put, List.setIfInBounds_toArray, List.set_cons_zero, List.set_cons_succ]
  have hT9 : TwoRes w w8.drew X A k c := ⟨H8.out.1.mv.drewN 1, H8.out.1.r1, H8.out.1.r2, H8.out.1.bel.drew⟩
  have hrl : X.mem.length = k := hsl.trans H.out.2.2.2.2.1.len
  have hgg := H8.out.2.2
  refine wpAnyH_ready (rs := [2]) (by kernel_rfl) (by simp) ?_
  refine AllReadyH.cons (List.getElem?_toArray.trans (List.getElem?_cons_succ.trans (List.getElem?_cons_succ.trans (List.getElem?_cons_zero)))) (fun K hK => ?_) AllReadyH.nil
  refine wp_store_one 27 (.tmp 4) (.tmp 13) rfl (w.heap.size + 1) (mcells X A k c) rfl rfl 27 (mcells (newM 0) none 0 0) hT9.r1 mach_size rfl (mcells_one _ _ _ _) ?_
  intro v1 hb1 hg1
  have hk1 : Kept (fun j => j = (w.heap.size + 1)) w8.drew v1 := Kept.of_grown hg1 (fun j e => by cases e; exact .inl rfl)
  refine hK.out _ _ ⟨hk1.blk hT9.mv.blk (by omega), hk1.blk H8.out.2.1 (by omega)⟩ (fun _ => ?_)
  clear hK K
  try simp only [Act.put, List.setIfInBounds_toArray, List.set_cons_zero, List.set_cons_succ]
  refine wpAnyH_ready (rs := [3]) (by kernel_rfl) (by simp) ?_
  refine AllReadyH.cons (List.getElem?_toArray.trans (List.getElem?_cons_succ.trans (List.getElem?_cons_succ.trans (List.getElem?_cons_succ.trans (List.getElem?_cons_zero))))) (fun K hK => ?_) AllReadyH.nil
  have hold := hk1.blk hT9.r2 (by omega)
  refine wp_store_one 38 (.tmp 5) (.tmp 14) rfl (w.heap.size + 2) [.int .i64 kd, .int .i64 nm] rfl rfl 38 [.int .i64 0, .int .i64 0] hold event_size rfl (ev_one _ _) ?_
  intro v2 hb2 hg2
  have hk2 : Kept (fun j => j = (w.heap.size + 2)) v1 v2 := Kept.of_grown hg2 (fun j e => by cases e; exact .inl rfl)
  have hk12 := Kept.trans (F := fun j => j = w.heap.size + 1 ∨ j = w.heap.size + 2) ⟨hk1.os, hk1.tape, hk1.output, hk1.size, fun i hi hn => hk1.block i hi (fun e => hn (by omega))⟩ hk2 (fun j e => .inl (by omega))
  have hx1 := hk2.blk hb1 (by omega)
  refine hK.out _ _ ⟨hk12.blk hT9.mv.blk (by omega), hk12.blk H8.out.2.1 (by omega)⟩ (fun _ => ?_)
  clear hK K
  try simp only [Act.put, List.setIfInBounds_toArray, List.set_cons_zero, List.set_cons_succ]
  refine wpAnyH_done (by kernel_rfl) ?_ _
  have hfin : StepPost w (X, kd, nm) (.returned (.tuple #[.agg (mcells X A k c).toArray, .agg #[.int .i64 kd, .int .i64 nm]])) v2 :=
    ⟨A, c, by rw [hrl]; rfl, by rw [hrl]; exact hc4, by
      rw [hrl]
      exact row_keep hT9.mv.row hk12 (fun j e1 e2 => by
        rcases e2 with rfl | rfl
        · exact hT9.off1 (.inr ((own_any A k c 0 0).symm.trans e1 : _))
        · exact hT9.mv.off hT9.r2 (by decide) (by omega) (.inr ((own_any A k c 0 0).symm.trans e1 : _))),
      hT9.bel.trans (hk12.below (fun j e => by rcases e with rfl | rfl <;> omega) hT9.bel.size)⟩
  go_wp2_with fail
  exact bodyPost_row2 rfl (w.heap.size + 1) (w.heap.size + 2) rfl rfl 27 38 (mcells X A k c).toArray #[.int .i64 kd, .int .i64 nm] _ _ hx1 hb2 Tryd.underlying27 rfl mach_size Tryd.underlying38 rfl event_size rfl (by rw [HS.out]; exact hfin)
end Go.Proofs.YthgiehlfmdobkaaDoor
