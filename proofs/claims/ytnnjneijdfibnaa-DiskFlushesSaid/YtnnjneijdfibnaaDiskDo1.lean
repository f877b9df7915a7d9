/-
  The law's Do where it lets the power fail, switches it on, or arms. Conditions: each theorem's own premises.
-/
import Derived.Test.YtnnjneijdfibnaaDiskDo0
namespace Go.Proofs.Ytnnjneijdfibnaa
open Go.RowKit

/-- what Do is called with -/
structure DoPre (w : World) (gd : Nat) (F : Nat → Prop) (m : Dk) (k : Nat) (cs : List Value) (d : Dk) (a : ActV) (S : Option Addr) (n : Nat) : Prop where
  code : CodeIs w gd F m
  ref : RefIs w w.heap.size cs d
  far : ∀ g, F g → RefFar cs d g
  km : m.waits.length ≤ k
  kd : d.waits.length ≤ k
  kk : k ≤ 100
  m4 : m.has.length = 4
  d4 : d.has.length = 4
  md : m = d
  act : a.ok
  keep : a.keep.length = n
  vs : Vs w w.heap.size S (bvs a.keep)
  farS : ∀ g, F g ∨ w.heap.size ≤ g → Far S n g
theorem DoPre.vsAt {w wz : World} {gd g4 k n : Nat} {F F' : Nat → Prop} {m m' d d' : Dk} {cs cs' X : List Value} {a : ActV} {S : Option Addr} (h : DoPre w gd F m k cs d a S n) (hs : DoS w wz gd g4 F F' m' cs d S n cs' d' X) : Vs wz wz.heap.size S (bvs a.keep) :=
  (vs_kept h.vs (Nat.le_refl _) hs.kept (fun g hg => h.farS g (.inl hg)) (by rw [bvs_length, h.keep]; exact id)).more hs.kept.size
theorem crash_has (m : Dk) (s : List Bool) : (m.crash s).has.length = m.has.length := by
  unfold Dk.crash
  split
  · rfl
  · simp [Dk.laid, lay_length]
theorem arm_has (m : Dk) (n : Int) (s : List Bool) : (m.arm n s).has = m.has ∧ (m.arm n s).waits = m.waits := by
  unfold Dk.arm
  split <;> exact ⟨rfl, rfl⟩
theorem RefIs.shape {w : World} {B : Nat} {cs : List Value} {d : Dk} (h : RefIs w B cs d) : cs.length = 5 ∧ ∀ v ∈ cs, v.oneCell' = true := by
  obtain ⟨_, A, W, S, ca, cw, cs0, rfl, _⟩ := h
  exact ⟨rfl, refCells_one _ _ _ _ _ _ _⟩
theorem rsize_of {cs : List Value} (h : cs.length = 5) : (Try.prog.info? 57).map (·.size) = some cs.length := by rw [h]; exact rdisk_size
theorem rsize_arr {cs : List Value} (h : cs.length = 5) : (Try.prog.info? 57).map (·.size) = some cs.toArray.size := by rw [List.size_toArray, h]; exact rdisk_size
set_option maxRecDepth 100000 in
set_option maxHeartbeats 4000000 in
set_option linter.unusedSimpArgs false in
theorem do_crash (w : World) (gd : Nat) (F : Nat → Prop) (m : Dk) (k : Nat) (cs : List Value) (d : Dk) (a : ActV) (S : Option Addr) (n c : Nat) (h : DoPre w gd F m k cs d a S n) (hdo : a.do_ = 6) :
    Calls Try.prog 25 #[.pointer (some ⟨gd, 0, none⟩), .agg cs.toArray, .agg (actCells a S c).toArray] w (DoPost w gd F k cs d S n) := by
  obtain ⟨hok, A0, W0, S0, ca0, cw0, cv0, ecs, hA0, hW0, hS0⟩ := h.ref
  have hRef : RefIs w w.heap.size cs d := h.ref
  have hlen : cs.length = 5 := by rw [ecs]; rfl
  have hone : ∀ v ∈ cs, v.oneCell' = true := by rw [ecs]; exact refCells_one _ _ _ _ _ _ _
  have HC5 := Lib.hid (And.intro hlen (And.intro hone ecs))
  have HH := Lib.hid h
  obtain ⟨X, eX⟩ : ∃ X, actCells a S c = X := ⟨_, rfl⟩
  have HX := Lib.hid eX
  rw [eX]
  obtain ⟨C, eC⟩ : ∃ C, cs.toArray = C := ⟨_, rfl⟩
  obtain ⟨Y, eY⟩ : ∃ Y, X.toArray = Y := ⟨_, rfl⟩
  rw [eC, eY]
  have HCY := Lib.hid (And.intro eC eY)
  clear hok hA0 hW0 hS0 hlen hone h hRef eX eC eY
  clear ecs
  go_enter Try.func25, Try.ntmps25
  go_wp2_with (first | (with_reducible refine st_box 57 ?_; refine stopped ?_) | fail)
  refine go_on ?_
  refine wpList_box rfl 57 (.tmp 1) rfl C rfl ?_
  intro w1 hb1 hw1 hz1
  refine wpList_box rfl 44 (.tmp 2) rfl Y rfl ?_
  intro w2 hb2 hw2 hz2
  refine wpList_alloc rfl 57 rfl _ rdisk_zero ?_
  intro w3 hb3 hw3 hz3
  obtain ⟨g4, e4⟩ : ∃ g, w.heap.size = g := ⟨_, rfl⟩
  have e5 : w1.heap.size = g4 + 1 := by omega
  have e6 : w2.heap.size = g4 + 2 := by omega
  rw [e4] at hb1 hw1 ⊢
  rw [e5] at hb2 hw2 ⊢
  rw [e6] at hb3 hw3 ⊢
  simp only [Act.put, List.setIfInBounds_toArray, List.set_cons_zero, List.set_cons_succ]
  rw [← HCY.out.1] at hb1
  rw [← HCY.out.2] at hb2
  have hbw : Below g4 w w3 := (hw1.trans (hw2.mono (by omega))).trans (hw3.mono (by omega))
  have hst : DoS w w3 gd g4 F F m cs d S n cs d X := ⟨HH.out.code.below (e4.symm ▸ hbw), (HH.out.ref.below (e4.symm ▸ hbw)).more (by omega), HH.out.far, HH.out.ref.beyond (by omega), HH.out.ref.beyond (by omega), fun _ _ h _ => h,
    (hb1.below hw2 (by omega)).below hw3 (by omega), hb2.below hw3 (by omega), hb3, e4, fun g hg => by have := HH.out.code.lt g hg; omega, .of_below (e4.symm ▸ hbw), fun _ => .inl⟩
  have HS := Lib.hid hst
  have hcd : w3.cell? ⟨g4 + 1, 0, none⟩ = some (.int .i64 a.do_) := by rw [hst.b5.cell, ← HX.out]; rfl
  have hca : w3.cell? ⟨g4 + 1, 1, none⟩ = some (.int .i64 a.at_) := by rw [hst.b5.cell, ← HX.out]; rfl
  have hco : w3.cell? ⟨g4 + 1, 2, none⟩ = some (.int .i64 a.off) := by rw [hst.b5.cell, ← HX.out]; rfl
  have hcf : w3.cell? ⟨g4 + 1, 3, none⟩ = some (.int .u8 (a.fill.toNat : Int)) := by rw [hst.b5.cell, ← HX.out]; rfl
  have hck : w3.cell? ⟨g4 + 1, 4, none⟩ = some (.slice S n c) := by rw [hst.b5.cell, ← HX.out, ← HH.out.keep]; rfl
  have hbase := e4
  clear hb1 hb2 hb3 hw1 hw2 hw3 hz1 hz2 hz3 e4 e5 e6 hbw hst
  obtain ⟨pd, epd⟩ : ∃ x, a.do_ = x := ⟨_, rfl⟩
  obtain ⟨pa, epa⟩ : ∃ x, a.at_ = x := ⟨_, rfl⟩
  obtain ⟨po, epo⟩ : ∃ x, a.off = x := ⟨_, rfl⟩
  obtain ⟨fl, efl⟩ : ∃ x, a.fill.toNat = x := ⟨_, rfl⟩
  rw [epd] at hcd
  rw [epa] at hca
  rw [epo] at hco
  rw [efl] at hcf
  have HAt := Lib.hid (And.intro epd (And.intro epa (And.intro epo efl)))
  rw [hdo] at epd
  subst epd
  clear epa epo efl hdo
  go_wp2_with fail
  refine (dkCrashIs w3 gd F m HS.out.code (by have := HH.out.km; have := HH.out.kk; omega) S a.keep n c HH.out.keep (HH.out.vsAt HS.out) (fun g hg => HH.out.farS g (.inl hg))).mono ?_
  rintro e w4 ⟨rfl, h4, hk4⟩
  have HS4 := Lib.hid (HS.out.onCode h4 hk4 (fun _ => .inl))
  have hca4 : w4.cell? ⟨g4 + 1, 1, none⟩ = some (.int .i64 pa) := by rw [HS4.out.b5.cell, ← HX.out, ← HAt.out.2.1]; rfl
  have hck4 : w4.cell? ⟨g4 + 1, 4, none⟩ = some (.slice S n c) := by rw [HS4.out.b5.cell, ← HX.out, ← HH.out.keep]; rfl
  clear h4 hk4 hca hco hcf hck
  go_wp2_with (first | (with_reducible refine st_load 57 ?_; refine stopped ?_) | fail)
  refine go_on ?_
  refine wpList_load_at rfl 57 (.tmp 4) rfl g4 0 rfl cs.toArray _ (Blk.cells HS4.out.b4) Try.underlying57 rfl (rsize_arr HC5.out.1) ?_
  simp only [Act.put, List.setIfInBounds_toArray, List.set_cons_zero, List.set_cons_succ]
  have hrc := refCrash_any w4 cs d HS4.out.ref (by have := HH.out.kd; have := HH.out.kk; omega) S a.keep c (HH.out.vsAt HS4.out)
  rw [HH.out.keep] at hrc
  have HRc := Lib.hid hrc
  clear hrc
  go_wp2_with fail
  refine HRc.out.mono ?_
  rintro e w5 ⟨cs5, rfl, hR5, hf5, hb5⟩
  have hsh := hR5.shape
  have HR5 := Lib.hid (And.intro hR5 (And.intro hf5 (And.intro hb5 hsh)))
  clear hR5 hf5 hb5 hsh
  go_wp2_with (first | (with_reducible refine st_store 57 ?_; refine stopped ?_) | fail)
  refine go_on ?_
  refine wpList_store_whole rfl 57 (.tmp 6) (.tmp 119) rfl (g4 + 2) cs5 rfl rfl 57 rzero (HS4.out.b6.below HR5.out.2.2.1 HS4.out.siz) (rsize_of HR5.out.2.2.2.1) (by rw [HR5.out.2.2.2.1]; rfl) HR5.out.2.2.2.2 ?_
  intro w6 hb6 hg6
  simp only [Act.put, List.setIfInBounds_toArray, List.set_cons_zero, List.set_cons_succ]
  repeat (first | go_values | go_skip | go_guarded | go_step)
  refine bodyPost_rowv rfl (g4 + 2) rfl (.bool true) rfl 57 _ _ hb6 Try.underlying57 rfl (rsize_arr HR5.out.2.2.2.1) rfl ?_
  exact HS4.out.doneRef HR5.out.1 (fun g hl h => HR5.out.2.1 g hl h.1) HR5.out.2.2.1 HH.out.farS hg6 true (by have := crash_waits m a.keep; have := HH.out.km; omega) (by have := crash_waits d a.keep; have := HH.out.kd; omega) (by rw [crash_has]; exact HH.out.m4) (by rw [crash_has]; exact HH.out.d4) (by rw [HH.out.md])
set_option maxRecDepth 100000 in
set_option maxHeartbeats 4000000 in
set_option linter.unusedSimpArgs false in
theorem do_power (w : World) (gd : Nat) (F : Nat → Prop) (m : Dk) (k : Nat) (cs : List Value) (d : Dk) (a : ActV) (S : Option Addr) (n c : Nat) (h : DoPre w gd F m k cs d a S n) (hdo : a.do_ = 7) :
    Calls Try.prog 25 #[.pointer (some ⟨gd, 0, none⟩), .agg cs.toArray, .agg (actCells a S c).toArray] w (DoPost w gd F k cs d S n) := by
  obtain ⟨hok, A0, W0, S0, ca0, cw0, cv0, ecs, hA0, hW0, hS0⟩ := h.ref
  have hRef : RefIs w w.heap.size cs d := h.ref
  have hlen : cs.length = 5 := by rw [ecs]; rfl
  have hone : ∀ v ∈ cs, v.oneCell' = true := by rw [ecs]; exact refCells_one _ _ _ _ _ _ _
  have HC5 := Lib.hid (And.intro hlen (And.intro hone ecs))
  have HH := Lib.hid h
  obtain ⟨X, eX⟩ : ∃ X, actCells a S c = X := ⟨_, rfl⟩
  have HX := Lib.hid eX
  rw [eX]
  obtain ⟨C, eC⟩ : ∃ C, cs.toArray = C := ⟨_, rfl⟩
  obtain ⟨Y, eY⟩ : ∃ Y, X.toArray = Y := ⟨_, rfl⟩
  rw [eC, eY]
  have HCY := Lib.hid (And.intro eC eY)
  clear hok hA0 hW0 hS0 hlen hone h hRef eX eC eY
  clear ecs
  go_enter Try.func25, Try.ntmps25
  go_wp2_with (first | (with_reducible refine st_box 57 ?_; refine stopped ?_) | fail)
  refine go_on ?_
  refine wpList_box rfl 57 (.tmp 1) rfl C rfl ?_
  intro w1 hb1 hw1 hz1
  refine wpList_box rfl 44 (.tmp 2) rfl Y rfl ?_
  intro w2 hb2 hw2 hz2
  refine wpList_alloc rfl 57 rfl _ rdisk_zero ?_
  intro w3 hb3 hw3 hz3
  obtain ⟨g4, e4⟩ : ∃ g, w.heap.size = g := ⟨_, rfl⟩
  have e5 : w1.heap.size = g4 + 1 := by omega
  have e6 : w2.heap.size = g4 + 2 := by omega
  rw [e4] at hb1 hw1 ⊢
  rw [e5] at hb2 hw2 ⊢
  rw [e6] at hb3 hw3 ⊢
  simp only [Act.put, List.setIfInBounds_toArray, List.set_cons_zero, List.set_cons_succ]
  rw [← HCY.out.1] at hb1
  rw [← HCY.out.2] at hb2
  have hbw : Below g4 w w3 := (hw1.trans (hw2.mono (by omega))).trans (hw3.mono (by omega))
  have hst : DoS w w3 gd g4 F F m cs d S n cs d X := ⟨HH.out.code.below (e4.symm ▸ hbw), (HH.out.ref.below (e4.symm ▸ hbw)).more (by omega), HH.out.far, HH.out.ref.beyond (by omega), HH.out.ref.beyond (by omega), fun _ _ h _ => h,
    (hb1.below hw2 (by omega)).below hw3 (by omega), hb2.below hw3 (by omega), hb3, e4, fun g hg => by have := HH.out.code.lt g hg; omega, .of_below (e4.symm ▸ hbw), fun _ => .inl⟩
  have HS := Lib.hid hst
  have hcd : w3.cell? ⟨g4 + 1, 0, none⟩ = some (.int .i64 a.do_) := by rw [hst.b5.cell, ← HX.out]; rfl
  have hca : w3.cell? ⟨g4 + 1, 1, none⟩ = some (.int .i64 a.at_) := by rw [hst.b5.cell, ← HX.out]; rfl
  have hco : w3.cell? ⟨g4 + 1, 2, none⟩ = some (.int .i64 a.off) := by rw [hst.b5.cell, ← HX.out]; rfl
  have hcf : w3.cell? ⟨g4 + 1, 3, none⟩ = some (.int .u8 (a.fill.toNat : Int)) := by rw [hst.b5.cell, ← HX.out]; rfl
  have hck : w3.cell? ⟨g4 + 1, 4, none⟩ = some (.slice S n c) := by rw [hst.b5.cell, ← HX.out, ← HH.out.keep]; rfl
  have hbase := e4
  clear hb1 hb2 hb3 hw1 hw2 hw3 hz1 hz2 hz3 e4 e5 e6 hbw hst
  obtain ⟨pd, epd⟩ : ∃ x, a.do_ = x := ⟨_, rfl⟩
  obtain ⟨pa, epa⟩ : ∃ x, a.at_ = x := ⟨_, rfl⟩
  obtain ⟨po, epo⟩ : ∃ x, a.off = x := ⟨_, rfl⟩
  obtain ⟨fl, efl⟩ : ∃ x, a.fill.toNat = x := ⟨_, rfl⟩
  rw [epd] at hcd
  rw [epa] at hca
  rw [epo] at hco
  rw [efl] at hcf
  have HAt := Lib.hid (And.intro epd (And.intro epa (And.intro epo efl)))
  rw [hdo] at epd
  subst epd
  clear epa epo efl hdo
  go_wp2_with fail
  refine (dkPower w3 gd F m HS.out.code).mono ?_
  rintro e w4 ⟨rfl, h4, hk4⟩
  have HS4 := Lib.hid (HS.out.onCode h4 hk4 (fun _ => .inl))
  clear h4 hk4 hca hco hcf hck
  go_wp2_with (first | (with_reducible refine st_load 57 ?_; refine stopped ?_) | fail)
  refine go_on ?_
  refine wpList_load_at rfl 57 (.tmp 4) rfl g4 0 rfl cs.toArray _ (Blk.cells HS4.out.b4) Try.underlying57 rfl (rsize_arr HC5.out.1) ?_
  simp only [Act.put, List.setIfInBounds_toArray, List.set_cons_zero, List.set_cons_succ]
  go_wp2_with fail
  refine (refPower_any w4 cs d HS4.out.ref).mono ?_
  rintro e w5 ⟨cs5, rfl, hR5, hf5, hb5⟩
  have hsh := hR5.shape
  have HR5 := Lib.hid (And.intro hR5 (And.intro hf5 (And.intro hb5 hsh)))
  clear hR5 hf5 hb5 hsh
  go_wp2_with (first | (with_reducible refine st_store 57 ?_; refine stopped ?_) | fail)
  refine go_on ?_
  refine wpList_store_whole rfl 57 (.tmp 6) (.tmp 125) rfl (g4 + 2) cs5 rfl rfl 57 rzero (HS4.out.b6.below HR5.out.2.2.1 HS4.out.siz) (rsize_of HR5.out.2.2.2.1) (by rw [HR5.out.2.2.2.1]; rfl) HR5.out.2.2.2.2 ?_
  intro w6 hb6 hg6
  simp only [Act.put, List.setIfInBounds_toArray, List.set_cons_zero, List.set_cons_succ]
  repeat (first | go_values | go_skip | go_guarded | go_step)
  refine bodyPost_rowv rfl (g4 + 2) rfl (.bool true) rfl 57 _ _ hb6 Try.underlying57 rfl (rsize_arr HR5.out.2.2.2.1) rfl ?_
  exact HS4.out.doneRef HR5.out.1 (fun g hl h => HR5.out.2.1 g hl h.1) HR5.out.2.2.1 HH.out.farS hg6 true (by simp [Dk.power]) (by simp [Dk.power]) HH.out.m4 HH.out.d4 (by rw [HH.out.md])
end Go.Proofs.Ytnnjneijdfibnaa
