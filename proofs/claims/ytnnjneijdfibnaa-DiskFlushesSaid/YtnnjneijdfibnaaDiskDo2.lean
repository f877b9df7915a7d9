/-
  The law's Do where it arms. Conditions: the theorem's own premises.
-/
import Derived.Test.YtnnjneijdfibnaaDiskDo1
namespace Go.Proofs.Ytnnjneijdfibnaa
open Go.RowKit

theorem flags_row {w : World} {base n c : Nat} {A : Option Addr} {l : List Bool} {t : TypeId} (h : w.ownsRow base t 1 (.slice A n c) n (bvs l)) {j : Nat} (hj : j < n) (hl : l.length = n) :
    ∃ g, A = some ⟨g, 0, none⟩ ∧ w.cell? ⟨g, j, none⟩ = some (.bool (l.getD j false)) ∧ w.frozen? ⟨g, j, none⟩ = false := by
  rcases h.2 with ⟨_, h0⟩ | ⟨g, cap, cur, hv, hg, hh, hr⟩
  · omega
  · injection hv with hA hk hc
    subst hA hc
    refine ⟨g, rfl, ?_, by simp [World.frozen?, hh]⟩
    have := World.ownsRow.cells h (g := g) rfl j _ (bvs_get (by rw [hl]; exact hj))
    rwa [Addr.add_lit, Nat.zero_add] at this
set_option maxRecDepth 100000 in
set_option maxHeartbeats 4000000 in
set_option linter.unusedSimpArgs false in
theorem do_arm (w : World) (gd : Nat) (F : Nat → Prop) (m : Dk) (k : Nat) (cs : List Value) (d : Dk) (a : ActV) (S : Option Addr) (n c : Nat) (h : DoPre w gd F m k cs d a S n) (hdo : a.do_ = 8) :
    Calls Try.prog 25 #[.pointer (some ⟨gd, 0, none⟩), .agg cs.toArray, .agg (actCells a S c).toArray] w (DoPost w gd F k cs d S n) := by
  obtain ⟨hok, A0, W0, S0, ca0, cw0, cv0, ecs, hA0, hW0, hS0⟩ := h.ref
  have hRef : RefIs w w.heap.size cs d := h.ref
  have hlen : cs.length = 5 := by rw [ecs]; rfl
  have hone : ∀ v ∈ cs, v.oneCell' = true := by rw [ecs]; exact refCells_one _ _ _ _ _ _ _
  have HC5 := Lib.hid (And.intro hlen (And.intro hone ecs))
  have HH := Lib.hid h
  obtain ⟨X, eX⟩ : ∃ X, actCells a S c = X := ⟨_, rfl⟩
  have HX := Lib.hid eX
  rw [eX]
  obtain ⟨C, eC⟩ : ∃ C, cs.toArray = C := ⟨_, rfl⟩
  obtain ⟨Y, eY⟩ : ∃ Y, X.toArray = Y := ⟨_, rfl⟩
  rw [eC, eY]
  have HCY := Lib.hid (And.intro eC eY)
  clear hok hA0 hW0 hS0 hlen hone h hRef eX eC eY
  clear ecs
  go_enter Try.func25, Try.ntmps25
  go_wp2_with (first | (with_reducible refine st_box 57 ?_; refine stopped ?_) | fail)
  refine go_on ?_
  refine wpList_box rfl 57 (.tmp 1) rfl C rfl ?_
  intro w1 hb1 hw1 hz1
  refine wpList_box rfl 44 (.tmp 2) rfl Y rfl ?_
  intro w2 hb2 hw2 hz2
  refine wpList_alloc rfl 57 rfl _ rdisk_zero ?_
  intro w3 hb3 hw3 hz3
  obtain ⟨g4, e4⟩ : ∃ g, w.heap.size = g := ⟨_, rfl⟩
  have e5 : w1.heap.size = g4 + 1 := by omega
  have e6 : w2.heap.size = g4 + 2 := by omega
  rw [e4] at hb1 hw1 ⊢
  rw [e5] at hb2 hw2 ⊢
  rw [e6] at hb3 hw3 ⊢
  simp only [Act.put, List.setIfInBounds_toArray, List.set_cons_zero, List.set_cons_succ]
  rw [← HCY.out.1] at hb1
  rw [← HCY.out.2] at hb2
  have hbw : Below g4 w w3 := (hw1.trans (hw2.mono (by omega))).trans (hw3.mono (by omega))
  have hst : DoS w w3 gd g4 F F m cs d S n cs d X := ⟨HH.out.code.below (e4.symm ▸ hbw), (HH.out.ref.below (e4.symm ▸ hbw)).more (by omega), HH.out.far, HH.out.ref.beyond (by omega), HH.out.ref.beyond (by omega), fun _ _ h _ => h,
    (hb1.below hw2 (by omega)).below hw3 (by omega), hb2.below hw3 (by omega), hb3, e4, fun g hg => by have := HH.out.code.lt g hg; omega, .of_below (e4.symm ▸ hbw), fun _ => .inl⟩
  have HS := Lib.hid hst
  have hcd : w3.cell? ⟨g4 + 1, 0, none⟩ = some (.int .i64 a.do_) := by rw [hst.b5.cell, ← HX.out]; rfl
  have hca : w3.cell? ⟨g4 + 1, 1, none⟩ = some (.int .i64 a.at_) := by rw [hst.b5.cell, ← HX.out]; rfl
  have hco : w3.cell? ⟨g4 + 1, 2, none⟩ = some (.int .i64 a.off) := by rw [hst.b5.cell, ← HX.out]; rfl
  have hcf : w3.cell? ⟨g4 + 1, 3, none⟩ = some (.int .u8 (a.fill.toNat : Int)) := by rw [hst.b5.cell, ← HX.out]; rfl
  have hck : w3.cell? ⟨g4 + 1, 4, none⟩ = some (.slice S n c) := by rw [hst.b5.cell, ← HX.out, ← HH.out.keep]; rfl
  have hbase := e4
  clear hb1 hb2 hb3 hw1 hw2 hw3 hz1 hz2 hz3 e4 e5 e6 hbw hst
  obtain ⟨pd, epd⟩ : ∃ x, a.do_ = x := ⟨_, rfl⟩
  obtain ⟨pa, epa⟩ : ∃ x, a.at_ = x := ⟨_, rfl⟩
  obtain ⟨po, epo⟩ : ∃ x, a.off = x := ⟨_, rfl⟩
  obtain ⟨fl, efl⟩ : ∃ x, a.fill.toNat = x := ⟨_, rfl⟩
  rw [epd] at hcd
  rw [epa] at hca
  rw [epo] at hco
  rw [efl] at hcf
  have HAt := Lib.hid (And.intro epd (And.intro epa (And.intro epo efl)))
  rw [hdo] at epd
  subst epd
  clear epa epo efl hdo
  obtain ⟨i0, hi0, hz0, hz1, hz2⟩ := info_parts bool_info
  have hn47 : n ≤ 140737488355328 := by rw [← HH.out.keep]; exact HH.out.act.keep1
  have hckA := fun o => ((below_alloc w3 o).cell (p := ⟨g4 + 1, 4, none⟩) HS.out.b5.lt).trans hck
  go_wp2_with (first
    | (at_builtin
       refine wpList_append_row _ rfl (.tmp 128) (.tmp 130) 35 rfl w3.heap.size 4 i0 _ 1 1 Try.underlying35 hi0 hz0 hz1 hz2 rfl (by decide) _ 0 [] rfl (row_empty w3 w3.heap.size 1 4 (Nat.le_refl _)) w3.heap.size S c n (bvs a.keep) rfl ((HH.out.vsAt HS.out).below (below_alloc w3 _)) (by rw [bvs_length, HH.out.keep, Nat.mul_one]) (bvs_one a.keep) (by omega) (by simp only [maxLen]; omega) (by simp) ?_
       intro v4 w4 hown4 hg4 _
       rw [Nat.zero_add, List.nil_append] at hown4
       obtain ⟨A4, c4, rfl, _, _, hvs4, hlt4⟩ := vs_of_row hown4
       have hbel4 : Below w3.heap.size w3 w4 := (below_alloc w3 _).trans (only_below hg4 (by simp) (fun g' e => by cases e; exact Nat.le_refl _))
       have HS4 := Lib.hid (HS.out.below hbel4)
       have HA4 := Lib.hid (And.intro hown4 (And.intro hvs4 (And.intro hlt4 hbel4)))
       have hca4 : w4.cell? ⟨g4 + 1, 1, none⟩ = some (.int .i64 pa) := by rw [HS4.out.b5.cell, ← HX.out, ← HAt.out.2.1]; rfl
       clear hown4 hvs4 hlt4 hbel4 hg4)
    | (go_at_call 14; refine stopped ?_)
    | fail)
  refine go_on ?_
  have har := dkArm w4 gd F m HS4.out.code pa (by rw [← HAt.out.2.1]; exact HH.out.act.at1.2) A4 a.keep c4 HA4.out.2.1 (fun g hg h0 b o e e2 => by
    have h1 := HS.out.code.lt g hg
    have h2 := (HA4.out.2.2.1 b (by rw [e]; rfl)).1
    omega) (by rw [HH.out.keep]; exact hn47)
  rw [HH.out.keep] at har
  refine har.mono ?_
  rintro e w5 ⟨rfl, F5, h5, hk5, hs5⟩
  have HS5 := Lib.hid (HS4.out.onCode h5 hk5 hs5)
  have hnf : ∀ g, (Value.slice A4 n c4).ownBlock = some g → ¬ F5 g ∧ RefFar cs d g ∧ g4 + 2 < g := fun g e => by
    have h2 := HA4.out.2.2.1 g e
    refine ⟨fun hf => ?_, HS.out.ref.beyond h2.1, by have := HS.out.siz; omega⟩
    rcases hs5 g hf with h3 | h3
    · have := HS.out.code.lt g h3
      omega
    · omega
  have hrow5 : w5.ownsRow w3.heap.size 4 1 (.slice A4 n c4) n (bvs a.keep) := row_keep HA4.out.1 hk5 (fun g e hf => by
    have h2 := HA4.out.2.2.1 g e
    have := HS.out.code.lt g hf
    omega)
  have HA5 := Lib.hid (And.intro hrow5 hnf)
  clear h5 hk5 hs5 hnf hrow5 har hca hco hcf hck hca4 hckA
  go_wp2_with fail
  go_loopw [19] (fun i wz => ∃ (j : Nat) (l : List Bool), j ≤ n ∧ i = .int .i64 (j : Int) ∧ l.length = n ∧ wz.ownsRow w3.heap.size 4 1 (.slice A4 n c4) n (bvs l) ∧ Kept (fun g => (Value.slice A4 n c4).ownBlock = some g) w5 wz) (fun i _ => n - (intOf i).toNat)
  case atStart => exact ⟨0, a.keep, by omega, rfl, HH.out.keep, HA5.out.1, .refl _ _⟩
  case round =>
    obtain ⟨j, l, hj, rfl, hl, hrow, hkept⟩ := hrel
    by_cases hlt : j < n
    · obtain ⟨g, eA, hcell, hfro⟩ := flags_row hrow hlt hl
      obtain ⟨x, ex⟩ : ∃ x, l.getD j false = x := ⟨_, rfl⟩
      rw [ex] at hcell
      have HI := Lib.hid (And.intro hrow (And.intro hkept hl))
      have HAe := Lib.hid eA
      subst eA
      have hji : (j : Int) < (n : Int) := by omega
      have hj0 : (0 : Int) ≤ (j : Int) := by omega
      clear hrow hkept hl ex
      go_wp2_with fail
      go_roundw
      case rel =>
        have hst := World.ownsRow.stored HI.out.1 j (.bool (!x))
        refine ⟨j + 1, l.set j (!x), by omega, by go_num, by simp; exact HI.out.2.2, ?_, HI.out.2.1.trans (Kept.of_grown (F := fun g' => (Value.slice (some ⟨g, 0, none⟩) n c4).ownBlock = some g') hst.2 (fun g' e => .inl (by simpa [Value.ownBlock] using e))) (fun g' hg => .inl hg)⟩
        have e : bvs (l.set j (!x)) = (bvs l).set j (.bool (!x)) := by simp [bvs, List.map_set]
        rw [e]
        exact hst.1
      case measure => simp [intOf]; omega
    · obtain rfl : j = n := by omega
      have HS6 := Lib.hid (HS5.out.other hkept HA5.out.2)
      have hca6 : wr.cell? ⟨g4 + 1, 1, none⟩ = some (.int .i64 pa) := by rw [HS6.out.b5.cell, ← HX.out, ← HAt.out.2.1]; rfl
      have hck6 : wr.cell? ⟨g4 + 1, 4, none⟩ = some (.slice S j c) := by rw [HS6.out.b5.cell, ← HX.out, ← HH.out.keep]; rfl
      have hnl : ¬ (j : Int) < (j : Int) := by omega
      clear hrow hkept hl
      go_wp2_with (first | (with_reducible refine st_load 57 ?_; refine stopped ?_) | fail)
      refine go_on ?_
      refine wpList_load_at rfl 57 (.tmp 4) rfl g4 0 rfl cs.toArray _ (Blk.cells HS6.out.b4) Try.underlying57 rfl (rsize_arr HC5.out.1) ?_
      simp only [Act.put, List.setIfInBounds_toArray, List.set_cons_zero, List.set_cons_succ]
      have hrc := refArm_any wr cs d HS6.out.ref pa (by rw [← HAt.out.2.1]; exact HH.out.act.at1.2) S a.keep c (HH.out.vsAt HS6.out)
      rw [HH.out.keep] at hrc
      have HRc := Lib.hid hrc
      clear hrc
      go_wp2_with fail
      refine HRc.out.mono ?_
      rintro e w7 ⟨cs7, rfl, hR7, hf7, hb7⟩
      rw [HH.out.keep] at hf7
      have hsh := hR7.shape
      have HR7 := Lib.hid (And.intro hR7 (And.intro hf7 (And.intro hb7 hsh)))
      clear hR7 hf7 hb7 hsh
      go_wp2_with (first | (with_reducible refine st_store 57 ?_; refine stopped ?_) | fail)
      refine go_on ?_
      refine wpList_store_whole rfl 57 (.tmp 6) (.tmp 156) rfl (g4 + 2) cs7 rfl rfl 57 rzero (HS6.out.b6.below HR7.out.2.2.1 HS6.out.siz) (rsize_of HR7.out.2.2.2.1) (by rw [HR7.out.2.2.2.1]; rfl) HR7.out.2.2.2.2 ?_
      intro w8 hb8 hg8
      simp only [Act.put, List.setIfInBounds_toArray, List.set_cons_zero, List.set_cons_succ]
      repeat (first | go_values | go_skip | go_guarded | go_step)
      refine bodyPost_rowv rfl (g4 + 2) rfl (.bool true) rfl 57 _ _ hb8 Try.underlying57 rfl (rsize_arr HR7.out.2.2.2.1) rfl ?_
      exact HS6.out.doneRef HR7.out.1 (fun g hl h => HR7.out.2.1 g hl h.1 h.2) HR7.out.2.2.1 (fun g hg => HH.out.farS g (hg.elim (fun h => HS6.out.sub g h) .inr)) hg8 true (by rw [(arm_has m pa a.keep).2]; have := HH.out.km; omega) (by rw [(arm_has d pa a.keep).2]; have := HH.out.kd; omega) (by rw [(arm_has m pa a.keep).1]; exact HH.out.m4) (by rw [(arm_has d pa a.keep).1]; exact HH.out.d4) (by rw [HH.out.md])
end Go.Proofs.Ytnnjneijdfibnaa
