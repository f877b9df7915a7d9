/-
  The law's played, by its contract; Do, whatever the act. Conditions: each theorem's own premises.
-/
import Derived.Test.YtnnjneijdfibnaaDiskDo7
namespace Go.Proofs.Ytnnjneijdfibnaa
open Go.RowKit

theorem do_any (w : World) (gd : Nat) (F : Nat → Prop) (m : Dk) (k : Nat) (cs : List Value) (d : Dk) (a : ActV) (S : Option Addr) (n c : Nat) (h : DoPre w gd F m k cs d a S n) :
    Calls Try.prog 25 #[.pointer (some ⟨gd, 0, none⟩), .agg cs.toArray, .agg (actCells a S c).toArray] w (DoPost w gd F k cs d S n) := by
  by_cases hr : a.do_ < 0 ∨ 9 < a.do_
  · exact do_has w gd F m k cs d a S n c h hr
  · rcases (show a.do_ = 0 ∨ a.do_ = 1 ∨ a.do_ = 2 ∨ a.do_ = 3 ∨ a.do_ = 4 ∨ a.do_ = 5 ∨ a.do_ = 6 ∨ a.do_ = 7 ∨ a.do_ = 8 ∨ a.do_ = 9 by omega) with e | e | e | e | e | e | e | e | e | e
    · exact do_write0 w gd F m k cs d a S n c h e
    · exact do_write1 w gd F m k cs d a S n c h e
    · exact do_write2 w gd F m k cs d a S n c h e
    · exact do_write3 w gd F m k cs d a S n c h e
    · exact do_flush w gd F m k cs d a S n c h e
    · exact do_read w gd F m k cs d a S n c h e
    · exact do_crash w gd F m k cs d a S n c h e
    · exact do_power w gd F m k cs d a S n c h e
    · exact do_arm w gd F m k cs d a S n c h e
    · exact do_load w gd F m k cs d a S n c h e

/-- in the midst of played: the disk says m, and so does the document's, in block g5 -/
structure PlS (w wz : World) (gd g5 : Nat) (F : Nat → Prop) (m : Dk) (cs : List Value) : Prop where
  code : CodeIs wz gd F m
  ref : RefIs wz wz.heap.size cs m
  far : ∀ g, F g → RefFar cs m g
  far5 : RefFar cs m g5
  b5 : Blk wz g5 57 cs.toArray
  dn : ∀ g, F g → w.heap.size ≤ g
  out : ∀ g, F g → g ≠ g5
  bel : Below w.heap.size w wz
  new5 : w.heap.size ≤ g5
section
variable {w wz w' w6 : World} {gd g5 g8 : Nat} {F F' : Nat → Prop} {m m' : Dk} {cs cs' : List Value}
theorem PlS.below (h : PlS w wz gd g5 F m cs) (hb : Below wz.heap.size wz w') : PlS w w' gd g5 F m cs :=
  ⟨h.code.below hb, (h.ref.below hb).more hb.size, h.far, h.far5, h.b5.below hb h.b5.lt, h.dn, h.out, h.bel.trans (hb.mono h.bel.size), h.new5⟩
theorem PlS.next (h : PlS w wz gd g5 F m cs) (h6 : CodeIs w6 gd F' m') (hk : Kept F wz w6) (hs : ∀ g, F' g → F g ∨ wz.heap.size ≤ g) (hR : RefIs w6 w6.heap.size cs' m') (hf : ∀ g, F' g → RefFar cs' m' g) (h5 : RefFar cs' m' g5) (h8 : RefFar cs' m' g8) (h8n : ∀ g, F' g → g ≠ g8) (h8w : w.heap.size ≤ g8)
    (hk12 : Kept (fun g => g = g5 ∨ g = g8) w6 w') (hb : Blk w' g5 57 cs'.toArray) : PlS w w' gd g5 F' m' cs' := by
  have hz := h.bel.size
  have h5l := h.b5.lt
  have h5n : ∀ g, F' g → g ≠ g5 := fun g hg => by
    rcases hs g hg with h1 | h1
    · exact h.out g h1
    · omega
  have hdn : ∀ g, F' g → w.heap.size ≤ g := fun g hg => by
    rcases hs g hg with h1 | h1
    · exact h.dn g h1
    · omega
  refine ⟨h6.keep hk12 (fun g hg h2 => h2.elim (h5n g hg) (h8n g hg)), (hR.keepF (Nat.le_refl _) hk12 (fun g h2 => h2.elim (fun e => e ▸ h5) (fun e => e ▸ h8))).more hk12.size, hf, h5, hb, hdn, h5n, ?_, h.new5⟩
  have h7 := below_kept h.bel hk h.dn
  refine below_kept h7 hk12 (fun g h2 => ?_) h7.size
  rcases h2 with rfl | rfl
  · exact h.new5
  · exact h8w
end
theorem wp_alloc_row {P : Program} {w : World} {o : Oper} {a : Act} {K : Act → World → Prop} {Q : Exit → Act → World → Prop} (ty : TypeId) (ho : o.op = .alloc ty) (cs : Array Value) (hz : (P.info? ty).map (·.zero) = some (some (.agg cs)))
    (h : ∀ w', Blk w' w.heap.size ty cs → Below w.heap.size w w' → w'.heap.size = w.heap.size + 1 → K (a.put o.dst (.pointer (some ⟨w.heap.size, 0, none⟩))) w') : o.wp P a w K Q := by
  have e : (Instr.alloc ty true (.tuple #[])).run P w = .ok (.pointer (some ⟨w.heap.size, 0, none⟩)) (w.alloc (.cells cs ty)) := by
    cases hq : P.info? ty with
    | none => simp [hq] at hz
    | some i =>
      have hs : i.zero = some (.agg cs) := by simpa [hq] using hz
      simp [Instr.alloc, zeroValue, typeInfo, hq, hs, newVar, newRow, Value.cells]
  unfold Oper.wp execOp
  simp only [ho, Sem.run_bind, Sem.run_pure, Result.andThen_ok, e]
  exact h _ (Blk.new w ty cs) (below_alloc w _) (by simp)
def PlayedPost (w : World) (e : Ending) (w' : World) : Prop :=
  ∃ gd F m, e = .returned (.pointer (some ⟨gd, 0, none⟩)) ∧ CodeIs w' gd F m ∧ (∀ g, F g → w.heap.size ≤ g) ∧ Below w.heap.size w w' ∧ m.waits.length ≤ 40 ∧ m.has.length = 4
set_option maxRecDepth 100000 in
set_option maxHeartbeats 4000000 in
set_option linter.unusedSimpArgs false in
theorem played_any (A : Option Addr) (na ca : Nat) (w : World) (hA : Acts w A na) (hna : na ≤ 9223372036854775807) : Calls Try.prog 13 #[.slice A na ca] w (PlayedPost w) := by
  have HAr := Lib.hid hA
  clear hA
  go_enter Try.func13, Try.ntmps13
  go_wp2_with fail
  refine (dkNew_yes w 4 (by decide) (by decide)).mono ?_
  rintro e w1 ⟨gd, F0, rfl, h1, hb1, hF1⟩
  have H1 := Lib.hid (And.intro h1 (And.intro hb1 hF1))
  clear h1 hb1 hF1
  go_wp2_with fail
  refine (refNew_yes 4 (by decide) (by decide) w1).mono ?_
  rintro e w2 ⟨cs0, rfl, hR2, hb2, A0, c0, ecs, hnew⟩
  have hfar0 : ∀ g, F0 g → RefFar cs0 (Dk.new 4) g := fun g hg => by
    have hlt := H1.out.1.lt g hg
    rw [ecs]
    refine ref_far ⟨fun _ b o e e2 => ?_, fun h => by simp [Dk.new] at h, fun h => by simp [Dk.new] at h⟩
    have := hnew b o e
    omega
  have HF0 := Lib.hid hfar0
  have H2 := Lib.hid (And.intro hR2 hb2)
  clear ecs hnew hfar0
  have hsh := hR2.shape
  have HSh := Lib.hid hsh
  clear hR2 hb2 hsh
  go_wp2_with (first | (with_reducible refine st_alloc 57 ?_; refine stopped ?_) | fail)
  refine go_on ?_
  refine wpList_alloc rfl 57 rfl _ rdisk_zero ?_
  intro w3 hb3 hw3 hz3
  obtain ⟨g5, e5⟩ : ∃ g, w2.heap.size = g := ⟨_, rfl⟩
  rw [e5] at hb3 ⊢
  refine wpList_store_whole rfl 57 (.tmp 5) (.tmp 16) rfl g5 cs0 rfl rfl 57 rzero hb3 (rsize_of HSh.out.1) (by rw [HSh.out.1]; rfl) HSh.out.2 ?_
  intro w4 hb4 hg4
  simp only [Act.put, List.setIfInBounds_toArray, List.set_cons_zero, List.set_cons_succ]
  have hP : PlS w w4 gd g5 F0 (Dk.new 4) cs0 := by
    have k1 := H1.out.2.1.size
    have k2 := H2.out.2.size
    have hbel : Below w2.heap.size w2 w4 := hw3.trans (only_below hg4 (by omega) (fun g e => by cases e; omega))
    exact ⟨(H1.out.1.below H2.out.2).below hbel, (H2.out.1.below hbel).more hbel.size, HF0.out, H2.out.1.beyond (by omega), hb4, H1.out.2.2, fun g hg => by have := H1.out.1.lt g hg; omega, (H1.out.2.1.trans (H2.out.2.mono k1)).trans (hbel.mono (by omega)), by omega⟩
  have HP := Lib.hid hP
  clear hb3 hw3 hz3 hb4 hg4 hP e5
  have hfar : ∀ (S : Option Addr) (l : List Bool), Vs w w.heap.size S (bvs l) → ∀ g, w.heap.size ≤ g → Far S l.length g := fun S l hS g hg h0 b o e e2 => by
    obtain ⟨b', o', e', hb, _⟩ := hS (by rw [bvs_length]; exact h0)
    rw [e] at e'
    injection e' with e'
    injection e' with e1
    omega
  have HFarAll := Lib.hid hfar
  have hw0 : (Dk.new 4).waits.length ≤ 0 ∧ (Dk.new 4).has.length = 4 := ⟨by simp [Dk.new], by simp [Dk.new]⟩
  have HW0 := Lib.hid hw0
  clear hfar hw0
  go_wp2_with fail
  go_loopw [7] (fun i wz => ∃ (k : Nat) (F : Nat → Prop) (m : Dk) (cs : List Value), k ≤ na ∧ k ≤ 40 ∧ i = .int .i64 (k : Int) ∧ PlS w wz gd g5 F m cs ∧ m.waits.length ≤ k ∧ m.has.length = 4) (fun i _ => 40 - (intOf i).toNat)
  case atStart => exact ⟨0, F0, _, cs0, by omega, by omega, rfl, HP.out, HW0.out.1, HW0.out.2⟩
  case round =>
    obtain ⟨k, F, m, cs, hkn, hk40, rfl, hPl, hmw, hmh⟩ := hrel
    have HI := Lib.hid (And.intro hPl (And.intro hmw (And.intro hmh hPl.ref.shape)))
    clear hPl hmw hmh
    by_cases hlt : k < na
    · by_cases hlt2 : k < 40
      · obtain ⟨b, o, eA, hbA, hAi⟩ := HAr.out (by omega)
        obtain ⟨a, Sa, cka, haok, hcells, hSa⟩ := hAi k hlt
        obtain ⟨X, eX⟩ : ∃ X, actCells a Sa cka = X := ⟨_, rfl⟩
        rw [eX] at hcells
        have hXl : X.length = 5 := by rw [← eX]; rfl
        have HX := Lib.hid (And.intro (congrArg List.toArray eX) (And.intro hXl (And.intro eA haok)))
        have HSa := Lib.hid (And.intro hSa (And.intro hcells hbA))
        have hki : (k : Int) < (na : Int) := by omega
        have hki2 : (k : Int) < 40 := by omega
        have hk0 : (0 : Int) ≤ (k : Int) := by omega
        subst eA
        clear eX hXl haok hSa hcells hAi hbA
        go_wp2_with fail
        obtain ⟨gq, egq⟩ : ∃ g, wr.heap.size = g := ⟨_, rfl⟩
        have hcw : Cells wr b (o + k * 5) X.toArray := fun j v hv => (HI.out.1.bel.cell (p := ⟨b, o + k * 5 + j, none⟩) HSa.out.2.2).trans (HSa.out.2.1 j v hv)
        have hS0 : (fun w' => Blk w' g5 57 cs.toArray ∧ Cells w' b (o + k * 5) X.toArray) wr.drew := ⟨HI.out.1.b5, hcw⟩
        refine wp_region_held_drew (S := fun w' => Blk w' g5 57 cs.toArray ∧ Cells w' b (o + k * 5) X.toArray) (by kernel_rfl) hS0 (fun hHeld => ?_)
        refine wpAnyH_take (i := 0) (v := ?_) (List.getElem?_toArray.trans (List.getElem?_cons_zero)) (by kernel_rfl) (by kernel_rfl) (by kernel_rfl) (fun _ _ _ h => h) (Or.inl ⟨by rfl, ?_⟩) (by assumption) ?_
        rotate_left
        · intro w' hSw; (try dsimp only at hSw); go_simp; try with_reducible rfl
        try simp only [Act.put, List.setIfInBounds_toArray, List.set_cons_zero, List.set_cons_succ]
        refine wpAnyH_take (i := 1) (v := .agg cs.toArray) (List.getElem?_toArray.trans (List.getElem?_cons_succ.trans (List.getElem?_cons_zero))) (by kernel_rfl) (by kernel_rfl) (by kernel_rfl) (fun _ _ _ h => h) (Or.inl ⟨by rfl, ?_⟩) (by assumption) ?_
        · intro w' hSw; exact exec_load_row 57 (.tmp 5) rfl g5 0 rfl cs.toArray _ (Blk.cells hSw.1) Try.underlying57 rfl (rsize_arr HI.out.2.2.2.1)
        try simp only [Act.put, List.setIfInBounds_toArray, List.set_cons_zero, List.set_cons_succ]
        refine wpAnyH_take (i := 2) (v := ?_) (List.getElem?_toArray.trans (List.getElem?_cons_succ.trans (List.getElem?_cons_succ.trans (List.getElem?_cons_zero)))) (by kernel_rfl) (by kernel_rfl) (by kernel_rfl) (fun _ _ _ h => h) (Or.inl ⟨by rfl, ?_⟩) (by assumption) ?_
        rotate_left
        · intro w' hSw; (try dsimp only at hSw); go_simp; try with_reducible rfl
        try simp only [Act.put, List.setIfInBounds_toArray, List.set_cons_zero, List.set_cons_succ]
        refine wpAnyH_take (i := 3) (v := ?_) (List.getElem?_toArray.trans (List.getElem?_cons_succ.trans (List.getElem?_cons_succ.trans (List.getElem?_cons_succ.trans (List.getElem?_cons_zero))))) (by kernel_rfl) (by kernel_rfl) (by kernel_rfl) (fun _ _ _ h => h) (Or.inl ⟨by rfl, ?_⟩) (by assumption) ?_
        rotate_left
        · intro w' hSw; (try dsimp only at hSw); go_simp; try with_reducible rfl
        try simp only [Act.put, List.setIfInBounds_toArray, List.set_cons_zero, List.set_cons_succ]
        refine wpAnyH_take (i := 4) (v := ?_) (List.getElem?_toArray.trans (List.getElem?_cons_succ.trans (List.getElem?_cons_succ.trans (List.getElem?_cons_succ.trans (List.getElem?_cons_succ.trans (List.getElem?_cons_zero)))))) (by kernel_rfl) (by kernel_rfl) (by kernel_rfl) (fun _ _ _ h => h) (Or.inl ⟨by rfl, ?_⟩) (by assumption) ?_
        rotate_left
        · intro w' hSw; (try dsimp only at hSw); go_simp; try with_reducible rfl
        try simp only [Act.put, List.setIfInBounds_toArray, List.set_cons_zero, List.set_cons_succ]
        refine wpAnyH_take (i := 5) (v := .agg X.toArray) (List.getElem?_toArray.trans (List.getElem?_cons_succ.trans (List.getElem?_cons_succ.trans (List.getElem?_cons_succ.trans (List.getElem?_cons_succ.trans (List.getElem?_cons_succ.trans (List.getElem?_cons_zero))))))) (by kernel_rfl) (by kernel_rfl) (by kernel_rfl) (fun _ _ _ h => h) (Or.inl ⟨by rfl, ?_⟩) (by assumption) ?_
        · intro w' hSw; exact exec_load_row 44 (.tmp 33) rfl b (o + k * 5) rfl X.toArray _ hSw.2 Try.underlying44 rfl (by rw [List.size_toArray, HX.out.2.1]; exact act_size)
        try simp only [Act.put, List.setIfInBounds_toArray, List.set_cons_zero, List.set_cons_succ]
        have HQ := Lib.hid (HI.out.1.below ((Below.refl wr.heap.size wr).drew))
        have HCw := Lib.hid hcw
        clear hcw
        refine wpAnyH_ready (rs := [6, 10]) (by kernel_rfl) (by simp) ?_
        refine AllReadyH.cons (List.getElem?_toArray.trans (List.getElem?_cons_succ.trans (List.getElem?_cons_succ.trans (List.getElem?_cons_succ.trans (List.getElem?_cons_succ.trans (List.getElem?_cons_succ.trans (List.getElem?_cons_succ.trans (List.getElem?_cons_zero)))))))) (fun K hK => ?_) ?_
        · go_simp
          have hdo := do_any wr.drew gd F m k cs m a Sa a.keep.length cka ⟨HQ.out.code, HQ.out.ref, HQ.out.far, HI.out.2.1, HI.out.2.1, by omega, HI.out.2.2.1, HI.out.2.2.1, rfl, HX.out.2.2.2, rfl, (HSa.out.1.below HQ.out.bel).more HQ.out.bel.size, fun g hg => HFarAll.out Sa a.keep HSa.out.1 g (hg.elim (fun h => HQ.out.dn g h) (fun h => Nat.le_trans HQ.out.bel.size h))⟩
          rw [HX.out.1] at hdo
          refine hdo.mono ?_
          rintro e w6 ⟨F6, m6, cs6, d6, b6, rfl, h6, hk6, hs6, hR6, hf6, hfo6, hw6, _, hm6, _, rfl⟩
          have HD6 := Lib.hid (And.intro h6 (And.intro hk6 (And.intro hs6 (And.intro hR6 (And.intro hf6 (And.intro hfo6 (And.intro hw6 hm6)))))))
          have hsh6 := hR6.shape
          have HSh6 := Lib.hid hsh6
          have hS6 : (fun w' => Blk w' g5 57 cs.toArray ∧ Cells w' b (o + k * 5) X.toArray) w6 := ⟨hk6.blk HQ.out.b5 (fun h => HQ.out.out _ h rfl), fun j v hv => (World.cell?_of_block (hk6.block b (by have := HSa.out.2.2; have := HQ.out.bel.size; omega) (fun h => by have := HQ.out.dn b h; have := HSa.out.2.2; omega))).trans (HCw.out j v hv)⟩
          clear hdo h6 hk6 hs6 hR6 hf6 hfo6 hw6 hm6 hsh6
          refine hK.out _ _ hS6 (fun hHeld => ?_)
          clear hK K
          try simp only [Act.put, List.setIfInBounds_toArray, List.set_cons_zero, List.set_cons_succ]
          refine wpAnyH_take (i := 7) (v := ?_) (List.getElem?_toArray.trans (List.getElem?_cons_succ.trans (List.getElem?_cons_succ.trans (List.getElem?_cons_succ.trans (List.getElem?_cons_succ.trans (List.getElem?_cons_succ.trans (List.getElem?_cons_succ.trans (List.getElem?_cons_succ.trans (List.getElem?_cons_zero))))))))) (by kernel_rfl) (by kernel_rfl) (by kernel_rfl) (fun _ _ _ h => h) (Or.inl ⟨by rfl, ?_⟩) (by assumption) ?_
          rotate_left
          · intro w' hSw; (try dsimp only at hSw); go_simp; try with_reducible rfl
          try simp only [Act.put, List.setIfInBounds_toArray, List.set_cons_zero, List.set_cons_succ]
          refine wpAnyH_take (i := 8) (v := ?_) (List.getElem?_toArray.trans (List.getElem?_cons_succ.trans (List.getElem?_cons_succ.trans (List.getElem?_cons_succ.trans (List.getElem?_cons_succ.trans (List.getElem?_cons_succ.trans (List.getElem?_cons_succ.trans (List.getElem?_cons_succ.trans (List.getElem?_cons_succ.trans (List.getElem?_cons_zero)))))))))) (by kernel_rfl) (by kernel_rfl) (by kernel_rfl) (fun _ _ _ h => h) (Or.inl ⟨by rfl, ?_⟩) (by assumption) ?_
          rotate_left
          · intro w' hSw; (try dsimp only at hSw); go_simp; try with_reducible rfl
          try simp only [Act.put, List.setIfInBounds_toArray, List.set_cons_zero, List.set_cons_succ]
          refine wpAnyH_take (i := 9) (v := ?_) (List.getElem?_toArray.trans (List.getElem?_cons_succ.trans (List.getElem?_cons_succ.trans (List.getElem?_cons_succ.trans (List.getElem?_cons_succ.trans (List.getElem?_cons_succ.trans (List.getElem?_cons_succ.trans (List.getElem?_cons_succ.trans (List.getElem?_cons_succ.trans (List.getElem?_cons_succ.trans (List.getElem?_cons_zero))))))))))) (by kernel_rfl) (by kernel_rfl) (by kernel_rfl) (fun _ _ _ h => h) (Or.inl ⟨by rfl, ?_⟩) (by assumption) ?_
          rotate_left
          · intro w' hSw; (try dsimp only at hSw); go_simp; try with_reducible rfl
          try simp only [Act.put, List.setIfInBounds_toArray, List.set_cons_zero, List.set_cons_succ]
          refine wpAnyH_ready (rs := [10]) (by kernel_rfl) (by simp) ?_
          refine AllReadyH.cons (List.getElem?_toArray.trans (List.getElem?_cons_succ.trans (List.getElem?_cons_succ.trans (List.getElem?_cons_succ.trans (List.getElem?_cons_succ.trans (List.getElem?_cons_succ.trans (List.getElem?_cons_succ.trans (List.getElem?_cons_succ.trans (List.getElem?_cons_succ.trans (List.getElem?_cons_succ.trans (List.getElem?_cons_succ.trans (List.getElem?_cons_zero)))))))))))) (fun K hK => ?_) AllReadyH.nil
          refine wp_alloc_row 57 rfl _ rdisk_zero ?_
          intro w10 hb10 hw10 hz10
          obtain ⟨g8, e8⟩ : ∃ g, w6.heap.size = g := ⟨_, rfl⟩
          rw [e8] at hb10 ⊢
          have hl6 : g5 < w6.heap.size := hS6.1.lt
          have hlb : b < w6.heap.size := by have := HSa.out.2.2; have := HQ.out.bel.size; have := HD6.out.2.1.size; omega
          have hS10 : (fun w' => Blk w' g5 57 cs.toArray ∧ Cells w' b (o + k * 5) X.toArray) w10 := ⟨hS6.1.below hw10 hl6, fun j v hv => (hw10.cell (p := ⟨b, o + k * 5 + j, none⟩) hlb).trans (hS6.2 j v hv)⟩
          refine hK.out _ _ hS10 (fun hHeld => ?_)
          clear hK K
          try simp only [Act.put, List.setIfInBounds_toArray, List.set_cons_zero, List.set_cons_succ]
          refine wpAnyH_ready (rs := [11]) (by kernel_rfl) (by simp) ?_
          refine AllReadyH.cons (List.getElem?_toArray.trans (List.getElem?_cons_succ.trans (List.getElem?_cons_succ.trans (List.getElem?_cons_succ.trans (List.getElem?_cons_succ.trans (List.getElem?_cons_succ.trans (List.getElem?_cons_succ.trans (List.getElem?_cons_succ.trans (List.getElem?_cons_succ.trans (List.getElem?_cons_succ.trans (List.getElem?_cons_succ.trans (List.getElem?_cons_succ.trans (List.getElem?_cons_zero))))))))))))) (fun K hK => ?_) AllReadyH.nil
          refine wp_store_row 57 (.tmp 8) (.tmp 36) rfl g8 cs6 rfl rfl 57 rzero hb10 (rsize_of HSh6.out.1) (by rw [HSh6.out.1]; rfl) HSh6.out.2 ?_
          intro w11 hb11 hg11
          have hS11 : (fun w' => Blk w' g5 57 cs.toArray ∧ Cells w' b (o + k * 5) X.toArray) w11 := ⟨hS10.1.grown hg11 (some_neq (by omega)), fun j v hv => (World.cell?_of_block (hg11.block b (by have := hw10.size; omega) (some_neq (by omega)))).trans (hS10.2 j v hv)⟩
          refine hK.out _ _ hS11 (fun hHeld => ?_)
          clear hK K
          try simp only [Act.put, List.setIfInBounds_toArray, List.set_cons_zero, List.set_cons_succ]
          refine wpAnyH_take (i := 12) (v := ?_) (List.getElem?_toArray.trans (List.getElem?_cons_succ.trans (List.getElem?_cons_succ.trans (List.getElem?_cons_succ.trans (List.getElem?_cons_succ.trans (List.getElem?_cons_succ.trans (List.getElem?_cons_succ.trans (List.getElem?_cons_succ.trans (List.getElem?_cons_succ.trans (List.getElem?_cons_succ.trans (List.getElem?_cons_succ.trans (List.getElem?_cons_succ.trans (List.getElem?_cons_succ.trans (List.getElem?_cons_zero)))))))))))))) (by kernel_rfl) (by kernel_rfl) (by kernel_rfl) (fun _ _ _ h => h) (Or.inl ⟨by rfl, ?_⟩) (by assumption) ?_
          rotate_left
          · intro w' hSw; (try dsimp only at hSw); go_simp; try with_reducible rfl
          try simp only [Act.put, List.setIfInBounds_toArray, List.set_cons_zero, List.set_cons_succ]
          refine wpAnyH_done (by kernel_rfl) ?_ _
          have hb5o := hS11.1
          have hkA : Kept (fun g => g = g5 ∨ g = g8) w6 w11 := (Kept.of_below (F := fun g => g = g5 ∨ g = g8) hw10).trans (Kept.of_grown (F := fun g => g = g5 ∨ g = g8) hg11 (fun g e => .inl (.inr (Option.some.inj e).symm))) (fun g hg => .inl hg)
          have HK := Lib.hid hkA
          clear hkA
          go_wp2_with (first | (with_reducible refine st_load 57 ?_; refine stopped ?_) | fail)
          refine go_on ?_
          refine wpList_load_at rfl 57 (.tmp 8) rfl g8 0 rfl cs6.toArray _ (Blk.cells hb11) Try.underlying57 rfl (rsize_arr HSh6.out.1) ?_
          refine wpList_store_whole rfl 57 (.tmp 5) (.tmp 38) rfl g5 cs6 rfl rfl 57 cs hb5o (rsize_of HSh6.out.1) (by rw [HI.out.2.2.2.1, HSh6.out.1]) HSh6.out.2 ?_
          intro w12 hb12 hg12
          simp only [Act.put, List.setIfInBounds_toArray, List.set_cons_zero, List.set_cons_succ]
          have hk12 : Kept (fun g => g = g5 ∨ g = g8) w6 w12 := HK.out.trans (Kept.of_grown (F := fun g => g = g5 ∨ g = g8) hg12 (fun g e => .inl (.inl (Option.some.inj e).symm))) (fun g hg => .inl hg)
          have hq5 := HQ.out.b5.lt
          have hfin := HQ.out.next (g8 := g8) HD6.out.1 HD6.out.2.1 HD6.out.2.2.1 HD6.out.2.2.2.1 HD6.out.2.2.2.2.1 (HD6.out.2.2.2.2.2.1 g5 hq5 HQ.out.far5 (HFarAll.out Sa a.keep HSa.out.1 g5 HQ.out.new5)) (HD6.out.2.2.2.1.beyond (by omega)) (fun g hg => by have := HD6.out.1.lt g hg; omega) (by have := HQ.out.bel.size; have := HD6.out.2.1.size; omega) hk12 hb12
          have HFin := Lib.hid hfin
          clear hfin hk12 hq5 hb12 hg12 hb11 hg11 hb10 hw10 hz10 hS6 hS10 hS11 hb5o
          go_wp2_with fail
          go_roundw
          case rel => exact ⟨k + 1, F6, m6, cs6, by omega, by omega, by go_num, HFin.out, HD6.out.2.2.2.2.2.2.1, HD6.out.2.2.2.2.2.2.2⟩
          case measure => simp [intOf]; omega
        · refine AllReadyH.cons (List.getElem?_toArray.trans (List.getElem?_cons_succ.trans (List.getElem?_cons_succ.trans (List.getElem?_cons_succ.trans (List.getElem?_cons_succ.trans (List.getElem?_cons_succ.trans (List.getElem?_cons_succ.trans (List.getElem?_cons_succ.trans (List.getElem?_cons_succ.trans (List.getElem?_cons_succ.trans (List.getElem?_cons_succ.trans (List.getElem?_cons_zero)))))))))))) (fun K hK => ?_) AllReadyH.nil
          refine wp_alloc_row 57 rfl _ rdisk_zero ?_
          intro w10 hb10 hw10 hz10
          obtain ⟨g8, e8⟩ : ∃ g, wr.drew.heap.size = g := ⟨_, rfl⟩
          rw [e8] at hb10 ⊢
          have HQ2 := Lib.hid (HQ.out.below hw10)
          have hcw2 : Cells w10 b (o + k * 5) X.toArray := fun j v hv => (hw10.cell (p := ⟨b, o + k * 5 + j, none⟩) (show b < _ by have := HSa.out.2.2; have := HQ.out.bel.size; omega)).trans (HCw.out j v hv)
          have HCw2 := Lib.hid hcw2
          have hS10 : (fun w' => Blk w' g5 57 cs.toArray ∧ Cells w' b (o + k * 5) X.toArray) w10 := ⟨HQ2.out.b5, hcw2⟩
          have hFn : ∀ g, F g → g ≠ g8 := fun g hg => by have := HQ.out.code.lt g hg; omega
          have HB10 := Lib.hid (And.intro hb10 (And.intro e8 hFn))
          clear hcw2 hFn
          refine hK.out _ _ hS10 (fun hHeld => ?_)
          clear hK K
          try simp only [Act.put, List.setIfInBounds_toArray, List.set_cons_zero, List.set_cons_succ]
          refine wpAnyH_ready (rs := [6]) (by kernel_rfl) (by simp) ?_
          refine AllReadyH.cons (List.getElem?_toArray.trans (List.getElem?_cons_succ.trans (List.getElem?_cons_succ.trans (List.getElem?_cons_succ.trans (List.getElem?_cons_succ.trans (List.getElem?_cons_succ.trans (List.getElem?_cons_succ.trans (List.getElem?_cons_zero)))))))) (fun K hK => ?_) AllReadyH.nil
          go_simp
          have hdo := do_any w10 gd F m k cs m a Sa a.keep.length cka ⟨HQ2.out.code, HQ2.out.ref, HQ2.out.far, HI.out.2.1, HI.out.2.1, by omega, HI.out.2.2.1, HI.out.2.2.1, rfl, HX.out.2.2.2, rfl, (HSa.out.1.below HQ2.out.bel).more HQ2.out.bel.size, fun g hg => HFarAll.out Sa a.keep HSa.out.1 g (hg.elim (fun h => HQ2.out.dn g h) (fun h => Nat.le_trans HQ2.out.bel.size h))⟩
          rw [HX.out.1] at hdo
          refine hdo.mono ?_
          rintro e w6 ⟨F6, m6, cs6, d6, b6, rfl, h6, hk6, hs6, hR6, hf6, hfo6, hw6, _, hm6, _, rfl⟩
          have HD6 := Lib.hid (And.intro h6 (And.intro hk6 (And.intro hs6 (And.intro hR6 (And.intro hf6 (And.intro hfo6 (And.intro hw6 hm6)))))))
          have hsh6 := hR6.shape
          have HSh6 := Lib.hid hsh6
          have hS6 : (fun w' => Blk w' g5 57 cs.toArray ∧ Cells w' b (o + k * 5) X.toArray) w6 := ⟨hk6.blk HQ2.out.b5 (fun h => HQ2.out.out _ h rfl), fun j v hv => (World.cell?_of_block (hk6.block b (by have := HSa.out.2.2; have := HQ2.out.bel.size; omega) (fun h => by have := HQ2.out.dn b h; have := HSa.out.2.2; omega))).trans (HCw2.out j v hv)⟩
          clear hdo h6 hk6 hs6 hR6 hf6 hfo6 hw6 hm6 hsh6
          have hb6 := HD6.out.2.1.blk HB10.out.1 (fun h => HB10.out.2.2 _ h rfl)
          refine hK.out _ _ hS6 (fun hHeld => ?_)
          clear hK K
          try simp only [Act.put, List.setIfInBounds_toArray, List.set_cons_zero, List.set_cons_succ]
          refine wpAnyH_take (i := 7) (v := ?_) (List.getElem?_toArray.trans (List.getElem?_cons_succ.trans (List.getElem?_cons_succ.trans (List.getElem?_cons_succ.trans (List.getElem?_cons_succ.trans (List.getElem?_cons_succ.trans (List.getElem?_cons_succ.trans (List.getElem?_cons_succ.trans (List.getElem?_cons_zero))))))))) (by kernel_rfl) (by kernel_rfl) (by kernel_rfl) (fun _ _ _ h => h) (Or.inl ⟨by rfl, ?_⟩) (by assumption) ?_
          rotate_left
          · intro w' hSw; (try dsimp only at hSw); go_simp; try with_reducible rfl
          try simp only [Act.put, List.setIfInBounds_toArray, List.set_cons_zero, List.set_cons_succ]
          refine wpAnyH_take (i := 8) (v := ?_) (List.getElem?_toArray.trans (List.getElem?_cons_succ.trans (List.getElem?_cons_succ.trans (List.getElem?_cons_succ.trans (List.getElem?_cons_succ.trans (List.getElem?_cons_succ.trans (List.getElem?_cons_succ.trans (List.getElem?_cons_succ.trans (List.getElem?_cons_succ.trans (List.getElem?_cons_zero)))))))))) (by kernel_rfl) (by kernel_rfl) (by kernel_rfl) (fun _ _ _ h => h) (Or.inl ⟨by rfl, ?_⟩) (by assumption) ?_
          rotate_left
          · intro w' hSw; (try dsimp only at hSw); go_simp; try with_reducible rfl
          try simp only [Act.put, List.setIfInBounds_toArray, List.set_cons_zero, List.set_cons_succ]
          refine wpAnyH_take (i := 9) (v := ?_) (List.getElem?_toArray.trans (List.getElem?_cons_succ.trans (List.getElem?_cons_succ.trans (List.getElem?_cons_succ.trans (List.getElem?_cons_succ.trans (List.getElem?_cons_succ.trans (List.getElem?_cons_succ.trans (List.getElem?_cons_succ.trans (List.getElem?_cons_succ.trans (List.getElem?_cons_succ.trans (List.getElem?_cons_zero))))))))))) (by kernel_rfl) (by kernel_rfl) (by kernel_rfl) (fun _ _ _ h => h) (Or.inl ⟨by rfl, ?_⟩) (by assumption) ?_
          rotate_left
          · intro w' hSw; (try dsimp only at hSw); go_simp; try with_reducible rfl
          try simp only [Act.put, List.setIfInBounds_toArray, List.set_cons_zero, List.set_cons_succ]
          refine wpAnyH_ready (rs := [11]) (by kernel_rfl) (by simp) ?_
          refine AllReadyH.cons (List.getElem?_toArray.trans (List.getElem?_cons_succ.trans (List.getElem?_cons_succ.trans (List.getElem?_cons_succ.trans (List.getElem?_cons_succ.trans (List.getElem?_cons_succ.trans (List.getElem?_cons_succ.trans (List.getElem?_cons_succ.trans (List.getElem?_cons_succ.trans (List.getElem?_cons_succ.trans (List.getElem?_cons_succ.trans (List.getElem?_cons_succ.trans (List.getElem?_cons_zero))))))))))))) (fun K hK => ?_) AllReadyH.nil
          refine wp_store_row 57 (.tmp 8) (.tmp 36) rfl g8 cs6 rfl rfl 57 rzero hb6 (rsize_of HSh6.out.1) (by rw [HSh6.out.1]; rfl) HSh6.out.2 ?_
          intro w11 hb11 hg11
          have hl5 := HQ.out.b5.lt
          have hlb : b < g8 := by have := HSa.out.2.2; have := HQ.out.bel.size; omega
          have hS11 : (fun w' => Blk w' g5 57 cs.toArray ∧ Cells w' b (o + k * 5) X.toArray) w11 := ⟨hS6.1.grown hg11 (some_neq (by omega)), fun j v hv => (World.cell?_of_block (hg11.block b (by have := HB10.out.1.lt; have := HD6.out.2.1.size; omega) (some_neq (by omega)))).trans (hS6.2 j v hv)⟩
          refine hK.out _ _ hS11 (fun hHeld => ?_)
          clear hK K
          try simp only [Act.put, List.setIfInBounds_toArray, List.set_cons_zero, List.set_cons_succ]
          refine wpAnyH_take (i := 12) (v := ?_) (List.getElem?_toArray.trans (List.getElem?_cons_succ.trans (List.getElem?_cons_succ.trans (List.getElem?_cons_succ.trans (List.getElem?_cons_succ.trans (List.getElem?_cons_succ.trans (List.getElem?_cons_succ.trans (List.getElem?_cons_succ.trans (List.getElem?_cons_succ.trans (List.getElem?_cons_succ.trans (List.getElem?_cons_succ.trans (List.getElem?_cons_succ.trans (List.getElem?_cons_succ.trans (List.getElem?_cons_zero)))))))))))))) (by kernel_rfl) (by kernel_rfl) (by kernel_rfl) (fun _ _ _ h => h) (Or.inl ⟨by rfl, ?_⟩) (by assumption) ?_
          rotate_left
          · intro w' hSw; (try dsimp only at hSw); go_simp; try with_reducible rfl
          try simp only [Act.put, List.setIfInBounds_toArray, List.set_cons_zero, List.set_cons_succ]
          refine wpAnyH_done (by kernel_rfl) ?_ _
          have hb5o := hS11.1
          have HK := Lib.hid (Kept.of_grown (F := fun g => g = g5 ∨ g = g8) hg11 (fun g e => .inl (.inr (Option.some.inj e).symm)))
          go_wp2_with (first | (with_reducible refine st_load 57 ?_; refine stopped ?_) | fail)
          refine go_on ?_
          refine wpList_load_at rfl 57 (.tmp 8) rfl g8 0 rfl cs6.toArray _ (Blk.cells hb11) Try.underlying57 rfl (rsize_arr HSh6.out.1) ?_
          refine wpList_store_whole rfl 57 (.tmp 5) (.tmp 38) rfl g5 cs6 rfl rfl 57 cs hb5o (rsize_of HSh6.out.1) (by rw [HI.out.2.2.2.1, HSh6.out.1]) HSh6.out.2 ?_
          intro w12 hb12 hg12
          simp only [Act.put, List.setIfInBounds_toArray, List.set_cons_zero, List.set_cons_succ]
          have hk12 : Kept (fun g => g = g5 ∨ g = g8) w6 w12 := HK.out.trans (Kept.of_grown (F := fun g => g = g5 ∨ g = g8) hg12 (fun g e => .inl (.inl (Option.some.inj e).symm))) (fun g hg => .inl hg)
          have hq5 := HQ2.out.b5.lt
          have h8w : w.heap.size ≤ g8 := by have := HQ.out.bel.size; omega
          have hfin := HQ2.out.next (g8 := g8) HD6.out.1 HD6.out.2.1 HD6.out.2.2.1 HD6.out.2.2.2.1 HD6.out.2.2.2.2.1 (HD6.out.2.2.2.2.2.1 g5 hq5 HQ2.out.far5 (HFarAll.out Sa a.keep HSa.out.1 g5 HQ2.out.new5)) (HD6.out.2.2.2.2.2.1 g8 HB10.out.1.lt (HQ.out.ref.beyond (by omega)) (HFarAll.out Sa a.keep HSa.out.1 g8 h8w)) (fun g hg => by
            rcases HD6.out.2.2.1 g hg with h1 | h1
            · exact HB10.out.2.2 g h1
            · have := HB10.out.1.lt
              omega) h8w hk12 hb12
          have HFin := Lib.hid hfin
          clear hfin hk12 hq5 hb12 hg12 hb11 hg11 hb10 hw10 hz10 hS6 hS10 hS11 hb5o
          go_wp2_with fail
          go_roundw
          case rel => exact ⟨k + 1, F6, m6, cs6, by omega, by omega, by go_num, HFin.out, HD6.out.2.2.2.2.2.2.1, HD6.out.2.2.2.2.2.2.2⟩
          case measure => simp [intOf]; omega
      · have hki : (k : Int) < (na : Int) := by omega
        have hki2 : ¬ (k : Int) < 40 := by omega
        go_wp2_with fail
        go_ret
        exact ⟨gd, F, m, rfl, HI.out.1.code, HI.out.1.dn, HI.out.1.bel, by have := HI.out.2.1; omega, HI.out.2.2.1⟩
    · have hki : ¬ (k : Int) < (na : Int) := by omega
      go_wp2_with fail
      go_ret
      exact ⟨gd, F, m, rfl, HI.out.1.code, HI.out.1.dn, HI.out.1.bel, by have := HI.out.2.1; omega, HI.out.2.2.1⟩
end Go.Proofs.Ytnnjneijdfibnaa
