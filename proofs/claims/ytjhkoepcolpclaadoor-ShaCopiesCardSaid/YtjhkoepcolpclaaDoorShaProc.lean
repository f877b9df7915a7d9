/-
  Package sha's process, by its contract. Conditions: the tables read as the program's text lays them; the theorem's own premises.
-/
import Derived.Test.YtjhkoepcolpclaaDoorShaExt
import Derived.BigQuiet
namespace Go.Proofs.YtjhkoepcolpclaaDoor
open Go.RowKit

/-- the tables, as the program's text lays them -/
def Tabs (w : World) : Prop := Cells w 1 0 (wv shaK).toArray ∧ Cells w 0 0 (wv shaH.list).toArray
theorem Cells.keep {w w' : World} {g o : Nat} {cs : Array Value} (h : Cells w g o cs) (hk : ∀ p : Addr, p.block = g → p.block < w.heap.size → w'.cell? p = w.cell? p) : Cells w' g o cs := fun j v hv => by
  have h1 := h j v hv
  exact (hk _ rfl (World.block_lt_of_cell? _ _ h1)).trans h1
theorem Tabs.on {w w' : World} {B : Nat} (h : Tabs w) (hb : Below B w w') (hB : w.heap.size ≤ B) : Tabs w' :=
  ⟨h.1.keep fun _ _ hl => hb.cell (Nat.lt_of_lt_of_le hl hB), h.2.keep fun _ _ hl => hb.cell (Nat.lt_of_lt_of_le hl hB)⟩
theorem Tabs.grown {w w' : World} {g : Nat} (h : Tabs w) (hg : w.grownBy w' (some g)) (h2 : 2 ≤ g) : Tabs w' :=
  ⟨h.1.keep fun _ e hl => World.cell?_of_block (hg.block _ hl (fun e2 => by cases e2; rw [e] at h2; exact absurd h2 (by decide))),
   h.2.keep fun _ e hl => World.cell?_of_block (hg.block _ hl (fun e2 => by cases e2; rw [e] at h2; exact absurd h2 (by decide)))⟩
theorem Tabs.two {w : World} (h : Tabs w) : 2 ≤ w.heap.size := by
  have h0 := World.block_lt_of_cell? _ _ (h.1 0 _ rfl)
  have h1 := World.block_lt_of_cell? _ _ (h.2 0 _ rfl)
  have e0 : (⟨1, 0 + 0, none⟩ : Addr).block = 1 := rfl
  have e1 : (⟨0, 0 + 0, none⟩ : Addr).block = 0 := rfl
  rw [e0] at h0
  rw [e1] at h1
  omega
theorem keys_at (k : Nat) (hk : k < 64) (w : World) : (Instr.index 62 (.agg (wv shaK).toArray) (.int .i64 (k : Int))).run Tryd.prog w = .ok (.int .u32 ((shaK.getD k 0 : Nat) : Int)) w :=
  run_index_agg _ 43 64 _ _ k _ Tryd.underlying62 u32_plain u32_info1 hk (by rw [List.getElem?_toArray]; exact wv_getD (by rw [shaK_length]; exact hk))
def plusL (s x : St) (i : Nat) : List Nat := (List.range 8).map fun j => if j < i then (x.list.getD j 0 + s.list.getD j 0) % 4294967296 else x.list.getD j 0
theorem plusL_length (s x : St) (i : Nat) : (plusL s x i).length = 8 := by simp [plusL]
theorem plusL_zero (s x : St) : plusL s x 0 = x.list := rfl
theorem plusL_end (s x : St) : plusL s x 8 = (s.plus x).list := by
  simp [plusL, St.plus, St.list, List.range_succ, List.getD, Nat.add_comm]
theorem plusL_at (s x : St) (i : Nat) (h : i < 8) : (plusL s x i).getD i 0 = x.list.getD i 0 := by simp [plusL, List.getD, h]
theorem plusL_step (s x : St) (i : Nat) : (plusL s x i).set i ((x.list.getD i 0 + s.list.getD i 0) % 4294967296) = plusL s x (i + 1) := by
  apply List.ext_getElem
  · simp [plusL]
  · intro j h1 h2
    rw [List.getElem_set]
    simp only [plusL, List.getElem_map, List.getElem_range]
    split
    · rename_i e
      subst e
      rw [if_pos (by omega)]
    · rename_i e
      by_cases hj : j < i
      · rw [if_pos hj, if_pos (by omega)]
      · rw [if_neg hj, if_neg (by omega)]

set_option maxRecDepth 100000 in
set_option maxHeartbeats 4000000 in
set_option linter.unusedSimpArgs false in
theorem process_any (s : St) (hs : s.okB) (b : List UInt8) (hlen : b.length = 64) (S B : Array Value) (hS : S = (wv s.list).toArray) (hB : B = (bv b).toArray) (w : World) (ht : Tabs w) :
    Calls Tryd.prog 24 #[.agg S, .agg B] w fun e w' => e = .returned (.agg (wv (s.block b).list).toArray) ∧ Below w.heap.size w w' := by
  have HS := Lib.hid hs
  have HSl := Lib.hid hS
  have HBl := Lib.hid hB
  have HT := Lib.hid ht
  have hSs : S.size = 8 := by rw [hS]; rfl
  have hBs : B.size = 64 := by rw [hB]; simp [bv, hlen]
  have HSs := Lib.hid hSs
  have HBs := Lib.hid hBs
  clear hs hS hB ht hSs hBs
  go_enter Tryd.func24, Tryd.ntmps24
  go_wp2_with (first
    | (refine wpList_box rfl 50 (.tmp 0) rfl S rfl ?_; intro w1 hb1 hw1 hz1)
    | (refine wpList_box rfl 51 (.tmp 1) rfl B rfl ?_; intro w2 hb2 hw2 hz2)
    | (refine wpList_alloc rfl 50 rfl _ words_zero ?_; intro w3 hb3 hw3 hz3; refine stopped ?_))
  refine go_on ?_
  go_wp2_with (first
    | (refine wpList_load_at rfl 51 (.tmp 3) rfl (w.heap.size + 1) 0 rfl B _ (Blk.cells (by rw [← hz1]; exact hb2.below hw3 (by omega))) Tryd.underlying51 rfl (by rw [HBs.out]; exact blk_info) ?_)
    | fail)
  have h3 : Below w.heap.size w w3 := hw1.trans ((hw2.trans (hw3.mono (by omega))).mono (by omega))
  have k1 : Blk w3 w.heap.size 50 S := hb1.below (hw2.trans (hw3.mono (by omega))) (by omega)
  have k3 : Blk w3 (w.heap.size + 1 + 1) 50 (wv (List.replicate 8 0)).toArray := by rw [← hz1, ← hz2]; exact hb3
  have hz : w3.heap.size = w.heap.size + 3 := by omega
  refine (extend_any b hlen B HBl.out w3).mono ?_
  rintro e w4 ⟨rfl, hw4⟩
  have h4 : Below w.heap.size w w4 := h3.trans (hw4.mono (by omega))
  have m1 := k1.below hw4 (by omega)
  have m3 := k3.below hw4 (by omega)
  have hz4 := hw4.size
  have HC := Lib.hid (And.intro h4 (And.intro m1 (And.intro m3 (show w.heap.size + 3 ≤ w4.heap.size by omega))))
  clear hb1 hb2 hb3 hw1 hw2 hw3 hw4 hz1 hz2 hz3 h3 k1 k3 h4 m1 m3 hz4 hz
  have hwl := wordsW_length b
  go_wp2_with (first
    | (refine wpList_alloc rfl 62 rfl _ w64_zero ?_; intro w5 hb5 hw5 hz5; refine stopped ?_)
    | fail)
  refine go_on ?_
  refine wpList_store_whole rfl 62 (.tmp 5) (.tmp 11) rfl w4.heap.size (wv (wordsW b)) rfl rfl 62 (wv (List.replicate 64 0)) hb5 (by simp only [wv_length, hwl]; exact w64_info) (by simp only [wv_length, hwl]; rfl) (by intro u hu; exact wv_one _ u hu) ?_
  intro w6 hb6 hg6
  simp only [Act.put, List.setIfInBounds_toArray, List.set_cons_zero, List.set_cons_succ]
  refine wpList_nil ?_
  iterate 4 go_step
  have hs6 := hg6.size
  have n1 : Blk w6 w.heap.size 50 S := (HC.out.2.1.below hw5 (by have := HC.out.2.2.2; omega)).grown hg6 (some_neq (by have := HC.out.2.2.2; omega))
  refine wpList_load_at rfl 50 (.tmp 2) rfl w.heap.size 0 rfl S _ (Blk.cells n1) Tryd.underlying50 rfl (by rw [HSs.out]; exact words_info) ?_
  refine wpList_alloc rfl 50 rfl _ words_zero ?_
  intro w7 hb7 hw7 hz7
  refine wpList_store_whole rfl 50 (.tmp 6) (.tmp 12) rfl w6.heap.size (wv s.list) rfl (by show Value.agg S = _; rw [HSl.out]) 50 (wv (List.replicate 8 0)) hb7 words_info rfl (by intro u hu; exact wv_one _ u hu) ?_
  intro w8 hb8 hg8
  simp only [Act.put, List.setIfInBounds_toArray, List.set_cons_zero, List.set_cons_succ]
  refine wpList_nil ?_
  iterate 5 go_step
  obtain ⟨h4, m1, m3, hz4⟩ := HC.out
  have hs8 := hg8.size
  have h6 : Below w.heap.size w w6 := h4.trans ((hw5.mono (by omega)).trans (only_below hg6 (by omega) (fun g e => by cases e; omega)))
  have h8 : Below w.heap.size w w8 := h6.trans ((hw7.mono (by omega)).trans (only_below hg8 (by omega) (fun g e => by cases e; omega)))
  have p1 : Blk w8 w.heap.size 50 (wv s.list).toArray := by rw [← HSl.out]; exact (((m1.below hw5 (by omega)).grown hg6 (some_neq (by omega))).below hw7 (by omega)).grown hg8 (some_neq (by omega))
  have p3 : Blk w8 (w.heap.size + 1 + 1) 50 (wv (List.replicate 8 0)).toArray := (((m3.below hw5 (by omega)).grown hg6 (some_neq (by omega))).below hw7 (by omega)).grown hg8 (some_neq (by omega))
  have p5 : Blk w8 w4.heap.size 62 (wv (wordsW b)).toArray := (hb6.below hw7 (by omega)).grown hg8 (some_neq (by omega))
  have p6 : Blk w8 w6.heap.size 50 (wv (s.run (wordsW b) 0).list).toArray := hb8
  obtain ⟨gr, egr⟩ : ∃ g, w.heap.size + 1 + 1 = g := ⟨_, rfl⟩
  obtain ⟨gb, egb⟩ : ∃ g, w.heap.size = g := ⟨_, rfl⟩
  obtain ⟨gw, egw⟩ : ∃ g, w4.heap.size = g := ⟨_, rfl⟩
  obtain ⟨ga, ega⟩ : ∃ g, w6.heap.size = g := ⟨_, rfl⟩
  have HN := Lib.hid (show gb ≠ ga ∧ gr ≠ ga ∧ gw ≠ ga ∧ w.heap.size ≤ ga ∧ gb < w8.heap.size ∧ gr < w8.heap.size ∧ gw < w8.heap.size ∧ ga < w8.heap.size ∧ w.heap.size ≤ gr from ⟨by omega, by omega, by omega, by omega, by omega, by omega, by omega, by omega, by omega⟩)
  rw [egr] at p3 ⊢
  rw [egb] at p1 ⊢
  rw [egw] at p5 ⊢
  rw [ega] at p6 ⊢
  have HP := Lib.hid (And.intro p1 (And.intro p3 p5))
  have HP6 := Lib.hid p6
  have HB8 := Lib.hid h8
  have HT8 := Lib.hid (HT.out.on h8 (Nat.le_refl _))
  clear hb5 hw5 hz5 hb6 hg6 hb7 hw7 hz7 hb8 hg8 hs6 hs8 h6 h8 p1 p3 p5 p6 h4 m1 m3 hz4 egr egb egw ega
  obtain ⟨KV, eKV⟩ : ∃ K, (wv shaK).toArray = K := ⟨_, rfl⟩
  have hKs : KV.size = 64 := by rw [← eKV]; simp [wv, shaK_length]
  have hKc := HT8.out.1
  rw [eKV] at hKc
  have HK := Lib.hid (fun k hk w => eKV ▸ keys_at k hk w)
  have HKs := Lib.hid (And.intro hKs hKc)
  clear hKs hKc eKV
  refine wpList_load_at rfl 62 (.global 1) rfl 1 0 rfl KV _ HKs.out.2 Tryd.underlying62 rfl (by rw [HKs.out.1]; exact w64_info) ?_
  simp only [Act.put, List.setIfInBounds_toArray, List.set_cons_zero, List.set_cons_succ]
  go_wp2_with fail
  go_loopw [14] (fun v wz => ∃ (k : Nat) (x : St), k ≤ 64 ∧ v = .int .i64 (k : Int) ∧ x = s.run (wordsW b) k ∧ Blk wz ga 50 (wv x.list).toArray ∧ w8.grownBy wz (some ga)) (fun v _ => 64 - (intOf v).toNat)
  case atStart => exact ⟨0, _, by omega, rfl, rfl, HP6.out, only_refl _ _⟩
  case round =>
    obtain ⟨k, x, hk, rfl, hx, hblk, hgr⟩ := hrel
    have hok : x.okB := hx ▸ St.run_ok HS.out (wordsW b) k
    have HX := Lib.hid hx
    have HBk := Lib.hid hblk
    have HGr := Lib.hid hgr
    clear hx hblk hgr HP6
    by_cases hlt : k < 64
    · have hkey := HK.out k hlt
      have hcw := (HP.out.2.2.grown HGr.out (some_neq HN.out.2.2.1)).getw (p := k) (by rw [hwl]; exact hlt)
      obtain ⟨wk, ewk⟩ : ∃ y, (wordsW b).getD k 0 = y := ⟨_, rfl⟩
      obtain ⟨kk, ekk⟩ : ∃ y, shaK.getD k 0 = y := ⟨_, rfl⟩
      rw [ewk] at hcw
      rw [ekk] at hkey
      obtain ⟨kw, ekw⟩ : ∃ y, (kk + wk) % 4294967296 = y := ⟨_, rfl⟩
      have hrun : s.run (wordsW b) (k + 1) = x.step kw 0 := by rw [St.run, ekk, ewk, ← HX.out, ← ekw, St.step_sum]
      obtain ⟨f1, f2⟩ := u32_sum ekw
      have hki : (k : Int) < 64 := by omega
      obtain ⟨XL, eXL⟩ : ∃ X, (wv x.list).toArray = X := ⟨_, rfl⟩
      have hblkX := HBk.out
      rw [eXL] at hblkX
      have hXs : XL.size = 8 := by rw [← eXL]; rfl
      have HBX := Lib.hid (And.intro hblkX (And.intro hXs eXL.symm))
      have HRun := Lib.hid hrun
      have HOk := Lib.hid hok
      clear ewk ekk ekw hrun hblkX hXs eXL hok
      go_wp2_with fail
      refine region_tail 6 (by kernel_rfl) (by kernel_rfl) ?_
      simp only [List.take_succ_cons, List.take_zero, List.drop_succ_cons, List.drop_zero]
      refine still_load_at rfl 50 (.tmp 6) rfl ga 0 rfl XL _ (Blk.cells (HBX.out.1.drewN 1)) Tryd.underlying50 rfl (by rw [HBX.out.2.1]; exact words_info) ?_
      simp only [Act.put, List.setIfInBounds_toArray, List.set_cons_zero, List.set_cons_succ]
      repeat still_step
      refine wpStill_nil ?_
      go_wp2_with fail
      refine (mix_any x HOk.out kw XL HBX.out.2.2 _).mono ?_
      rintro e' w' ⟨rfl, hb'⟩
      have hbk' : Blk w' ga 50 (wv x.list).toArray := (HBk.out.drewN 1).below hb' HBk.out.lt
      go_wp2_with (first
        | (refine wpList_store_whole rfl 50 (.tmp 6) (.tmp 24) rfl ga (wv (x.step kw 0).list) rfl rfl 50 (wv x.list) hbk' words_info rfl (by intro u hu; exact wv_one _ u hu) ?_; intro w9 hb9 hg9)
        | fail)
      go_roundw
      case rel => exact ⟨k + 1, x.step kw 0, by omega, by go_num, HRun.out.symm, hb9, only_trans (only_trans (only_drewN HGr.out 1) (only_of_below hb' _)) hg9⟩
      case measure => simp [intOf]; omega
    · obtain rfl : k = 64 := by omega
      have HFin := Lib.hid (show plusL s x 8 = (s.block b).list by rw [plusL_end, HX.out]; rfl)
      have HBk0 := Lib.hid (show Blk wr ga 50 (wv (plusL s x 0)).toArray from HBk.out)
      clear HX HBk hok HK HKs
      go_wp2_with fail
      try rw [show ((64 : Nat) : Int) = (64 : Int) from rfl]
      go_loopw [26] (fun v wz => ∃ i : Nat, i ≤ 8 ∧ v = .int .i64 (i : Int) ∧ Blk wz ga 50 (wv (plusL s x i)).toArray ∧ w8.grownBy wz (some ga)) (fun v _ => 8 - (intOf v).toNat)
      case atStart => exact ⟨0, by omega, rfl, HBk0.out, HGr.out⟩
      case round =>
        obtain ⟨i, hi, rfl, hblk, hgr2⟩ := hrel
        have HBk := Lib.hid hblk
        have HGr2 := Lib.hid hgr2
        clear hblk hgr2 HBk0 HGr
        by_cases hlt : i < 8
        · have ci := HBk.out.getw (p := i) (by rw [plusL_length]; exact hlt)
          rw [plusL_at s x i hlt] at ci
          have di := (HP.out.1.grown HGr2.out (some_neq HN.out.1)).getw (p := i) hlt
          have hfro := HBk.out.frozen i
          have hst := plusL_step s x i
          obtain ⟨xi, exi⟩ : ∃ y, x.list.getD i 0 = y := ⟨_, rfl⟩
          obtain ⟨si, esi⟩ : ∃ y, s.list.getD i 0 = y := ⟨_, rfl⟩
          rw [exi] at ci hst
          rw [esi] at di hst
          obtain ⟨z, ez⟩ : ∃ y, (xi + si) % 4294967296 = y := ⟨_, rfl⟩
          rw [ez] at hst
          obtain ⟨f1, f2⟩ := u32_sum ez
          have hii : (i : Int) < 8 := by omega
          have HSt := Lib.hid hst.symm
          clear hst exi esi ez
          go_wp2_with fail
          refine region_tail 8 (by kernel_rfl) (by kernel_rfl) ?_
          simp only [List.take_succ_cons, List.take_zero, List.drop_succ_cons, List.drop_zero]
          repeat still_step
          refine wpStill_nil ?_
          go_wp2_with fail
          go_roundw
          case rel => exact ⟨i + 1, by omega, by go_num, by rw [HSt.out]; exact (HBk.out.drewN 1).setw i z, only_setCell (only_drewN HGr2.out 1) (.inl rfl) _⟩
          case measure => simp [intOf]; omega
        · obtain rfl : i = 8 := by omega
          have HEnd := Lib.hid (show Blk wr ga 50 (wv (s.block b).list).toArray by rw [← HFin.out]; exact HBk.out)
          have HR := Lib.hid (HP.out.2.1.grown HGr2.out (some_neq HN.out.2.1))
          obtain ⟨F, eF⟩ : ∃ F, (s.block b).list = F := ⟨_, rfl⟩
          have hFl : (wv F).length = 8 := by rw [← eF]; rfl
          have hFi : (Tryd.prog.info? 50).map (·.size) = some (wv F).length := by rw [hFl]; exact words_info
          have hend := HEnd.out
          rw [eF] at hend
          have HE := Lib.hid (And.intro hend (And.intro hFl hFi))
          clear HEnd HFin HBk hend hFl hFi
          iterate 18 (first | go_values | go_skip | go_guarded | go_step)
          refine wpList_load_at rfl 50 (.tmp 6) rfl ga 0 rfl (wv F).toArray _ (Blk.cells HE.out.1) Tryd.underlying50 rfl (by rw [List.size_toArray]; exact HE.out.2.2) ?_
          refine wpList_store_whole rfl 50 (.tmp 4) (.tmp 38) rfl gr (wv F) rfl rfl 50 (wv (List.replicate 8 0)) HR.out HE.out.2.2 (by rw [HE.out.2.1]; rfl) (by intro u hu; exact wv_one _ u hu) ?_
          intro w10 hb10 hg10
          simp only [Act.put, List.setIfInBounds_toArray, List.set_cons_zero, List.set_cons_succ]
          refine wpList_nil ?_
          repeat (first | go_values | go_skip | go_guarded | go_step)
          refine bodyPost_row rfl gr rfl 50 _ _ hb10 Tryd.underlying50 rfl (by rw [List.size_toArray]; exact HE.out.2.2) rfl ⟨by rw [eF], ?_⟩
          have hs10 := HB8.out.size
          have hs11 := HGr2.out.size
          exact HB8.out.trans ((only_below HGr2.out hs10 (fun g' e => by cases e; exact HN.out.2.2.2.1)).trans (only_below hg10 (Nat.le_trans hs10 hs11) (fun g' e => by cases e; exact HN.out.2.2.2.2.2.2.2.2)))
end Go.Proofs.YtjhkoepcolpclaaDoor
