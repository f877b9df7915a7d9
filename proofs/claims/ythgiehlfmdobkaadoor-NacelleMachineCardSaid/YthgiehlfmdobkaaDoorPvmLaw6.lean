/-
  The top's NacelleMachine where the bytes are not cut, and in whole. Conditions: the theorem's own premises.
-/
import Derived.Test.YthgiehlfmdobkaaDoorPvmLaw5
namespace Go.Proofs.YthgiehlfmdobkaaDoor
open Go.RowKit

set_option maxRecDepth 100000 in
set_option maxHeartbeats 8000000 in
set_option linter.unusedSimpArgs false in
theorem nacMach_short (A : Option Addr) (b0 : List UInt8) (n cp : Nat) (words : Int) (C : Option Addr) (cl : List UInt8) (m cq : Nat) (hl : b0.length = n) (hn : n ≤ 9223372036854775807) (hnc : n ≤ cp) (w : World) (hA : Bs w w.heap.size A b0) (hwo : R64 words) (hcl : cl.length = m) (hC : Bs w w.heap.size C cl) (hG : HasErr w) (h40 : ¬ n > 560) :
    Calls Tryd.prog 7 #[.slice A n cp, .int .i64 words, .slice C m cq] w fun e w' => e = .returned (.bool true) ∧ Below w.heap.size w w' := by
  obtain ⟨q, eq⟩ : ∃ q, min n 560 = q := ⟨_, rfl⟩
  have hq : q ≤ 560 := by omega
  have hml : (b0.take 560).length = q := by rw [List.length_take, hl, ← eq, Nat.min_comm]
  have hLA := bs_take9 hA 560
  obtain ⟨b, eb⟩ : ∃ b, b0.take 560 = b := ⟨_, rfl⟩
  rw [eb] at hml hLA
  have H := Lib.hid (And.intro hml (And.intro hLA (And.intro hG (And.intro hwo (And.intro hcl hC)))))
  have HC := Lib.hid (show q ≤ cp by omega)
  clear hl hA hG hml hLA eb hwo hcl hC
  obtain rfl : q = n := by omega
  have h40i : ¬ (q : Int) > 560 := by omega
  have hdc := coDecode A b q cp H.out.1 (by omega) HC.out w H.out.2.1 H.out.2.2.1
  have HD := Lib.hid hdc
  clear hdc
  obtain ⟨f1, f2, ef⟩ : ∃ f1 f2, checkL (listL b) = (f1, f2) := ⟨_, _, rfl⟩
  obtain ⟨dl, edl⟩ : ∃ x, (decL b).length = x := ⟨_, rfl⟩
  obtain ⟨ll, ell⟩ : ∃ x, (listL b).length = x := ⟨_, rfl⟩
  obtain ⟨r, er⟩ : ∃ x, (newM words).mem.length = x := ⟨_, rfl⟩
  have hr64 : r ≤ 64 := by rw [← er]; exact new_len words
  have hll : ll ≤ 140 := by rw [← ell, listL_length, H.out.1]; omega
  have HL := Lib.hid (And.intro ef (And.intro edl (And.intro ell er)))
  clear ef edl ell er
  go_enter Tryd.func7, Tryd.ntmps7
  go_wp2_with (first
    | (go_at_call 21; refine HD.out.mono ?_; rintro e w1 ⟨v1, u1, rfl, hv1, hc1, hb1⟩; obtain ⟨A1, c1, rfl, hlc1, hi1⟩ := InsOwn.at_ hv1 (decL_ok9 _); have HI1 := Lib.hid (And.intro hi1 (And.intro hc1 hb1)); have HG1 := Lib.hid (H.out.2.2.1.below hb1); rw [HL.out.2.1] at hlc1 ⊢; clear hv1 hc1 hb1 hi1)
    | (go_at_call 22; refine (refList7 A b q cp H.out.1 (by omega) w1 ((H.out.2.1.below HI1.out.2.2).more HI1.out.2.2.size)).mono ?_; rintro e w2 ⟨v2, rfl, hv2, hb2⟩; obtain ⟨A2, c2, rfl, hlc2, hi2⟩ := InsOwn.at_ hv2 (listL_ok _); have HI2 := Lib.hid (And.intro hi2 hb2); rw [HL.out.2.2.1] at hlc2 ⊢; clear hv2 hb2 hi2)
    | fail)
  have hck := refCheck7 A2 (listL b) ll c2 HL.out.2.2.1 (by omega) w2 HI2.out.1
  rw [HL.out.1] at hck
  have HCK := Lib.hid hck
  clear hck
  go_wp2_with (first
    | (go_at_call 23; refine HCK.out.mono ?_; rintro e w3 ⟨rfl, hb3⟩)
    | fail)
  have hz3 : Below w.heap.size w w3 := by
    have h1 := HI1.out.2.2.trans (HI2.out.2.mono HI1.out.2.2.size)
    exact h1.trans (hb3.mono h1.size)
  have HZ3 := Lib.hid (And.intro hz3 hb3)
  clear hz3 hb3
  have hi9 := insOf9 w3 [⟨1, 1, 3, 0⟩, ⟨0, 0, 0, 0⟩] okS9 _ rfl
  have hz30 := below_alloc w3 (.cells (ivs [⟨1, 1, 3, 0⟩, ⟨0, 0, 0, 0⟩]).toArray 61)
  refine (pvNew words H.out.2.2.2.1 _).mono ?_
  rintro e w4 ⟨A4, c4, rfl, hr4, hb4⟩
  have hm4 := machAt_row hr4 (newM_ok words)
  rw [HL.out.2.2.2] at hm4 ⊢
  have hz4 : Below w3.heap.size w3 w4 := hz30.trans (hb4.mono hz30.size)
  have hrn := pvRun (some ⟨w3.heap.size, 0, none⟩) [⟨1, 1, 3, 0⟩, ⟨0, 0, 0, 0⟩] 2 2 rfl (by decide) w4 (hi9.below hb4) ((HG1.out.below (HI2.out.2.trans (HZ3.out.2.mono HI2.out.2.size))).below hz4) (newM words) A4 r c4 hm4 (by omega) 9 ⟨by decide, by decide⟩
  rw [show ((9 : Int)).toNat = 9 from rfl, run_kM] at hrn
  have HR4 := Lib.hid (And.intro hrn hz4)
  clear hi9 hz30 hr4 hb4 hm4 hz4 hrn
  unfold mv
  by_cases h4 : b.length % 4 = 0
  · by_cases hf : f1 = 0
    · skip
      obtain ⟨e1, e2⟩ := decF_ok9 h4 (by rw [HL.out.1]; exact hf)
      have hch := HI1.out.2.1
      rw [e1] at hch
      obtain rfl : u1 = .nilIface := hch
      have hdl0 := HL.out.2.1
      have hin1 := HI1.out.1
      rw [e2] at hdl0 hin1
      rw [HL.out.2.2.1] at hdl0
      subst hdl0
      clear e1 e2
      obtain ⟨L, eL⟩ : ∃ L, listL b = L := ⟨_, rfl⟩
      have hpr : (checkL L).1 = 0 := by rw [← eL, HL.out.1]; exact hf
      have hLl : L.length = ll := by rw [← eL]; exact HL.out.2.2.1
      have hin2 := HI2.out.1
      rw [eL] at hin1 hin2
      have hpf := prog_facts hpr
      have hll1 : 1 ≤ ll := by have := hpf.1; rwa [hLl] at this
      go_wp2_with (first
        | (go_at_call 20; refine HR4.out.1.mono ?_; rintro e w5 ⟨A5, c5, rfl, _, _, hb5⟩; have HB5 := Lib.hid (HR4.out.2.trans (hb5.mono HR4.out.2.size)); clear hb5; dsimp only; rw [mv_kM]; unfold ev; have HW1 := Lib.hid (fun W (h : Below w5.heap.size w5 W) => to_w1 HI2.out.2 HZ3.out.2 HB5.out h))
        | fail)
      have hq6 := HW1.out _ (below2 w5 (.cells #[.int .i64 1, .int .i64 0, .int .i64 3, .int .i64 0, .int .i64 0, .int .i64 0, .int .i64 0, .int .i64 0, .int .i64 0, .slice A5 (kM words).mem.length c5, .int .i64 1, .int .i64 0] 27) (.cells #[.int .i64 2, .int .i64 0] 38))
      have hwq6 := HI1.out.2.2.trans (hq6.mono HI1.out.2.2.size)
      have hq2 := to_w2 HZ3.out.2 HB5.out (below2 w5 (.cells #[.int .i64 1, .int .i64 0, .int .i64 3, .int .i64 0, .int .i64 0, .int .i64 0, .int .i64 0, .int .i64 0, .int .i64 0, .slice A5 (kM words).mem.length c5, .int .i64 1, .int .i64 0] 27) (.cells #[.int .i64 2, .int .i64 0] 38))
      refine (pvNew words H.out.2.2.2.1 _).mono ?_
      rintro e w7 ⟨A7, c7, rfl, hr7, hb7⟩
      have HM7 := Lib.hid (And.intro hr7 (And.intro (hq6.trans (hb7.mono hq6.size)) (And.intro (hwq6.trans (hb7.mono hwq6.size)) (hq2.trans (hb7.mono hq2.size)))))
      clear hr7 hb7 hq6 hwq6 hq2
      go_wp2_with fail
      refine (pvNew words H.out.2.2.2.1 _).mono ?_
      rintro e w8 ⟨A8, c8, rfl, hr8, hb8⟩
      have hva : Var ((w8.alloc (.cells (mcells (newM words) A7 (newM words).mem.length c7).toArray 27)).alloc (.cells (mcells (newM words) A8 (newM words).mem.length c8).toArray 27)) w8.heap.size (newM words) :=
        ⟨A7, c7, _, (Blk.new w8 27 (mcells (newM words) A7 (newM words).mem.length c7).toArray).alloc _, row_alloc (row_alloc (row_below HM7.out.1 hb8) _) _, fun e => by have h1 := (World.ownsRow.lt HM7.out.1 _ e).2; have h2 := hb8.size; omega⟩
      have hvo : Var ((w8.alloc (.cells (mcells (newM words) A7 (newM words).mem.length c7).toArray 27)).alloc (.cells (mcells (newM words) A8 (newM words).mem.length c8).toArray 27)) (w8.heap.size + 1) (newM words) :=
        ⟨A8, c8, _, blk2 w8 _ 27 (mcells (newM words) A8 (newM words).mem.length c8).toArray, row_alloc (row_alloc hr8 _) _, fun e => by have h1 := (World.ownsRow.lt hr8 _ e).2; omega⟩
      have hz9 : Below w8.heap.size w8 ((w8.alloc (.cells (mcells (newM words) A7 (newM words).mem.length c7).toArray 27)).alloc (.cells (mcells (newM words) A8 (newM words).mem.length c8).toArray 27)) := below2 w8 _ _
      have HM8 := Lib.hid (And.intro hva (And.intro hvo (And.intro hz9 (And.intro (HM7.out.2.1.trans (hb8.mono HM7.out.2.1.size)) (And.intro (HM7.out.2.2.1.trans (hb8.mono HM7.out.2.2.1.size)) (HM7.out.2.2.2.trans (hb8.mono HM7.out.2.2.2.size)))))))
      clear hr8 hb8 hva hvo hz9
      unfold mv
      go_wp2_with fail
      have ew9' : (w8.alloc (.cells #[.int .i64 (newM words).p, .int .i64 ((newM words).r 0), .int .i64 ((newM words).r 1), .int .i64 ((newM words).r 2), .int .i64 ((newM words).r 3), .int .i64 ((newM words).r 4), .int .i64 ((newM words).r 5), .int .i64 ((newM words).r 6), .int .i64 ((newM words).r 7), .slice A7 (newM words).mem.length c7, .int .i64 (newM words).s, .int .i64 (newM words).t] 27)).alloc (.cells #[.int .i64 (newM words).p, .int .i64 ((newM words).r 0), .int .i64 ((newM words).r 1), .int .i64 ((newM words).r 2), .int .i64 ((newM words).r 3), .int .i64 ((newM words).r 4), .int .i64 ((newM words).r 5), .int .i64 ((newM words).r 6), .int .i64 ((newM words).r 7), .slice A8 (newM words).mem.length c8, .int .i64 (newM words).s, .int .i64 (newM words).t] 27) = (w8.alloc (.cells (mcells (newM words) A7 (newM words).mem.length c7).toArray 27)).alloc (.cells (mcells (newM words) A8 (newM words).mem.length c8).toArray 27) := rfl
      rw [ew9']
      clear ew9'
      obtain ⟨w9, ew9⟩ : ∃ W, (w8.alloc (.cells (mcells (newM words) A7 (newM words).mem.length c7).toArray 27)).alloc (.cells (mcells (newM words) A8 (newM words).mem.length c8).toArray 27) = W := ⟨_, rfl⟩
      rw [ew9] at HM8 ⊢
      clear ew9
      obtain ⟨ga, ega⟩ : ∃ x, w8.heap.size = x := ⟨_, rfl⟩
      obtain ⟨go, ego⟩ : ∃ x, ga + 1 = x := ⟨_, rfl⟩
      rw [ega, ego] at HM8
      rw [ega, ego]
      have hgne : ga ≠ go := by omega
      have HGo := Lib.hid (And.intro ega (And.intro ego hgne))
      have hon0 : On L.length (newM words) := on_new (by rw [hLl]; omega) words
      have HP := Lib.hid (And.intro hpr (And.intro hLl (And.intro hin1 (And.intro hin2 (And.intro hon0 eL)))))
      clear hpr hLl hin1 hin2 hon0 eL ega ego hgne hpf
      go_loopw [18] (fun u wz => ∃ (i : Nat) (M : Mach), i ≤ 20 ∧ u = .int .i64 (i : Int) ∧ Var wz ga M ∧ Var wz go M ∧ On L.length M ∧ MOk M ∧ M.mem.length ≤ 64 ∧ Below ga w8 wz) (fun u _ => 20 - (intOf u).toNat)
      case atStart => exact ⟨0, newM words, by omega, rfl, HM8.out.1, HM8.out.2.1, HP.out.2.2.2.2.1, newM_ok words, new_len words, HM8.out.2.2.1⟩
      case round =>
        obtain ⟨i, M, hi20, rfl, hva, hvo, hon, hok, hml, hbz⟩ := hrel
        by_cases hlt : i < m
        · by_cases hlt2 : i < 20
          · have hi1 : (i : Int) < (m : Int) := by omega
            have hi2 : (i : Int) < 20 := by omega
            have hi0 : (0 : Int) ≤ (i : Int) := by omega
            obtain ⟨xb, exb⟩ : ∃ x, (cl.getD i 0).toNat = x := ⟨_, rfl⟩
            obtain ⟨y, ey⟩ : ∃ y, xb % 16 = y := ⟨_, rfl⟩
            have y1 : (xb : Int) % 16 = (y : Int) := by omega
            have y2 : Int.tmod (xb : Int) 16 = (y : Int) := by rw [Int.tmod_eq_emod_of_nonneg (by omega)]; exact y1
            have hy16 : y < 16 := by omega
            have hyw : IntKind.i64.wrap (y : Int) = (y : Int) := IntWalk.i64_in _ (by omega)
            obtain ⟨bc, oc, eC, hbc, hcc⟩ := H.out.2.2.2.2.2 (by rw [H.out.2.2.2.2.1]; omega)
            have hw8r : Below w.heap.size w wr := by
              have h := HM8.out.2.2.2.2.1
              exact h.trans (below_shift hbz HGo.out.1 h.size)
            have d0 : ∀ W, Below wr.heap.size wr W → W.cell? ⟨bc, oc + i, none⟩ = some (.int .u8 (xb : Int)) := fun W h => by
              have h1 := hcc i (by rw [H.out.2.2.2.2.1]; exact hlt)
              have h2 := (hw8r.trans (h.mono hw8r.size)).cell (p := ⟨bc, oc + i, none⟩) hbc
              rw [h2, h1, ← exb]
              simp [List.getD, show i < cl.length by rw [H.out.2.2.2.2.1]; exact hlt]
            obtain ⟨Aa, ca, ba, kva, hrowa, hnea⟩ := hva.at_
            obtain ⟨Ao, co, bo, kvo, hrowo, hneo⟩ := hvo.at_
            obtain ⟨X, kd, nm, cn, eX⟩ : ∃ X kd nm cn, runM L y M = (X, kd, nm, cn) := ⟨_, _, _, _, rfl⟩
            have hRun : ∀ W, Below wr.heap.size wr W → Calls Tryd.prog 20 #[.slice A1 ll c1, mv M Aa M.mem.length ca, .int .i64 (y : Int)] W (RunPost W (X, kd, nm, cn)) := fun W h => by
              have hin : InsAt W A1 L := HP.out.2.2.1.below (HM8.out.2.2.2.1.trans ((below_shift hbz HGo.out.1 (Nat.le_refl _)).trans (h.mono (below_shift hbz HGo.out.1 (Nat.le_refl _)).size) |>.mono HM8.out.2.2.2.1.size))
              have h9 := pvRun A1 L ll c1 HP.out.2.1 (by omega) W hin (HG1.out.below (HM8.out.2.2.2.1.trans ((below_shift hbz HGo.out.1 (Nat.le_refl _)).trans (h.mono (below_shift hbz HGo.out.1 (Nat.le_refl _)).size) |>.mono HM8.out.2.2.2.1.size))) M Aa M.mem.length ca ((machAt_row hrowa hok).below h) (by omega) (y : Int) ⟨by omega, by omega⟩
              rw [Int.toNat_natCast, eX] at h9
              exact h9
            have HRun := Lib.hid hRun
            have HVa := Lib.hid kva
            subst eC
            clear hRun hcc exb ey
            go_wp2_with fail
            go_cut [19, 20, 21] from 106 to 118 (fun x f k wx => ∃ (gx gf : Nat) (Ar : Option Addr) (cr : Nat), x = .pointer (some ⟨gx, 0, none⟩) ∧ f = .pointer (some ⟨gf, 0, none⟩) ∧ k = .int .i64 (cn : Int) ∧ wr.heap.size ≤ gx ∧ wr.heap.size ≤ gf ∧ Blk wx gx 27 (mcells X Ar X.mem.length cr).toArray ∧ Blk wx gf 38 #[.int .i64 kd, .int .i64 nm] ∧ wx.ownsRow wr.heap.size 2 1 (.slice Ar X.mem.length cr) X.mem.length (zv X.mem) ∧ (Value.slice Ar X.mem.length cr).ownBlock ≠ some gx ∧ Below wr.heap.size wr wx)
            case first =>
              rename_i J9 K9 hJ9 hK9
              have hb0 : Below wr.heap.size wr wr.drew := (Below.refl _ _).drew
              refine wp_region_held_drew (S := fun w' => Below wr.heap.size wr w') (by kernel_rfl) hb0 (fun hHeld => ?_)
              obtain ⟨W0, eW0⟩ : ∃ W, wr.drew = W := ⟨_, rfl⟩
              rw [eW0] at hb0 ⊢
              clear eW0
              refine wpAnyH_take (i := 0) (v := ?_) (List.getElem?_toArray.trans (List.getElem?_cons_zero)) (by kernel_rfl) (by kernel_rfl) (by kernel_rfl) (fun _ _ _ h => h) (Or.inl ⟨by rfl, ?_⟩) (by assumption) ?_
              rotate_left
              · intro w' hSw; (try dsimp only at hSw); go_simp; try with_reducible rfl
              try simp only [Act.put, List.setIfInBounds_toArray, List.set_cons_zero, List.set_cons_succ]
              refine wpAnyH_take (i := 1) (v := .agg (mcells M Aa M.mem.length ca).toArray) (List.getElem?_toArray.trans (List.getElem?_cons_succ.trans (List.getElem?_cons_zero))) (by kernel_rfl) (by kernel_rfl) (by kernel_rfl) (fun _ _ _ h => h) (Or.inl ⟨by rfl, ?_⟩) (by assumption) ?_
              · intro w' hSw; exact load_row_yields 27 (.tmp 16) rfl ga 0 rfl (mcells M Aa M.mem.length ca).toArray _ (Blk.cells (HVa.out.below hSw HVa.out.lt)) Tryd.underlying27 rfl mach_size
              try simp only [Act.put, List.setIfInBounds_toArray, List.set_cons_zero, List.set_cons_succ]
              refine wpAnyH_take (i := 2) (v := ?_) (List.getElem?_toArray.trans (List.getElem?_cons_succ.trans (List.getElem?_cons_succ.trans (List.getElem?_cons_zero)))) (by kernel_rfl) (by kernel_rfl) (by kernel_rfl) (fun _ _ _ h => h) (Or.inl ⟨by rfl, ?_⟩) (by assumption) ?_
              rotate_left
              · intro w' hSw; (try dsimp only at hSw); go_simp; try with_reducible rfl
              try simp only [Act.put, List.setIfInBounds_toArray, List.set_cons_zero, List.set_cons_succ]
              refine wpAnyH_take (i := 3) (v := ?_) (List.getElem?_toArray.trans (List.getElem?_cons_succ.trans (List.getElem?_cons_succ.trans (List.getElem?_cons_succ.trans (List.getElem?_cons_zero))))) (by kernel_rfl) (by kernel_rfl) (by kernel_rfl) (fun _ _ _ h => h) (Or.inl ⟨by rfl, ?_⟩) (by assumption) ?_
              rotate_left
              · intro w' hSw; (try dsimp only at hSw); go_simp; try with_reducible rfl
              try simp only [Act.put, List.setIfInBounds_toArray, List.set_cons_zero, List.set_cons_succ]
              refine wpAnyH_take (i := 4) (v := ?_) (List.getElem?_toArray.trans (List.getElem?_cons_succ.trans (List.getElem?_cons_succ.trans (List.getElem?_cons_succ.trans (List.getElem?_cons_succ.trans (List.getElem?_cons_zero)))))) (by kernel_rfl) (by kernel_rfl) (by kernel_rfl) (fun _ _ _ h => h) (Or.inl ⟨by rfl, ?_⟩) (by assumption) ?_
              rotate_left
              · intro w' hSw; (try dsimp only at hSw); go_simp; try with_reducible rfl
              try simp only [Act.put, List.setIfInBounds_toArray, List.set_cons_zero, List.set_cons_succ]
              refine wpAnyH_take (i := 5) (v := ?_) (List.getElem?_toArray.trans (List.getElem?_cons_succ.trans (List.getElem?_cons_succ.trans (List.getElem?_cons_succ.trans (List.getElem?_cons_succ.trans (List.getElem?_cons_succ.trans (List.getElem?_cons_zero))))))) (by kernel_rfl) (by kernel_rfl) (by kernel_rfl) (fun _ _ _ h => h) (Or.inl ⟨by rfl, ?_⟩) (by assumption) ?_
              rotate_left
              · intro w' hSw; (try dsimp only at hSw); go_simp; try with_reducible rfl
              try simp only [Act.put, List.setIfInBounds_toArray, List.set_cons_zero, List.set_cons_succ]
              refine wpAnyH_take (i := 6) (v := ?_) (List.getElem?_toArray.trans (List.getElem?_cons_succ.trans (List.getElem?_cons_succ.trans (List.getElem?_cons_succ.trans (List.getElem?_cons_succ.trans (List.getElem?_cons_succ.trans (List.getElem?_cons_succ.trans (List.getElem?_cons_zero)))))))) (by kernel_rfl) (by kernel_rfl) (by kernel_rfl) (fun _ _ _ h => h) (Or.inl ⟨by rfl, ?_⟩) (by assumption) ?_
              rotate_left
              · intro w' hSw; (try dsimp only at hSw); go_simp; try with_reducible rfl
              try simp only [Act.put, List.setIfInBounds_toArray, List.set_cons_zero, List.set_cons_succ]
              refine wpAnyH_take (i := 7) (v := ?_) (List.getElem?_toArray.trans (List.getElem?_cons_succ.trans (List.getElem?_cons_succ.trans (List.getElem?_cons_succ.trans (List.getElem?_cons_succ.trans (List.getElem?_cons_succ.trans (List.getElem?_cons_succ.trans (List.getElem?_cons_succ.trans (List.getElem?_cons_zero))))))))) (by kernel_rfl) (by kernel_rfl) (by kernel_rfl) (fun _ _ _ h => h) (Or.inl ⟨by rfl, ?_⟩) (by assumption) ?_
              rotate_left
              · intro w' hSw; (try dsimp only at hSw); go_simp; try with_reducible rfl
              try simp only [Act.put, List.setIfInBounds_toArray, List.set_cons_zero, List.set_cons_succ]
              refine wpAnyH_ready (rs := [8, 13, 14]) (by kernel_rfl) (by simp) ?_
              refine AllReadyH.cons (List.getElem?_toArray.trans (List.getElem?_cons_succ.trans (List.getElem?_cons_succ.trans (List.getElem?_cons_succ.trans (List.getElem?_cons_succ.trans (List.getElem?_cons_succ.trans (List.getElem?_cons_succ.trans (List.getElem?_cons_succ.trans (List.getElem?_cons_succ.trans (List.getElem?_cons_zero)))))))))) (fun K hK => ?_) ?_
              · skip
                go_simp
                go_at_call 20
                try rw [hyw]
                refine (HRun.out _ hb0).mono ?_
                rintro e W1 ⟨Ar, cr, rfl, _, hrow, hbc⟩
                dsimp only at hrow ⊢
                have hb1 : Below wr.heap.size wr W1 := hb0.trans (hbc.mono hb0.size)
                have hrow : W1.ownsRow wr.heap.size 2 1 (.slice Ar X.mem.length cr) X.mem.length (zv X.mem) := row_base hrow hb0.size
                clear hbc
                refine hK.out _ _ hb1 (fun _ => ?_)
                clear hK K
                try simp only [Act.put, List.setIfInBounds_toArray, List.set_cons_zero, List.set_cons_succ]
                refine wpAnyH_take (i := 9) (v := ?_) (List.getElem?_toArray.trans (List.getElem?_cons_succ.trans (List.getElem?_cons_succ.trans (List.getElem?_cons_succ.trans (List.getElem?_cons_succ.trans (List.getElem?_cons_succ.trans (List.getElem?_cons_succ.trans (List.getElem?_cons_succ.trans (List.getElem?_cons_succ.trans (List.getElem?_cons_succ.trans (List.getElem?_cons_zero))))))))))) (by kernel_rfl) (by kernel_rfl) (by kernel_rfl) (fun _ _ _ h => h) (Or.inl ⟨by rfl, ?_⟩) (by assumption) ?_
                rotate_left
                · intro w' hSw; (try dsimp only at hSw); go_simp; try with_reducible rfl
                try simp only [Act.put, List.setIfInBounds_toArray, List.set_cons_zero, List.set_cons_succ]
                refine wpAnyH_take (i := 10) (v := ?_) (List.getElem?_toArray.trans (List.getElem?_cons_succ.trans (List.getElem?_cons_succ.trans (List.getElem?_cons_succ.trans (List.getElem?_cons_succ.trans (List.getElem?_cons_succ.trans (List.getElem?_cons_succ.trans (List.getElem?_cons_succ.trans (List.getElem?_cons_succ.trans (List.getElem?_cons_succ.trans (List.getElem?_cons_succ.trans (List.getElem?_cons_zero)))))))))))) (by kernel_rfl) (by kernel_rfl) (by kernel_rfl) (fun _ _ _ h => h) (Or.inl ⟨by rfl, ?_⟩) (by assumption) ?_
                rotate_left
                · intro w' hSw; (try dsimp only at hSw); go_simp; try with_reducible rfl
                try simp only [Act.put, List.setIfInBounds_toArray, List.set_cons_zero, List.set_cons_succ]
                refine wpAnyH_take (i := 11) (v := ?_) (List.getElem?_toArray.trans (List.getElem?_cons_succ.trans (List.getElem?_cons_succ.trans (List.getElem?_cons_succ.trans (List.getElem?_cons_succ.trans (List.getElem?_cons_succ.trans (List.getElem?_cons_succ.trans (List.getElem?_cons_succ.trans (List.getElem?_cons_succ.trans (List.getElem?_cons_succ.trans (List.getElem?_cons_succ.trans (List.getElem?_cons_succ.trans (List.getElem?_cons_zero))))))))))))) (by kernel_rfl) (by kernel_rfl) (by kernel_rfl) (fun _ _ _ h => h) (Or.inl ⟨by rfl, ?_⟩) (by assumption) ?_
                rotate_left
                · intro w' hSw; (try dsimp only at hSw); go_simp; try with_reducible rfl
                try simp only [Act.put, List.setIfInBounds_toArray, List.set_cons_zero, List.set_cons_succ]
                refine wpAnyH_take (i := 12) (v := ?_) (List.getElem?_toArray.trans (List.getElem?_cons_succ.trans (List.getElem?_cons_succ.trans (List.getElem?_cons_succ.trans (List.getElem?_cons_succ.trans (List.getElem?_cons_succ.trans (List.getElem?_cons_succ.trans (List.getElem?_cons_succ.trans (List.getElem?_cons_succ.trans (List.getElem?_cons_succ.trans (List.getElem?_cons_succ.trans (List.getElem?_cons_succ.trans (List.getElem?_cons_succ.trans (List.getElem?_cons_zero)))))))))))))) (by kernel_rfl) (by kernel_rfl) (by kernel_rfl) (fun _ _ _ h => h) (Or.inl ⟨by rfl, ?_⟩) (by assumption) ?_
                rotate_left
                · intro w' hSw; (try dsimp only at hSw); go_simp; try with_reducible rfl
                try simp only [Act.put, List.setIfInBounds_toArray, List.set_cons_zero, List.set_cons_succ]
                refine wpAnyH_ready (rs := [13, 14]) (by kernel_rfl) (by simp) ?_
                refine AllReadyH.cons (List.getElem?_toArray.trans (List.getElem?_cons_succ.trans (List.getElem?_cons_succ.trans (List.getElem?_cons_succ.trans (List.getElem?_cons_succ.trans (List.getElem?_cons_succ.trans (List.getElem?_cons_succ.trans (List.getElem?_cons_succ.trans (List.getElem?_cons_succ.trans (List.getElem?_cons_succ.trans (List.getElem?_cons_succ.trans (List.getElem?_cons_succ.trans (List.getElem?_cons_succ.trans (List.getElem?_cons_succ.trans (List.getElem?_cons_zero))))))))))))))) (fun K hK => ?_) ?_
                · skip
                  go_simp
                  have kx := Blk.new W1 27 #[.int .i64 0, .int .i64 0, .int .i64 0, .int .i64 0, .int .i64 0, .int .i64 0, .int .i64 0, .int .i64 0, .int .i64 0, .slice none 0 0, .int .i64 0, .int .i64 0]
                  have hb2 : Below wr.heap.size wr (W1.alloc (.cells #[.int .i64 0, .int .i64 0, .int .i64 0, .int .i64 0, .int .i64 0, .int .i64 0, .int .i64 0, .int .i64 0, .int .i64 0, .slice none 0 0, .int .i64 0, .int .i64 0] 27)) := hb1.alloc hb1.size _
                  have hggx : wr.heap.size ≤ W1.heap.size := hb1.size
                  have hnx : (Value.slice Ar X.mem.length cr).ownBlock ≠ some W1.heap.size := fun e => Nat.lt_irrefl _ (World.ownsRow.lt hrow _ e).2
                  have hrow := row_alloc hrow (.cells #[.int .i64 0, .int .i64 0, .int .i64 0, .int .i64 0, .int .i64 0, .int .i64 0, .int .i64 0, .int .i64 0, .int .i64 0, .slice none 0 0, .int .i64 0, .int .i64 0] 27)
                  obtain ⟨W2, eW⟩ : ∃ W, W1.alloc (.cells #[.int .i64 0, .int .i64 0, .int .i64 0, .int .i64 0, .int .i64 0, .int .i64 0, .int .i64 0, .int .i64 0, .int .i64 0, .slice none 0 0, .int .i64 0, .int .i64 0] 27) = W := ⟨_, rfl⟩
                  rw [eW] at kx hb2 hrow ⊢
                  obtain ⟨gx, eg⟩ : ∃ x, W1.heap.size = x := ⟨_, rfl⟩
                  rw [eg] at kx hggx hnx ⊢
                  clear eW eg
                  refine hK.out _ _ hb2 (fun _ => ?_)
                  clear hK K
                  try simp only [Act.put, List.setIfInBounds_toArray, List.set_cons_zero, List.set_cons_succ]
                  refine wpAnyH_ready (rs := [14]) (by kernel_rfl) (by simp) ?_
                  refine AllReadyH.cons (List.getElem?_toArray.trans (List.getElem?_cons_succ.trans (List.getElem?_cons_succ.trans (List.getElem?_cons_succ.trans (List.getElem?_cons_succ.trans (List.getElem?_cons_succ.trans (List.getElem?_cons_succ.trans (List.getElem?_cons_succ.trans (List.getElem?_cons_succ.trans (List.getElem?_cons_succ.trans (List.getElem?_cons_succ.trans (List.getElem?_cons_succ.trans (List.getElem?_cons_succ.trans (List.getElem?_cons_succ.trans (List.getElem?_cons_succ.trans (List.getElem?_cons_zero)))))))))))))))) (fun K hK => ?_) AllReadyH.nil
                  go_simp
                  have kf := Blk.new W2 38 #[.int .i64 0, .int .i64 0]
                  have hb3 : Below wr.heap.size wr (W2.alloc (.cells #[.int .i64 0, .int .i64 0] 38)) := hb2.alloc hb2.size _
                  have hggf : wr.heap.size ≤ W2.heap.size := hb2.size
                  have hnf : (Value.slice Ar X.mem.length cr).ownBlock ≠ some W2.heap.size := fun e => Nat.lt_irrefl _ (World.ownsRow.lt hrow _ e).2
                  have hrow := row_alloc hrow (.cells #[.int .i64 0, .int .i64 0] 38)
                  have hxf : gx ≠ W2.heap.size := Nat.ne_of_lt kx.lt
                  have kx := kx.alloc (.cells #[.int .i64 0, .int .i64 0] 38)
                  obtain ⟨W3, eW⟩ : ∃ W, W2.alloc (.cells #[.int .i64 0, .int .i64 0] 38) = W := ⟨_, rfl⟩
                  rw [eW] at kf hb3 hrow kx ⊢
                  obtain ⟨gf, eg⟩ : ∃ x, W2.heap.size = x := ⟨_, rfl⟩
                  rw [eg] at kf hggf hnf hxf ⊢
                  clear eW eg
                  refine hK.out _ _ hb3 (fun _ => ?_)
                  clear hK K
                  try simp only [Act.put, List.setIfInBounds_toArray, List.set_cons_zero, List.set_cons_succ]
                  refine wpAnyH_ready (rs := [15]) (by kernel_rfl) (by simp) ?_
                  refine AllReadyH.cons (List.getElem?_toArray.trans (List.getElem?_cons_succ.trans (List.getElem?_cons_succ.trans (List.getElem?_cons_succ.trans (List.getElem?_cons_succ.trans (List.getElem?_cons_succ.trans (List.getElem?_cons_succ.trans (List.getElem?_cons_succ.trans (List.getElem?_cons_succ.trans (List.getElem?_cons_succ.trans (List.getElem?_cons_succ.trans (List.getElem?_cons_succ.trans (List.getElem?_cons_succ.trans (List.getElem?_cons_succ.trans (List.getElem?_cons_succ.trans (List.getElem?_cons_succ.trans (List.getElem?_cons_zero))))))))))))))))) (fun K hK => ?_) AllReadyH.nil
                  refine wp_store_one 27 (.tmp 19) (.tmp 116) rfl gx (mcells X Ar X.mem.length cr) rfl rfl 27 _ kx mach_size rfl (mcells_one _ _ _ _) ?_
                  intro V1 kx hgn
                  have kf := kf.grown hgn (some_neq (Ne.symm hxf))
                  have hrow := row_not hrow hgn hnx
                  have hv1 : Below wr.heap.size wr V1 := hb3.grown hgn hb3.size (fun g e => by cases e; exact hggx)
                  refine hK.out _ _ hv1 (fun _ => ?_)
                  clear hK K
                  try simp only [Act.put, List.setIfInBounds_toArray, List.set_cons_zero, List.set_cons_succ]
                  refine wpAnyH_ready (rs := [16]) (by kernel_rfl) (by simp) ?_
                  refine AllReadyH.cons (List.getElem?_toArray.trans (List.getElem?_cons_succ.trans (List.getElem?_cons_succ.trans (List.getElem?_cons_succ.trans (List.getElem?_cons_succ.trans (List.getElem?_cons_succ.trans (List.getElem?_cons_succ.trans (List.getElem?_cons_succ.trans (List.getElem?_cons_succ.trans (List.getElem?_cons_succ.trans (List.getElem?_cons_succ.trans (List.getElem?_cons_succ.trans (List.getElem?_cons_succ.trans (List.getElem?_cons_succ.trans (List.getElem?_cons_succ.trans (List.getElem?_cons_succ.trans (List.getElem?_cons_succ.trans (List.getElem?_cons_zero)))))))))))))))))) (fun K hK => ?_) AllReadyH.nil
                  refine wp_store_one 38 (.tmp 20) (.tmp 117) rfl gf [.int .i64 kd, .int .i64 nm] rfl rfl 38 _ kf event_size rfl (by intro u hu; simp only [List.mem_cons, List.not_mem_nil, or_false] at hu; rcases hu with rfl | rfl <;> rfl) ?_
                  intro V2 kf hgm
                  have kx := kx.grown hgm (some_neq hxf)
                  have hrow := row_not hrow hgm hnf
                  have hv2 : Below wr.heap.size wr V2 := hv1.grown hgm hv1.size (fun g e => by cases e; exact hggf)
                  refine hK.out _ _ hv2 (fun _ => ?_)
                  clear hK K
                  try simp only [Act.put, List.setIfInBounds_toArray, List.set_cons_zero, List.set_cons_succ]
                  refine wpAnyH_take (i := 17) (v := ?_) (List.getElem?_toArray.trans (List.getElem?_cons_succ.trans (List.getElem?_cons_succ.trans (List.getElem?_cons_succ.trans (List.getElem?_cons_succ.trans (List.getElem?_cons_succ.trans (List.getElem?_cons_succ.trans (List.getElem?_cons_succ.trans (List.getElem?_cons_succ.trans (List.getElem?_cons_succ.trans (List.getElem?_cons_succ.trans (List.getElem?_cons_succ.trans (List.getElem?_cons_succ.trans (List.getElem?_cons_succ.trans (List.getElem?_cons_succ.trans (List.getElem?_cons_succ.trans (List.getElem?_cons_succ.trans (List.getElem?_cons_succ.trans (List.getElem?_cons_zero))))))))))))))))))) (by kernel_rfl) (by kernel_rfl) (by kernel_rfl) (fun _ _ _ h => h) (Or.inl ⟨by rfl, ?_⟩) (by assumption) ?_
                  rotate_left
                  · intro w' hSw; (try dsimp only at hSw); go_simp; try with_reducible rfl
                  try simp only [Act.put, List.setIfInBounds_toArray, List.set_cons_zero, List.set_cons_succ]
                  refine wpAnyH_done (by kernel_rfl) ?_ _
                  refine hK9 _ _ (Met.intro (hJ9 _ _ ?_))
                  (repeat apply Exists.intro)
                  refine ⟨?rel, rfl⟩
                  case rel => exact ⟨gx, gf, Ar, cr, rfl, rfl, rfl, hggx, hggf, kx, kf, hrow, hnx, hv2⟩
                refine AllReadyH.cons (List.getElem?_toArray.trans (List.getElem?_cons_succ.trans (List.getElem?_cons_succ.trans (List.getElem?_cons_succ.trans (List.getElem?_cons_succ.trans (List.getElem?_cons_succ.trans (List.getElem?_cons_succ.trans (List.getElem?_cons_succ.trans (List.getElem?_cons_succ.trans (List.getElem?_cons_succ.trans (List.getElem?_cons_succ.trans (List.getElem?_cons_succ.trans (List.getElem?_cons_succ.trans (List.getElem?_cons_succ.trans (List.getElem?_cons_succ.trans (List.getElem?_cons_zero)))))))))))))))) (fun K hK => ?_) AllReadyH.nil
                go_simp
                have kf := Blk.new W1 38 #[.int .i64 0, .int .i64 0]
                have hb2 : Below wr.heap.size wr (W1.alloc (.cells #[.int .i64 0, .int .i64 0] 38)) := hb1.alloc hb1.size _
                have hggf : wr.heap.size ≤ W1.heap.size := hb1.size
                have hnf : (Value.slice Ar X.mem.length cr).ownBlock ≠ some W1.heap.size := fun e => Nat.lt_irrefl _ (World.ownsRow.lt hrow _ e).2
                have hrow := row_alloc hrow (.cells #[.int .i64 0, .int .i64 0] 38)
                obtain ⟨W2, eW⟩ : ∃ W, W1.alloc (.cells #[.int .i64 0, .int .i64 0] 38) = W := ⟨_, rfl⟩
                rw [eW] at kf hb2 hrow ⊢
                obtain ⟨gf, eg⟩ : ∃ x, W1.heap.size = x := ⟨_, rfl⟩
                rw [eg] at kf hggf hnf ⊢
                clear eW eg
                refine hK.out _ _ hb2 (fun _ => ?_)
                clear hK K
                try simp only [Act.put, List.setIfInBounds_toArray, List.set_cons_zero, List.set_cons_succ]
                refine wpAnyH_ready (rs := [13]) (by kernel_rfl) (by simp) ?_
                refine AllReadyH.cons (List.getElem?_toArray.trans (List.getElem?_cons_succ.trans (List.getElem?_cons_succ.trans (List.getElem?_cons_succ.trans (List.getElem?_cons_succ.trans (List.getElem?_cons_succ.trans (List.getElem?_cons_succ.trans (List.getElem?_cons_succ.trans (List.getElem?_cons_succ.trans (List.getElem?_cons_succ.trans (List.getElem?_cons_succ.trans (List.getElem?_cons_succ.trans (List.getElem?_cons_succ.trans (List.getElem?_cons_succ.trans (List.getElem?_cons_zero))))))))))))))) (fun K hK => ?_) AllReadyH.nil
                go_simp
                have kx := Blk.new W2 27 #[.int .i64 0, .int .i64 0, .int .i64 0, .int .i64 0, .int .i64 0, .int .i64 0, .int .i64 0, .int .i64 0, .int .i64 0, .slice none 0 0, .int .i64 0, .int .i64 0]
                have hb3 : Below wr.heap.size wr (W2.alloc (.cells #[.int .i64 0, .int .i64 0, .int .i64 0, .int .i64 0, .int .i64 0, .int .i64 0, .int .i64 0, .int .i64 0, .int .i64 0, .slice none 0 0, .int .i64 0, .int .i64 0] 27)) := hb2.alloc hb2.size _
                have hggx : wr.heap.size ≤ W2.heap.size := hb2.size
                have hnx : (Value.slice Ar X.mem.length cr).ownBlock ≠ some W2.heap.size := fun e => Nat.lt_irrefl _ (World.ownsRow.lt hrow _ e).2
                have hrow := row_alloc hrow (.cells #[.int .i64 0, .int .i64 0, .int .i64 0, .int .i64 0, .int .i64 0, .int .i64 0, .int .i64 0, .int .i64 0, .int .i64 0, .slice none 0 0, .int .i64 0, .int .i64 0] 27)
                have hxf : gf ≠ W2.heap.size := Nat.ne_of_lt kf.lt
                have kf := kf.alloc (.cells #[.int .i64 0, .int .i64 0, .int .i64 0, .int .i64 0, .int .i64 0, .int .i64 0, .int .i64 0, .int .i64 0, .int .i64 0, .slice none 0 0, .int .i64 0, .int .i64 0] 27)
                obtain ⟨W3, eW⟩ : ∃ W, W2.alloc (.cells #[.int .i64 0, .int .i64 0, .int .i64 0, .int .i64 0, .int .i64 0, .int .i64 0, .int .i64 0, .int .i64 0, .int .i64 0, .slice none 0 0, .int .i64 0, .int .i64 0] 27) = W := ⟨_, rfl⟩
                rw [eW] at kx hb3 hrow kf ⊢
                obtain ⟨gx, eg⟩ : ∃ x, W2.heap.size = x := ⟨_, rfl⟩
                rw [eg] at kx hggx hnx hxf ⊢
                clear eW eg
                refine hK.out _ _ hb3 (fun _ => ?_)
                clear hK K
                try simp only [Act.put, List.setIfInBounds_toArray, List.set_cons_zero, List.set_cons_succ]
                refine wpAnyH_ready (rs := [15]) (by kernel_rfl) (by simp) ?_
                refine AllReadyH.cons (List.getElem?_toArray.trans (List.getElem?_cons_succ.trans (List.getElem?_cons_succ.trans (List.getElem?_cons_succ.trans (List.getElem?_cons_succ.trans (List.getElem?_cons_succ.trans (List.getElem?_cons_succ.trans (List.getElem?_cons_succ.trans (List.getElem?_cons_succ.trans (List.getElem?_cons_succ.trans (List.getElem?_cons_succ.trans (List.getElem?_cons_succ.trans (List.getElem?_cons_succ.trans (List.getElem?_cons_succ.trans (List.getElem?_cons_succ.trans (List.getElem?_cons_succ.trans (List.getElem?_cons_zero))))))))))))))))) (fun K hK => ?_) AllReadyH.nil
                refine wp_store_one 27 (.tmp 19) (.tmp 116) rfl gx (mcells X Ar X.mem.length cr) rfl rfl 27 _ kx mach_size rfl (mcells_one _ _ _ _) ?_
                intro V1 kx hgn
                have kf := kf.grown hgn (some_neq (Ne.symm (Ne.symm hxf)))
                have hrow := row_not hrow hgn hnx
                have hv1 : Below wr.heap.size wr V1 := hb3.grown hgn hb3.size (fun g e => by cases e; exact hggx)
                refine hK.out _ _ hv1 (fun _ => ?_)
                clear hK K
                try simp only [Act.put, List.setIfInBounds_toArray, List.set_cons_zero, List.set_cons_succ]
                refine wpAnyH_ready (rs := [16]) (by kernel_rfl) (by simp) ?_
                refine AllReadyH.cons (List.getElem?_toArray.trans (List.getElem?_cons_succ.trans (List.getElem?_cons_succ.trans (List.getElem?_cons_succ.trans (List.getElem?_cons_succ.trans (List.getElem?_cons_succ.trans (List.getElem?_cons_succ.trans (List.getElem?_cons_succ.trans (List.getElem?_cons_succ.trans (List.getElem?_cons_succ.trans (List.getElem?_cons_succ.trans (List.getElem?_cons_succ.trans (List.getElem?_cons_succ.trans (List.getElem?_cons_succ.trans (List.getElem?_cons_succ.trans (List.getElem?_cons_succ.trans (List.getElem?_cons_succ.trans (List.getElem?_cons_zero)))))))))))))))))) (fun K hK => ?_) AllReadyH.nil
                refine wp_store_one 38 (.tmp 20) (.tmp 117) rfl gf [.int .i64 kd, .int .i64 nm] rfl rfl 38 _ kf event_size rfl (by intro u hu; simp only [List.mem_cons, List.not_mem_nil, or_false] at hu; rcases hu with rfl | rfl <;> rfl) ?_
                intro V2 kf hgm
                have kx := kx.grown hgm (some_neq (Ne.symm hxf))
                have hrow := row_not hrow hgm hnf
                have hv2 : Below wr.heap.size wr V2 := hv1.grown hgm hv1.size (fun g e => by cases e; exact hggf)
                refine hK.out _ _ hv2 (fun _ => ?_)
                clear hK K
                try simp only [Act.put, List.setIfInBounds_toArray, List.set_cons_zero, List.set_cons_succ]
                refine wpAnyH_take (i := 17) (v := ?_) (List.getElem?_toArray.trans (List.getElem?_cons_succ.trans (List.getElem?_cons_succ.trans (List.getElem?_cons_succ.trans (List.getElem?_cons_succ.trans (List.getElem?_cons_succ.trans (List.getElem?_cons_succ.trans (List.getElem?_cons_succ.trans (List.getElem?_cons_succ.trans (List.getElem?_cons_succ.trans (List.getElem?_cons_succ.trans (List.getElem?_cons_succ.trans (List.getElem?_cons_succ.trans (List.getElem?_cons_succ.trans (List.getElem?_cons_succ.trans (List.getElem?_cons_succ.trans (List.getElem?_cons_succ.trans (List.getElem?_cons_succ.trans (List.getElem?_cons_zero))))))))))))))))))) (by kernel_rfl) (by kernel_rfl) (by kernel_rfl) (fun _ _ _ h => h) (Or.inl ⟨by rfl, ?_⟩) (by assumption) ?_
                rotate_left
                · intro w' hSw; (try dsimp only at hSw); go_simp; try with_reducible rfl
                try simp only [Act.put, List.setIfInBounds_toArray, List.set_cons_zero, List.set_cons_succ]
                refine wpAnyH_done (by kernel_rfl) ?_ _
                refine hK9 _ _ (Met.intro (hJ9 _ _ ?_))
                (repeat apply Exists.intro)
                refine ⟨?rel, rfl⟩
                case rel => exact ⟨gx, gf, Ar, cr, rfl, rfl, rfl, hggx, hggf, kx, kf, hrow, hnx, hv2⟩
              refine AllReadyH.cons (List.getElem?_toArray.trans (List.getElem?_cons_succ.trans (List.getElem?_cons_succ.trans (List.getElem?_cons_succ.trans (List.getElem?_cons_succ.trans (List.getElem?_cons_succ.trans (List.getElem?_cons_succ.trans (List.getElem?_cons_succ.trans (List.getElem?_cons_succ.trans (List.getElem?_cons_succ.trans (List.getElem?_cons_succ.trans (List.getElem?_cons_succ.trans (List.getElem?_cons_succ.trans (List.getElem?_cons_succ.trans (List.getElem?_cons_zero))))))))))))))) (fun K hK => ?_) ?_
              · skip
                go_simp
                have kx := Blk.new W0 27 #[.int .i64 0, .int .i64 0, .int .i64 0, .int .i64 0, .int .i64 0, .int .i64 0, .int .i64 0, .int .i64 0, .int .i64 0, .slice none 0 0, .int .i64 0, .int .i64 0]
                have hb1 : Below wr.heap.size wr (W0.alloc (.cells #[.int .i64 0, .int .i64 0, .int .i64 0, .int .i64 0, .int .i64 0, .int .i64 0, .int .i64 0, .int .i64 0, .int .i64 0, .slice none 0 0, .int .i64 0, .int .i64 0] 27)) := hb0.alloc hb0.size _
                have hggx : wr.heap.size ≤ W0.heap.size := hb0.size
                obtain ⟨W1, eW⟩ : ∃ W, W0.alloc (.cells #[.int .i64 0, .int .i64 0, .int .i64 0, .int .i64 0, .int .i64 0, .int .i64 0, .int .i64 0, .int .i64 0, .int .i64 0, .slice none 0 0, .int .i64 0, .int .i64 0] 27) = W := ⟨_, rfl⟩
                rw [eW] at kx hb1 ⊢
                obtain ⟨gx, eg⟩ : ∃ x, W0.heap.size = x := ⟨_, rfl⟩
                rw [eg] at kx hggx ⊢
                clear eW eg
                refine hK.out _ _ hb1 (fun _ => ?_)
                clear hK K
                try simp only [Act.put, List.setIfInBounds_toArray, List.set_cons_zero, List.set_cons_succ]
                refine wpAnyH_ready (rs := [8, 14]) (by kernel_rfl) (by simp) ?_
                refine AllReadyH.cons (List.getElem?_toArray.trans (List.getElem?_cons_succ.trans (List.getElem?_cons_succ.trans (List.getElem?_cons_succ.trans (List.getElem?_cons_succ.trans (List.getElem?_cons_succ.trans (List.getElem?_cons_succ.trans (List.getElem?_cons_succ.trans (List.getElem?_cons_succ.trans (List.getElem?_cons_zero)))))))))) (fun K hK => ?_) ?_
                · skip
                  go_simp
                  go_at_call 20
                  try rw [hyw]
                  refine (HRun.out _ hb1).mono ?_
                  rintro e W2 ⟨Ar, cr, rfl, _, hrow, hbc⟩
                  dsimp only at hrow ⊢
                  have hb2 : Below wr.heap.size wr W2 := hb1.trans (hbc.mono hb1.size)
                  have hnx : (Value.slice Ar X.mem.length cr).ownBlock ≠ some gx := fun e => by have h1 := (World.ownsRow.lt hrow _ e).1; have h2 := kx.lt; omega
                  have kx := kx.below hbc kx.lt
                  have hrow : W2.ownsRow wr.heap.size 2 1 (.slice Ar X.mem.length cr) X.mem.length (zv X.mem) := row_base hrow hb1.size
                  clear hbc
                  refine hK.out _ _ hb2 (fun _ => ?_)
                  clear hK K
                  try simp only [Act.put, List.setIfInBounds_toArray, List.set_cons_zero, List.set_cons_succ]
                  refine wpAnyH_take (i := 9) (v := ?_) (List.getElem?_toArray.trans (List.getElem?_cons_succ.trans (List.getElem?_cons_succ.trans (List.getElem?_cons_succ.trans (List.getElem?_cons_succ.trans (List.getElem?_cons_succ.trans (List.getElem?_cons_succ.trans (List.getElem?_cons_succ.trans (List.getElem?_cons_succ.trans (List.getElem?_cons_succ.trans (List.getElem?_cons_zero))))))))))) (by kernel_rfl) (by kernel_rfl) (by kernel_rfl) (fun _ _ _ h => h) (Or.inl ⟨by rfl, ?_⟩) (by assumption) ?_
                  rotate_left
                  · intro w' hSw; (try dsimp only at hSw); go_simp; try with_reducible rfl
                  try simp only [Act.put, List.setIfInBounds_toArray, List.set_cons_zero, List.set_cons_succ]
                  refine wpAnyH_take (i := 10) (v := ?_) (List.getElem?_toArray.trans (List.getElem?_cons_succ.trans (List.getElem?_cons_succ.trans (List.getElem?_cons_succ.trans (List.getElem?_cons_succ.trans (List.getElem?_cons_succ.trans (List.getElem?_cons_succ.trans (List.getElem?_cons_succ.trans (List.getElem?_cons_succ.trans (List.getElem?_cons_succ.trans (List.getElem?_cons_succ.trans (List.getElem?_cons_zero)))))))))))) (by kernel_rfl) (by kernel_rfl) (by kernel_rfl) (fun _ _ _ h => h) (Or.inl ⟨by rfl, ?_⟩) (by assumption) ?_
                  rotate_left
                  · intro w' hSw; (try dsimp only at hSw); go_simp; try with_reducible rfl
                  try simp only [Act.put, List.setIfInBounds_toArray, List.set_cons_zero, List.set_cons_succ]
                  refine wpAnyH_take (i := 11) (v := ?_) (List.getElem?_toArray.trans (List.getElem?_cons_succ.trans (List.getElem?_cons_succ.trans (List.getElem?_cons_succ.trans (List.getElem?_cons_succ.trans (List.getElem?_cons_succ.trans (List.getElem?_cons_succ.trans (List.getElem?_cons_succ.trans (List.getElem?_cons_succ.trans (List.getElem?_cons_succ.trans (List.getElem?_cons_succ.trans (List.getElem?_cons_succ.trans (List.getElem?_cons_zero))))))))))))) (by kernel_rfl) (by kernel_rfl) (by kernel_rfl) (fun _ _ _ h => h) (Or.inl ⟨by rfl, ?_⟩) (by assumption) ?_
                  rotate_left
                  · intro w' hSw; (try dsimp only at hSw); go_simp; try with_reducible rfl
                  try simp only [Act.put, List.setIfInBounds_toArray, List.set_cons_zero, List.set_cons_succ]
                  refine wpAnyH_take (i := 12) (v := ?_) (List.getElem?_toArray.trans (List.getElem?_cons_succ.trans (List.getElem?_cons_succ.trans (List.getElem?_cons_succ.trans (List.getElem?_cons_succ.trans (List.getElem?_cons_succ.trans (List.getElem?_cons_succ.trans (List.getElem?_cons_succ.trans (List.getElem?_cons_succ.trans (List.getElem?_cons_succ.trans (List.getElem?_cons_succ.trans (List.getElem?_cons_succ.trans (List.getElem?_cons_succ.trans (List.getElem?_cons_zero)))))))))))))) (by kernel_rfl) (by kernel_rfl) (by kernel_rfl) (fun _ _ _ h => h) (Or.inl ⟨by rfl, ?_⟩) (by assumption) ?_
                  rotate_left
                  · intro w' hSw; (try dsimp only at hSw); go_simp; try with_reducible rfl
                  try simp only [Act.put, List.setIfInBounds_toArray, List.set_cons_zero, List.set_cons_succ]
                  refine wpAnyH_ready (rs := [14]) (by kernel_rfl) (by simp) ?_
                  refine AllReadyH.cons (List.getElem?_toArray.trans (List.getElem?_cons_succ.trans (List.getElem?_cons_succ.trans (List.getElem?_cons_succ.trans (List.getElem?_cons_succ.trans (List.getElem?_cons_succ.trans (List.getElem?_cons_succ.trans (List.getElem?_cons_succ.trans (List.getElem?_cons_succ.trans (List.getElem?_cons_succ.trans (List.getElem?_cons_succ.trans (List.getElem?_cons_succ.trans (List.getElem?_cons_succ.trans (List.getElem?_cons_succ.trans (List.getElem?_cons_succ.trans (List.getElem?_cons_zero)))))))))))))))) (fun K hK => ?_) AllReadyH.nil
                  go_simp
                  have kf := Blk.new W2 38 #[.int .i64 0, .int .i64 0]
                  have hb3 : Below wr.heap.size wr (W2.alloc (.cells #[.int .i64 0, .int .i64 0] 38)) := hb2.alloc hb2.size _
                  have hggf : wr.heap.size ≤ W2.heap.size := hb2.size
                  have hnf : (Value.slice Ar X.mem.length cr).ownBlock ≠ some W2.heap.size := fun e => Nat.lt_irrefl _ (World.ownsRow.lt hrow _ e).2
                  have hrow := row_alloc hrow (.cells #[.int .i64 0, .int .i64 0] 38)
                  have hxf : gx ≠ W2.heap.size := Nat.ne_of_lt kx.lt
                  have kx := kx.alloc (.cells #[.int .i64 0, .int .i64 0] 38)
                  obtain ⟨W3, eW⟩ : ∃ W, W2.alloc (.cells #[.int .i64 0, .int .i64 0] 38) = W := ⟨_, rfl⟩
                  rw [eW] at kf hb3 hrow kx ⊢
                  obtain ⟨gf, eg⟩ : ∃ x, W2.heap.size = x := ⟨_, rfl⟩
                  rw [eg] at kf hggf hnf hxf ⊢
                  clear eW eg
                  refine hK.out _ _ hb3 (fun _ => ?_)
                  clear hK K
                  try simp only [Act.put, List.setIfInBounds_toArray, List.set_cons_zero, List.set_cons_succ]
                  refine wpAnyH_ready (rs := [15]) (by kernel_rfl) (by simp) ?_
                  refine AllReadyH.cons (List.getElem?_toArray.trans (List.getElem?_cons_succ.trans (List.getElem?_cons_succ.trans (List.getElem?_cons_succ.trans (List.getElem?_cons_succ.trans (List.getElem?_cons_succ.trans (List.getElem?_cons_succ.trans (List.getElem?_cons_succ.trans (List.getElem?_cons_succ.trans (List.getElem?_cons_succ.trans (List.getElem?_cons_succ.trans (List.getElem?_cons_succ.trans (List.getElem?_cons_succ.trans (List.getElem?_cons_succ.trans (List.getElem?_cons_succ.trans (List.getElem?_cons_succ.trans (List.getElem?_cons_zero))))))))))))))))) (fun K hK => ?_) AllReadyH.nil
                  refine wp_store_one 27 (.tmp 19) (.tmp 116) rfl gx (mcells X Ar X.mem.length cr) rfl rfl 27 _ kx mach_size rfl (mcells_one _ _ _ _) ?_
                  intro V1 kx hgn
                  have kf := kf.grown hgn (some_neq (Ne.symm hxf))
                  have hrow := row_not hrow hgn hnx
                  have hv1 : Below wr.heap.size wr V1 := hb3.grown hgn hb3.size (fun g e => by cases e; exact hggx)
                  refine hK.out _ _ hv1 (fun _ => ?_)
                  clear hK K
                  try simp only [Act.put, List.setIfInBounds_toArray, List.set_cons_zero, List.set_cons_succ]
                  refine wpAnyH_ready (rs := [16]) (by kernel_rfl) (by simp) ?_
                  refine AllReadyH.cons (List.getElem?_toArray.trans (List.getElem?_cons_succ.trans (List.getElem?_cons_succ.trans (List.getElem?_cons_succ.trans (List.getElem?_cons_succ.trans (List.getElem?_cons_succ.trans (List.getElem?_cons_succ.trans (List.getElem?_cons_succ.trans (List.getElem?_cons_succ.trans (List.getElem?_cons_succ.trans (List.getElem?_cons_succ.trans (List.getElem?_cons_succ.trans (List.getElem?_cons_succ.trans (List.getElem?_cons_succ.trans (List.getElem?_cons_succ.trans (List.getElem?_cons_succ.trans (List.getElem?_cons_succ.trans (List.getElem?_cons_zero)))))))))))))))))) (fun K hK => ?_) AllReadyH.nil
                  refine wp_store_one 38 (.tmp 20) (.tmp 117) rfl gf [.int .i64 kd, .int .i64 nm] rfl rfl 38 _ kf event_size rfl (by intro u hu; simp only [List.mem_cons, List.not_mem_nil, or_false] at hu; rcases hu with rfl | rfl <;> rfl) ?_
                  intro V2 kf hgm
                  have kx := kx.grown hgm (some_neq hxf)
                  have hrow := row_not hrow hgm hnf
                  have hv2 : Below wr.heap.size wr V2 := hv1.grown hgm hv1.size (fun g e => by cases e; exact hggf)
                  refine hK.out _ _ hv2 (fun _ => ?_)
                  clear hK K
                  try simp only [Act.put, List.setIfInBounds_toArray, List.set_cons_zero, List.set_cons_succ]
                  refine wpAnyH_take (i := 17) (v := ?_) (List.getElem?_toArray.trans (List.getElem?_cons_succ.trans (List.getElem?_cons_succ.trans (List.getElem?_cons_succ.trans (List.getElem?_cons_succ.trans (List.getElem?_cons_succ.trans (List.getElem?_cons_succ.trans (List.getElem?_cons_succ.trans (List.getElem?_cons_succ.trans (List.getElem?_cons_succ.trans (List.getElem?_cons_succ.trans (List.getElem?_cons_succ.trans (List.getElem?_cons_succ.trans (List.getElem?_cons_succ.trans (List.getElem?_cons_succ.trans (List.getElem?_cons_succ.trans (List.getElem?_cons_succ.trans (List.getElem?_cons_succ.trans (List.getElem?_cons_zero))))))))))))))))))) (by kernel_rfl) (by kernel_rfl) (by kernel_rfl) (fun _ _ _ h => h) (Or.inl ⟨by rfl, ?_⟩) (by assumption) ?_
                  rotate_left
                  · intro w' hSw; (try dsimp only at hSw); go_simp; try with_reducible rfl
                  try simp only [Act.put, List.setIfInBounds_toArray, List.set_cons_zero, List.set_cons_succ]
                  refine wpAnyH_done (by kernel_rfl) ?_ _
                  refine hK9 _ _ (Met.intro (hJ9 _ _ ?_))
                  (repeat apply Exists.intro)
                  refine ⟨?rel, rfl⟩
                  case rel => exact ⟨gx, gf, Ar, cr, rfl, rfl, rfl, hggx, hggf, kx, kf, hrow, hnx, hv2⟩
                refine AllReadyH.cons (List.getElem?_toArray.trans (List.getElem?_cons_succ.trans (List.getElem?_cons_succ.trans (List.getElem?_cons_succ.trans (List.getElem?_cons_succ.trans (List.getElem?_cons_succ.trans (List.getElem?_cons_succ.trans (List.getElem?_cons_succ.trans (List.getElem?_cons_succ.trans (List.getElem?_cons_succ.trans (List.getElem?_cons_succ.trans (List.getElem?_cons_succ.trans (List.getElem?_cons_succ.trans (List.getElem?_cons_succ.trans (List.getElem?_cons_succ.trans (List.getElem?_cons_zero)))))))))))))))) (fun K hK => ?_) AllReadyH.nil
                go_simp
                have kf := Blk.new W1 38 #[.int .i64 0, .int .i64 0]
                have hb2 : Below wr.heap.size wr (W1.alloc (.cells #[.int .i64 0, .int .i64 0] 38)) := hb1.alloc hb1.size _
                have hggf : wr.heap.size ≤ W1.heap.size := hb1.size
                have hxf : gx ≠ W1.heap.size := Nat.ne_of_lt kx.lt
                have kx := kx.alloc (.cells #[.int .i64 0, .int .i64 0] 38)
                obtain ⟨W2, eW⟩ : ∃ W, W1.alloc (.cells #[.int .i64 0, .int .i64 0] 38) = W := ⟨_, rfl⟩
                rw [eW] at kf hb2 kx ⊢
                obtain ⟨gf, eg⟩ : ∃ x, W1.heap.size = x := ⟨_, rfl⟩
                rw [eg] at kf hggf hxf ⊢
                clear eW eg
                refine hK.out _ _ hb2 (fun _ => ?_)
                clear hK K
                try simp only [Act.put, List.setIfInBounds_toArray, List.set_cons_zero, List.set_cons_succ]
                refine wpAnyH_ready (rs := [8]) (by kernel_rfl) (by simp) ?_
                refine AllReadyH.cons (List.getElem?_toArray.trans (List.getElem?_cons_succ.trans (List.getElem?_cons_succ.trans (List.getElem?_cons_succ.trans (List.getElem?_cons_succ.trans (List.getElem?_cons_succ.trans (List.getElem?_cons_succ.trans (List.getElem?_cons_succ.trans (List.getElem?_cons_succ.trans (List.getElem?_cons_zero)))))))))) (fun K hK => ?_) AllReadyH.nil
                go_simp
                go_at_call 20
                try rw [hyw]
                refine (HRun.out _ hb2).mono ?_
                rintro e W3 ⟨Ar, cr, rfl, _, hrow, hbc⟩
                dsimp only at hrow ⊢
                have hb3 : Below wr.heap.size wr W3 := hb2.trans (hbc.mono hb2.size)
                have hnx : (Value.slice Ar X.mem.length cr).ownBlock ≠ some gx := fun e => by have h1 := (World.ownsRow.lt hrow _ e).1; have h2 := kx.lt; omega
                have kx := kx.below hbc kx.lt
                have hnf : (Value.slice Ar X.mem.length cr).ownBlock ≠ some gf := fun e => by have h1 := (World.ownsRow.lt hrow _ e).1; have h2 := kf.lt; omega
                have kf := kf.below hbc kf.lt
                have hrow : W3.ownsRow wr.heap.size 2 1 (.slice Ar X.mem.length cr) X.mem.length (zv X.mem) := row_base hrow hb2.size
                clear hbc
                refine hK.out _ _ hb3 (fun _ => ?_)
                clear hK K
                try simp only [Act.put, List.setIfInBounds_toArray, List.set_cons_zero, List.set_cons_succ]
                refine wpAnyH_take (i := 9) (v := ?_) (List.getElem?_toArray.trans (List.getElem?_cons_succ.trans (List.getElem?_cons_succ.trans (List.getElem?_cons_succ.trans (List.getElem?_cons_succ.trans (List.getElem?_cons_succ.trans (List.getElem?_cons_succ.trans (List.getElem?_cons_succ.trans (List.getElem?_cons_succ.trans (List.getElem?_cons_succ.trans (List.getElem?_cons_zero))))))))))) (by kernel_rfl) (by kernel_rfl) (by kernel_rfl) (fun _ _ _ h => h) (Or.inl ⟨by rfl, ?_⟩) (by assumption) ?_
                rotate_left
                · intro w' hSw; (try dsimp only at hSw); go_simp; try with_reducible rfl
                try simp only [Act.put, List.setIfInBounds_toArray, List.set_cons_zero, List.set_cons_succ]
                refine wpAnyH_take (i := 10) (v := ?_) (List.getElem?_toArray.trans (List.getElem?_cons_succ.trans (List.getElem?_cons_succ.trans (List.getElem?_cons_succ.trans (List.getElem?_cons_succ.trans (List.getElem?_cons_succ.trans (List.getElem?_cons_succ.trans (List.getElem?_cons_succ.trans (List.getElem?_cons_succ.trans (List.getElem?_cons_succ.trans (List.getElem?_cons_succ.trans (List.getElem?_cons_zero)))))))))))) (by kernel_rfl) (by kernel_rfl) (by kernel_rfl) (fun _ _ _ h => h) (Or.inl ⟨by rfl, ?_⟩) (by assumption) ?_
                rotate_left
                · intro w' hSw; (try dsimp only at hSw); go_simp; try with_reducible rfl
                try simp only [Act.put, List.setIfInBounds_toArray, List.set_cons_zero, List.set_cons_succ]
                refine wpAnyH_take (i := 11) (v := ?_) (List.getElem?_toArray.trans (List.getElem?_cons_succ.trans (List.getElem?_cons_succ.trans (List.getElem?_cons_succ.trans (List.getElem?_cons_succ.trans (List.getElem?_cons_succ.trans (List.getElem?_cons_succ.trans (List.getElem?_cons_succ.trans (List.getElem?_cons_succ.trans (List.getElem?_cons_succ.trans (List.getElem?_cons_succ.trans (List.getElem?_cons_succ.trans (List.getElem?_cons_zero))))))))))))) (by kernel_rfl) (by kernel_rfl) (by kernel_rfl) (fun _ _ _ h => h) (Or.inl ⟨by rfl, ?_⟩) (by assumption) ?_
                rotate_left
                · intro w' hSw; (try dsimp only at hSw); go_simp; try with_reducible rfl
                try simp only [Act.put, List.setIfInBounds_toArray, List.set_cons_zero, List.set_cons_succ]
                refine wpAnyH_take (i := 12) (v := ?_) (List.getElem?_toArray.trans (List.getElem?_cons_succ.trans (List.getElem?_cons_succ.trans (List.getElem?_cons_succ.trans (List.getElem?_cons_succ.trans (List.getElem?_cons_succ.trans (List.getElem?_cons_succ.trans (List.getElem?_cons_succ.trans (List.getElem?_cons_succ.trans (List.getElem?_cons_succ.trans (List.getElem?_cons_succ.trans (List.getElem?_cons_succ.trans (List.getElem?_cons_succ.trans (List.getElem?_cons_zero)))))))))))))) (by kernel_rfl) (by kernel_rfl) (by kernel_rfl) (fun _ _ _ h => h) (Or.inl ⟨by rfl, ?_⟩) (by assumption) ?_
                rotate_left
                · intro w' hSw; (try dsimp only at hSw); go_simp; try with_reducible rfl
                try simp only [Act.put, List.setIfInBounds_toArray, List.set_cons_zero, List.set_cons_succ]
                refine wpAnyH_ready (rs := [15]) (by kernel_rfl) (by simp) ?_
                refine AllReadyH.cons (List.getElem?_toArray.trans (List.getElem?_cons_succ.trans (List.getElem?_cons_succ.trans (List.getElem?_cons_succ.trans (List.getElem?_cons_succ.trans (List.getElem?_cons_succ.trans (List.getElem?_cons_succ.trans (List.getElem?_cons_succ.trans (List.getElem?_cons_succ.trans (List.getElem?_cons_succ.trans (List.getElem?_cons_succ.trans (List.getElem?_cons_succ.trans (List.getElem?_cons_succ.trans (List.getElem?_cons_succ.trans (List.getElem?_cons_succ.trans (List.getElem?_cons_succ.trans (List.getElem?_cons_zero))))))))))))))))) (fun K hK => ?_) AllReadyH.nil
                refine wp_store_one 27 (.tmp 19) (.tmp 116) rfl gx (mcells X Ar X.mem.length cr) rfl rfl 27 _ kx mach_size rfl (mcells_one _ _ _ _) ?_
                intro V1 kx hgn
                have kf := kf.grown hgn (some_neq (Ne.symm hxf))
                have hrow := row_not hrow hgn hnx
                have hv1 : Below wr.heap.size wr V1 := hb3.grown hgn hb3.size (fun g e => by cases e; exact hggx)
                refine hK.out _ _ hv1 (fun _ => ?_)
                clear hK K
                try simp only [Act.put, List.setIfInBounds_toArray, List.set_cons_zero, List.set_cons_succ]
                refine wpAnyH_ready (rs := [16]) (by kernel_rfl) (by simp) ?_
                refine AllReadyH.cons (List.getElem?_toArray.trans (List.getElem?_cons_succ.trans (List.getElem?_cons_succ.trans (List.getElem?_cons_succ.trans (List.getElem?_cons_succ.trans (List.getElem?_cons_succ.trans (List.getElem?_cons_succ.trans (List.getElem?_cons_succ.trans (List.getElem?_cons_succ.trans (List.getElem?_cons_succ.trans (List.getElem?_cons_succ.trans (List.getElem?_cons_succ.trans (List.getElem?_cons_succ.trans (List.getElem?_cons_succ.trans (List.getElem?_cons_succ.trans (List.getElem?_cons_succ.trans (List.getElem?_cons_succ.trans (List.getElem?_cons_zero)))))))))))))))))) (fun K hK => ?_) AllReadyH.nil
                refine wp_store_one 38 (.tmp 20) (.tmp 117) rfl gf [.int .i64 kd, .int .i64 nm] rfl rfl 38 _ kf event_size rfl (by intro u hu; simp only [List.mem_cons, List.not_mem_nil, or_false] at hu; rcases hu with rfl | rfl <;> rfl) ?_
                intro V2 kf hgm
                have kx := kx.grown hgm (some_neq hxf)
                have hrow := row_not hrow hgm hnf
                have hv2 : Below wr.heap.size wr V2 := hv1.grown hgm hv1.size (fun g e => by cases e; exact hggf)
                refine hK.out _ _ hv2 (fun _ => ?_)
                clear hK K
                try simp only [Act.put, List.setIfInBounds_toArray, List.set_cons_zero, List.set_cons_succ]
                refine wpAnyH_take (i := 17) (v := ?_) (List.getElem?_toArray.trans (List.getElem?_cons_succ.trans (List.getElem?_cons_succ.trans (List.getElem?_cons_succ.trans (List.getElem?_cons_succ.trans (List.getElem?_cons_succ.trans (List.getElem?_cons_succ.trans (List.getElem?_cons_succ.trans (List.getElem?_cons_succ.trans (List.getElem?_cons_succ.trans (List.getElem?_cons_succ.trans (List.getElem?_cons_succ.trans (List.getElem?_cons_succ.trans (List.getElem?_cons_succ.trans (List.getElem?_cons_succ.trans (List.getElem?_cons_succ.trans (List.getElem?_cons_succ.trans (List.getElem?_cons_succ.trans (List.getElem?_cons_zero))))))))))))))))))) (by kernel_rfl) (by kernel_rfl) (by kernel_rfl) (fun _ _ _ h => h) (Or.inl ⟨by rfl, ?_⟩) (by assumption) ?_
                rotate_left
                · intro w' hSw; (try dsimp only at hSw); go_simp; try with_reducible rfl
                try simp only [Act.put, List.setIfInBounds_toArray, List.set_cons_zero, List.set_cons_succ]
                refine wpAnyH_done (by kernel_rfl) ?_ _
                refine hK9 _ _ (Met.intro (hJ9 _ _ ?_))
                (repeat apply Exists.intro)
                refine ⟨?rel, rfl⟩
                case rel => exact ⟨gx, gf, Ar, cr, rfl, rfl, rfl, hggx, hggf, kx, kf, hrow, hnx, hv2⟩
              refine AllReadyH.cons (List.getElem?_toArray.trans (List.getElem?_cons_succ.trans (List.getElem?_cons_succ.trans (List.getElem?_cons_succ.trans (List.getElem?_cons_succ.trans (List.getElem?_cons_succ.trans (List.getElem?_cons_succ.trans (List.getElem?_cons_succ.trans (List.getElem?_cons_succ.trans (List.getElem?_cons_succ.trans (List.getElem?_cons_succ.trans (List.getElem?_cons_succ.trans (List.getElem?_cons_succ.trans (List.getElem?_cons_succ.trans (List.getElem?_cons_succ.trans (List.getElem?_cons_zero)))))))))))))))) (fun K hK => ?_) AllReadyH.nil
              go_simp
              have kf := Blk.new W0 38 #[.int .i64 0, .int .i64 0]
              have hb1 : Below wr.heap.size wr (W0.alloc (.cells #[.int .i64 0, .int .i64 0] 38)) := hb0.alloc hb0.size _
              have hggf : wr.heap.size ≤ W0.heap.size := hb0.size
              obtain ⟨W1, eW⟩ : ∃ W, W0.alloc (.cells #[.int .i64 0, .int .i64 0] 38) = W := ⟨_, rfl⟩
              rw [eW] at kf hb1 ⊢
              obtain ⟨gf, eg⟩ : ∃ x, W0.heap.size = x := ⟨_, rfl⟩
              rw [eg] at kf hggf ⊢
              clear eW eg
              refine hK.out _ _ hb1 (fun _ => ?_)
              clear hK K
              try simp only [Act.put, List.setIfInBounds_toArray, List.set_cons_zero, List.set_cons_succ]
              refine wpAnyH_ready (rs := [8, 13]) (by kernel_rfl) (by simp) ?_
              refine AllReadyH.cons (List.getElem?_toArray.trans (List.getElem?_cons_succ.trans (List.getElem?_cons_succ.trans (List.getElem?_cons_succ.trans (List.getElem?_cons_succ.trans (List.getElem?_cons_succ.trans (List.getElem?_cons_succ.trans (List.getElem?_cons_succ.trans (List.getElem?_cons_succ.trans (List.getElem?_cons_zero)))))))))) (fun K hK => ?_) ?_
              · skip
                go_simp
                go_at_call 20
                try rw [hyw]
                refine (HRun.out _ hb1).mono ?_
                rintro e W2 ⟨Ar, cr, rfl, _, hrow, hbc⟩
                dsimp only at hrow ⊢
                have hb2 : Below wr.heap.size wr W2 := hb1.trans (hbc.mono hb1.size)
                have hnf : (Value.slice Ar X.mem.length cr).ownBlock ≠ some gf := fun e => by have h1 := (World.ownsRow.lt hrow _ e).1; have h2 := kf.lt; omega
                have kf := kf.below hbc kf.lt
                have hrow : W2.ownsRow wr.heap.size 2 1 (.slice Ar X.mem.length cr) X.mem.length (zv X.mem) := row_base hrow hb1.size
                clear hbc
                refine hK.out _ _ hb2 (fun _ => ?_)
                clear hK K
                try simp only [Act.put, List.setIfInBounds_toArray, List.set_cons_zero, List.set_cons_succ]
                refine wpAnyH_take (i := 9) (v := ?_) (List.getElem?_toArray.trans (List.getElem?_cons_succ.trans (List.getElem?_cons_succ.trans (List.getElem?_cons_succ.trans (List.getElem?_cons_succ.trans (List.getElem?_cons_succ.trans (List.getElem?_cons_succ.trans (List.getElem?_cons_succ.trans (List.getElem?_cons_succ.trans (List.getElem?_cons_succ.trans (List.getElem?_cons_zero))))))))))) (by kernel_rfl) (by kernel_rfl) (by kernel_rfl) (fun _ _ _ h => h) (Or.inl ⟨by rfl, ?_⟩) (by assumption) ?_
                rotate_left
                · intro w' hSw; (try dsimp only at hSw); go_simp; try with_reducible rfl
                try simp only [Act.put, List.setIfInBounds_toArray, List.set_cons_zero, List.set_cons_succ]
                refine wpAnyH_take (i := 10) (v := ?_) (List.getElem?_toArray.trans (List.getElem?_cons_succ.trans (List.getElem?_cons_succ.trans (List.getElem?_cons_succ.trans (List.getElem?_cons_succ.trans (List.getElem?_cons_succ.trans (List.getElem?_cons_succ.trans (List.getElem?_cons_succ.trans (List.getElem?_cons_succ.trans (List.getElem?_cons_succ.trans (List.getElem?_cons_succ.trans (List.getElem?_cons_zero)))))))))))) (by kernel_rfl) (by kernel_rfl) (by kernel_rfl) (fun _ _ _ h => h) (Or.inl ⟨by rfl, ?_⟩) (by assumption) ?_
                rotate_left
                · intro w' hSw; (try dsimp only at hSw); go_simp; try with_reducible rfl
                try simp only [Act.put, List.setIfInBounds_toArray, List.set_cons_zero, List.set_cons_succ]
                refine wpAnyH_take (i := 11) (v := ?_) (List.getElem?_toArray.trans (List.getElem?_cons_succ.trans (List.getElem?_cons_succ.trans (List.getElem?_cons_succ.trans (List.getElem?_cons_succ.trans (List.getElem?_cons_succ.trans (List.getElem?_cons_succ.trans (List.getElem?_cons_succ.trans (List.getElem?_cons_succ.trans (List.getElem?_cons_succ.trans (List.getElem?_cons_succ.trans (List.getElem?_cons_succ.trans (List.getElem?_cons_zero))))))))))))) (by kernel_rfl) (by kernel_rfl) (by kernel_rfl) (fun _ _ _ h => h) (Or.inl ⟨by rfl, ?_⟩) (by assumption) ?_
                rotate_left
                · intro w' hSw; (try dsimp only at hSw); go_simp; try with_reducible rfl
                try simp only [Act.put, List.setIfInBounds_toArray, List.set_cons_zero, List.set_cons_succ]
                refine wpAnyH_take (i := 12) (v := ?_) (List.getElem?_toArray.trans (List.getElem?_cons_succ.trans (List.getElem?_cons_succ.trans (List.getElem?_cons_succ.trans (List.getElem?_cons_succ.trans (List.getElem?_cons_succ.trans (List.getElem?_cons_succ.trans (List.getElem?_cons_succ.trans (List.getElem?_cons_succ.trans (List.getElem?_cons_succ.trans (List.getElem?_cons_succ.trans (List.getElem?_cons_succ.trans (List.getElem?_cons_succ.trans (List.getElem?_cons_zero)))))))))))))) (by kernel_rfl) (by kernel_rfl) (by kernel_rfl) (fun _ _ _ h => h) (Or.inl ⟨by rfl, ?_⟩) (by assumption) ?_
                rotate_left
                · intro w' hSw; (try dsimp only at hSw); go_simp; try with_reducible rfl
                try simp only [Act.put, List.setIfInBounds_toArray, List.set_cons_zero, List.set_cons_succ]
                refine wpAnyH_ready (rs := [13]) (by kernel_rfl) (by simp) ?_
                refine AllReadyH.cons (List.getElem?_toArray.trans (List.getElem?_cons_succ.trans (List.getElem?_cons_succ.trans (List.getElem?_cons_succ.trans (List.getElem?_cons_succ.trans (List.getElem?_cons_succ.trans (List.getElem?_cons_succ.trans (List.getElem?_cons_succ.trans (List.getElem?_cons_succ.trans (List.getElem?_cons_succ.trans (List.getElem?_cons_succ.trans (List.getElem?_cons_succ.trans (List.getElem?_cons_succ.trans (List.getElem?_cons_succ.trans (List.getElem?_cons_zero))))))))))))))) (fun K hK => ?_) AllReadyH.nil
                go_simp
                have kx := Blk.new W2 27 #[.int .i64 0, .int .i64 0, .int .i64 0, .int .i64 0, .int .i64 0, .int .i64 0, .int .i64 0, .int .i64 0, .int .i64 0, .slice none 0 0, .int .i64 0, .int .i64 0]
                have hb3 : Below wr.heap.size wr (W2.alloc (.cells #[.int .i64 0, .int .i64 0, .int .i64 0, .int .i64 0, .int .i64 0, .int .i64 0, .int .i64 0, .int .i64 0, .int .i64 0, .slice none 0 0, .int .i64 0, .int .i64 0] 27)) := hb2.alloc hb2.size _
                have hggx : wr.heap.size ≤ W2.heap.size := hb2.size
                have hnx : (Value.slice Ar X.mem.length cr).ownBlock ≠ some W2.heap.size := fun e => Nat.lt_irrefl _ (World.ownsRow.lt hrow _ e).2
                have hrow := row_alloc hrow (.cells #[.int .i64 0, .int .i64 0, .int .i64 0, .int .i64 0, .int .i64 0, .int .i64 0, .int .i64 0, .int .i64 0, .int .i64 0, .slice none 0 0, .int .i64 0, .int .i64 0] 27)
                have hxf : gf ≠ W2.heap.size := Nat.ne_of_lt kf.lt
                have kf := kf.alloc (.cells #[.int .i64 0, .int .i64 0, .int .i64 0, .int .i64 0, .int .i64 0, .int .i64 0, .int .i64 0, .int .i64 0, .int .i64 0, .slice none 0 0, .int .i64 0, .int .i64 0] 27)
                obtain ⟨W3, eW⟩ : ∃ W, W2.alloc (.cells #[.int .i64 0, .int .i64 0, .int .i64 0, .int .i64 0, .int .i64 0, .int .i64 0, .int .i64 0, .int .i64 0, .int .i64 0, .slice none 0 0, .int .i64 0, .int .i64 0] 27) = W := ⟨_, rfl⟩
                rw [eW] at kx hb3 hrow kf ⊢
                obtain ⟨gx, eg⟩ : ∃ x, W2.heap.size = x := ⟨_, rfl⟩
                rw [eg] at kx hggx hnx hxf ⊢
                clear eW eg
                refine hK.out _ _ hb3 (fun _ => ?_)
                clear hK K
                try simp only [Act.put, List.setIfInBounds_toArray, List.set_cons_zero, List.set_cons_succ]
                refine wpAnyH_ready (rs := [15]) (by kernel_rfl) (by simp) ?_
                refine AllReadyH.cons (List.getElem?_toArray.trans (List.getElem?_cons_succ.trans (List.getElem?_cons_succ.trans (List.getElem?_cons_succ.trans (List.getElem?_cons_succ.trans (List.getElem?_cons_succ.trans (List.getElem?_cons_succ.trans (List.getElem?_cons_succ.trans (List.getElem?_cons_succ.trans (List.getElem?_cons_succ.trans (List.getElem?_cons_succ.trans (List.getElem?_cons_succ.trans (List.getElem?_cons_succ.trans (List.getElem?_cons_succ.trans (List.getElem?_cons_succ.trans (List.getElem?_cons_succ.trans (List.getElem?_cons_zero))))))))))))))))) (fun K hK => ?_) AllReadyH.nil
                refine wp_store_one 27 (.tmp 19) (.tmp 116) rfl gx (mcells X Ar X.mem.length cr) rfl rfl 27 _ kx mach_size rfl (mcells_one _ _ _ _) ?_
                intro V1 kx hgn
                have kf := kf.grown hgn (some_neq (Ne.symm (Ne.symm hxf)))
                have hrow := row_not hrow hgn hnx
                have hv1 : Below wr.heap.size wr V1 := hb3.grown hgn hb3.size (fun g e => by cases e; exact hggx)
                refine hK.out _ _ hv1 (fun _ => ?_)
                clear hK K
                try simp only [Act.put, List.setIfInBounds_toArray, List.set_cons_zero, List.set_cons_succ]
                refine wpAnyH_ready (rs := [16]) (by kernel_rfl) (by simp) ?_
                refine AllReadyH.cons (List.getElem?_toArray.trans (List.getElem?_cons_succ.trans (List.getElem?_cons_succ.trans (List.getElem?_cons_succ.trans (List.getElem?_cons_succ.trans (List.getElem?_cons_succ.trans (List.getElem?_cons_succ.trans (List.getElem?_cons_succ.trans (List.getElem?_cons_succ.trans (List.getElem?_cons_succ.trans (List.getElem?_cons_succ.trans (List.getElem?_cons_succ.trans (List.getElem?_cons_succ.trans (List.getElem?_cons_succ.trans (List.getElem?_cons_succ.trans (List.getElem?_cons_succ.trans (List.getElem?_cons_succ.trans (List.getElem?_cons_zero)))))))))))))))))) (fun K hK => ?_) AllReadyH.nil
                refine wp_store_one 38 (.tmp 20) (.tmp 117) rfl gf [.int .i64 kd, .int .i64 nm] rfl rfl 38 _ kf event_size rfl (by intro u hu; simp only [List.mem_cons, List.not_mem_nil, or_false] at hu; rcases hu with rfl | rfl <;> rfl) ?_
                intro V2 kf hgm
                have kx := kx.grown hgm (some_neq (Ne.symm hxf))
                have hrow := row_not hrow hgm hnf
                have hv2 : Below wr.heap.size wr V2 := hv1.grown hgm hv1.size (fun g e => by cases e; exact hggf)
                refine hK.out _ _ hv2 (fun _ => ?_)
                clear hK K
                try simp only [Act.put, List.setIfInBounds_toArray, List.set_cons_zero, List.set_cons_succ]
                refine wpAnyH_take (i := 17) (v := ?_) (List.getElem?_toArray.trans (List.getElem?_cons_succ.trans (List.getElem?_cons_succ.trans (List.getElem?_cons_succ.trans (List.getElem?_cons_succ.trans (List.getElem?_cons_succ.trans (List.getElem?_cons_succ.trans (List.getElem?_cons_succ.trans (List.getElem?_cons_succ.trans (List.getElem?_cons_succ.trans (List.getElem?_cons_succ.trans (List.getElem?_cons_succ.trans (List.getElem?_cons_succ.trans (List.getElem?_cons_succ.trans (List.getElem?_cons_succ.trans (List.getElem?_cons_succ.trans (List.getElem?_cons_succ.trans (List.getElem?_cons_succ.trans (List.getElem?_cons_zero))))))))))))))))))) (by kernel_rfl) (by kernel_rfl) (by kernel_rfl) (fun _ _ _ h => h) (Or.inl ⟨by rfl, ?_⟩) (by assumption) ?_
                rotate_left
                · intro w' hSw; (try dsimp only at hSw); go_simp; try with_reducible rfl
                try simp only [Act.put, List.setIfInBounds_toArray, List.set_cons_zero, List.set_cons_succ]
                refine wpAnyH_done (by kernel_rfl) ?_ _
                refine hK9 _ _ (Met.intro (hJ9 _ _ ?_))
                (repeat apply Exists.intro)
                refine ⟨?rel, rfl⟩
                case rel => exact ⟨gx, gf, Ar, cr, rfl, rfl, rfl, hggx, hggf, kx, kf, hrow, hnx, hv2⟩
              refine AllReadyH.cons (List.getElem?_toArray.trans (List.getElem?_cons_succ.trans (List.getElem?_cons_succ.trans (List.getElem?_cons_succ.trans (List.getElem?_cons_succ.trans (List.getElem?_cons_succ.trans (List.getElem?_cons_succ.trans (List.getElem?_cons_succ.trans (List.getElem?_cons_succ.trans (List.getElem?_cons_succ.trans (List.getElem?_cons_succ.trans (List.getElem?_cons_succ.trans (List.getElem?_cons_succ.trans (List.getElem?_cons_succ.trans (List.getElem?_cons_zero))))))))))))))) (fun K hK => ?_) AllReadyH.nil
              go_simp
              have kx := Blk.new W1 27 #[.int .i64 0, .int .i64 0, .int .i64 0, .int .i64 0, .int .i64 0, .int .i64 0, .int .i64 0, .int .i64 0, .int .i64 0, .slice none 0 0, .int .i64 0, .int .i64 0]
              have hb2 : Below wr.heap.size wr (W1.alloc (.cells #[.int .i64 0, .int .i64 0, .int .i64 0, .int .i64 0, .int .i64 0, .int .i64 0, .int .i64 0, .int .i64 0, .int .i64 0, .slice none 0 0, .int .i64 0, .int .i64 0] 27)) := hb1.alloc hb1.size _
              have hggx : wr.heap.size ≤ W1.heap.size := hb1.size
              have hxf : gf ≠ W1.heap.size := Nat.ne_of_lt kf.lt
              have kf := kf.alloc (.cells #[.int .i64 0, .int .i64 0, .int .i64 0, .int .i64 0, .int .i64 0, .int .i64 0, .int .i64 0, .int .i64 0, .int .i64 0, .slice none 0 0, .int .i64 0, .int .i64 0] 27)
              obtain ⟨W2, eW⟩ : ∃ W, W1.alloc (.cells #[.int .i64 0, .int .i64 0, .int .i64 0, .int .i64 0, .int .i64 0, .int .i64 0, .int .i64 0, .int .i64 0, .int .i64 0, .slice none 0 0, .int .i64 0, .int .i64 0] 27) = W := ⟨_, rfl⟩
              rw [eW] at kx hb2 kf ⊢
              obtain ⟨gx, eg⟩ : ∃ x, W1.heap.size = x := ⟨_, rfl⟩
              rw [eg] at kx hggx hxf ⊢
              clear eW eg
              refine hK.out _ _ hb2 (fun _ => ?_)
              clear hK K
              try simp only [Act.put, List.setIfInBounds_toArray, List.set_cons_zero, List.set_cons_succ]
              refine wpAnyH_ready (rs := [8]) (by kernel_rfl) (by simp) ?_
              refine AllReadyH.cons (List.getElem?_toArray.trans (List.getElem?_cons_succ.trans (List.getElem?_cons_succ.trans (List.getElem?_cons_succ.trans (List.getElem?_cons_succ.trans (List.getElem?_cons_succ.trans (List.getElem?_cons_succ.trans (List.getElem?_cons_succ.trans (List.getElem?_cons_succ.trans (List.getElem?_cons_zero)))))))))) (fun K hK => ?_) AllReadyH.nil
              go_simp
              go_at_call 20
              try rw [hyw]
              refine (HRun.out _ hb2).mono ?_
              rintro e W3 ⟨Ar, cr, rfl, _, hrow, hbc⟩
              dsimp only at hrow ⊢
              have hb3 : Below wr.heap.size wr W3 := hb2.trans (hbc.mono hb2.size)
              have hnx : (Value.slice Ar X.mem.length cr).ownBlock ≠ some gx := fun e => by have h1 := (World.ownsRow.lt hrow _ e).1; have h2 := kx.lt; omega
              have kx := kx.below hbc kx.lt
              have hnf : (Value.slice Ar X.mem.length cr).ownBlock ≠ some gf := fun e => by have h1 := (World.ownsRow.lt hrow _ e).1; have h2 := kf.lt; omega
              have kf := kf.below hbc kf.lt
              have hrow : W3.ownsRow wr.heap.size 2 1 (.slice Ar X.mem.length cr) X.mem.length (zv X.mem) := row_base hrow hb2.size
              clear hbc
              refine hK.out _ _ hb3 (fun _ => ?_)
              clear hK K
              try simp only [Act.put, List.setIfInBounds_toArray, List.set_cons_zero, List.set_cons_succ]
              refine wpAnyH_take (i := 9) (v := ?_) (List.getElem?_toArray.trans (List.getElem?_cons_succ.trans (List.getElem?_cons_succ.trans (List.getElem?_cons_succ.trans (List.getElem?_cons_succ.trans (List.getElem?_cons_succ.trans (List.getElem?_cons_succ.trans (List.getElem?_cons_succ.trans (List.getElem?_cons_succ.trans (List.getElem?_cons_succ.trans (List.getElem?_cons_zero))))))))))) (by kernel_rfl) (by kernel_rfl) (by kernel_rfl) (fun _ _ _ h => h) (Or.inl ⟨by rfl, ?_⟩) (by assumption) ?_
              rotate_left
              · intro w' hSw; (try dsimp only at hSw); go_simp; try with_reducible rfl
              try simp only [Act.put, List.setIfInBounds_toArray, List.set_cons_zero, List.set_cons_succ]
              refine wpAnyH_take (i := 10) (v := ?_) (List.getElem?_toArray.trans (List.getElem?_cons_succ.trans (List.getElem?_cons_succ.trans (List.getElem?_cons_succ.trans (List.getElem?_cons_succ.trans (List.getElem?_cons_succ.trans (List.getElem?_cons_succ.trans (List.getElem?_cons_succ.trans (List.getElem?_cons_succ.trans (List.getElem?_cons_succ.trans (List.getElem?_cons_succ.trans (List.getElem?_cons_zero)))))))))))) (by kernel_rfl) (by kernel_rfl) (by kernel_rfl) (fun _ _ _ h => h) (Or.inl ⟨by rfl, ?_⟩) (by assumption) ?_
              rotate_left
              · intro w' hSw; (try dsimp only at hSw); go_simp; try with_reducible rfl
              try simp only [Act.put, List.setIfInBounds_toArray, List.set_cons_zero, List.set_cons_succ]
              refine wpAnyH_take (i := 11) (v := ?_) (List.getElem?_toArray.trans (List.getElem?_cons_succ.trans (List.getElem?_cons_succ.trans (List.getElem?_cons_succ.trans (List.getElem?_cons_succ.trans (List.getElem?_cons_succ.trans (List.getElem?_cons_succ.trans (List.getElem?_cons_succ.trans (List.getElem?_cons_succ.trans (List.getElem?_cons_succ.trans (List.getElem?_cons_succ.trans (List.getElem?_cons_succ.trans (List.getElem?_cons_zero))))))))))))) (by kernel_rfl) (by kernel_rfl) (by kernel_rfl) (fun _ _ _ h => h) (Or.inl ⟨by rfl, ?_⟩) (by assumption) ?_
              rotate_left
              · intro w' hSw; (try dsimp only at hSw); go_simp; try with_reducible rfl
              try simp only [Act.put, List.setIfInBounds_toArray, List.set_cons_zero, List.set_cons_succ]
              refine wpAnyH_take (i := 12) (v := ?_) (List.getElem?_toArray.trans (List.getElem?_cons_succ.trans (List.getElem?_cons_succ.trans (List.getElem?_cons_succ.trans (List.getElem?_cons_succ.trans (List.getElem?_cons_succ.trans (List.getElem?_cons_succ.trans (List.getElem?_cons_succ.trans (List.getElem?_cons_succ.trans (List.getElem?_cons_succ.trans (List.getElem?_cons_succ.trans (List.getElem?_cons_succ.trans (List.getElem?_cons_succ.trans (List.getElem?_cons_zero)))))))))))))) (by kernel_rfl) (by kernel_rfl) (by kernel_rfl) (fun _ _ _ h => h) (Or.inl ⟨by rfl, ?_⟩) (by assumption) ?_
              rotate_left
              · intro w' hSw; (try dsimp only at hSw); go_simp; try with_reducible rfl
              try simp only [Act.put, List.setIfInBounds_toArray, List.set_cons_zero, List.set_cons_succ]
              refine wpAnyH_ready (rs := [15]) (by kernel_rfl) (by simp) ?_
              refine AllReadyH.cons (List.getElem?_toArray.trans (List.getElem?_cons_succ.trans (List.getElem?_cons_succ.trans (List.getElem?_cons_succ.trans (List.getElem?_cons_succ.trans (List.getElem?_cons_succ.trans (List.getElem?_cons_succ.trans (List.getElem?_cons_succ.trans (List.getElem?_cons_succ.trans (List.getElem?_cons_succ.trans (List.getElem?_cons_succ.trans (List.getElem?_cons_succ.trans (List.getElem?_cons_succ.trans (List.getElem?_cons_succ.trans (List.getElem?_cons_succ.trans (List.getElem?_cons_succ.trans (List.getElem?_cons_zero))))))))))))))))) (fun K hK => ?_) AllReadyH.nil
              refine wp_store_one 27 (.tmp 19) (.tmp 116) rfl gx (mcells X Ar X.mem.length cr) rfl rfl 27 _ kx mach_size rfl (mcells_one _ _ _ _) ?_
              intro V1 kx hgn
              have kf := kf.grown hgn (some_neq (Ne.symm (Ne.symm hxf)))
              have hrow := row_not hrow hgn hnx
              have hv1 : Below wr.heap.size wr V1 := hb3.grown hgn hb3.size (fun g e => by cases e; exact hggx)
              refine hK.out _ _ hv1 (fun _ => ?_)
              clear hK K
              try simp only [Act.put, List.setIfInBounds_toArray, List.set_cons_zero, List.set_cons_succ]
              refine wpAnyH_ready (rs := [16]) (by kernel_rfl) (by simp) ?_
              refine AllReadyH.cons (List.getElem?_toArray.trans (List.getElem?_cons_succ.trans (List.getElem?_cons_succ.trans (List.getElem?_cons_succ.trans (List.getElem?_cons_succ.trans (List.getElem?_cons_succ.trans (List.getElem?_cons_succ.trans (List.getElem?_cons_succ.trans (List.getElem?_cons_succ.trans (List.getElem?_cons_succ.trans (List.getElem?_cons_succ.trans (List.getElem?_cons_succ.trans (List.getElem?_cons_succ.trans (List.getElem?_cons_succ.trans (List.getElem?_cons_succ.trans (List.getElem?_cons_succ.trans (List.getElem?_cons_succ.trans (List.getElem?_cons_zero)))))))))))))))))) (fun K hK => ?_) AllReadyH.nil
              refine wp_store_one 38 (.tmp 20) (.tmp 117) rfl gf [.int .i64 kd, .int .i64 nm] rfl rfl 38 _ kf event_size rfl (by intro u hu; simp only [List.mem_cons, List.not_mem_nil, or_false] at hu; rcases hu with rfl | rfl <;> rfl) ?_
              intro V2 kf hgm
              have kx := kx.grown hgm (some_neq (Ne.symm hxf))
              have hrow := row_not hrow hgm hnf
              have hv2 : Below wr.heap.size wr V2 := hv1.grown hgm hv1.size (fun g e => by cases e; exact hggf)
              refine hK.out _ _ hv2 (fun _ => ?_)
              clear hK K
              try simp only [Act.put, List.setIfInBounds_toArray, List.set_cons_zero, List.set_cons_succ]
              refine wpAnyH_take (i := 17) (v := ?_) (List.getElem?_toArray.trans (List.getElem?_cons_succ.trans (List.getElem?_cons_succ.trans (List.getElem?_cons_succ.trans (List.getElem?_cons_succ.trans (List.getElem?_cons_succ.trans (List.getElem?_cons_succ.trans (List.getElem?_cons_succ.trans (List.getElem?_cons_succ.trans (List.getElem?_cons_succ.trans (List.getElem?_cons_succ.trans (List.getElem?_cons_succ.trans (List.getElem?_cons_succ.trans (List.getElem?_cons_succ.trans (List.getElem?_cons_succ.trans (List.getElem?_cons_succ.trans (List.getElem?_cons_succ.trans (List.getElem?_cons_succ.trans (List.getElem?_cons_zero))))))))))))))))))) (by kernel_rfl) (by kernel_rfl) (by kernel_rfl) (fun _ _ _ h => h) (Or.inl ⟨by rfl, ?_⟩) (by assumption) ?_
              rotate_left
              · intro w' hSw; (try dsimp only at hSw); go_simp; try with_reducible rfl
              try simp only [Act.put, List.setIfInBounds_toArray, List.set_cons_zero, List.set_cons_succ]
              refine wpAnyH_done (by kernel_rfl) ?_ _
              refine hK9 _ _ (Met.intro (hJ9 _ _ ?_))
              (repeat apply Exists.intro)
              refine ⟨?rel, rfl⟩
              case rel => exact ⟨gx, gf, Ar, cr, rfl, rfl, rfl, hggx, hggf, kx, kf, hrow, hnx, hv2⟩
            case rest =>
              revert wc
              intro wa hcut
              obtain ⟨gx, gf, Ar, cr, rfl, rfl, rfl, hggx, hggf, kx, kf, hrow, hnx, hbc9⟩ := hcut
              have HX := Lib.hid (And.intro kx (And.intro kf (And.intro hrow (And.intro hnx (And.intro hggx (And.intro hggf hbc9))))))
              have hRun2 : ∀ W, Below wa.heap.size wa W → Calls Tryd.prog 20 #[.slice A2 ll c2, mv M Ao M.mem.length co, .int .i64 (y : Int)] W (RunPost W (X, kd, nm, cn)) := fun W h => by
                have hrW : Below wr.heap.size wr W := hbc9.trans (h.mono hbc9.size)
                have hin : InsAt W A2 L := HP.out.2.2.2.1.below (HM8.out.2.2.2.2.2.trans ((below_shift hbz HGo.out.1 (Nat.le_refl _)).trans (hrW.mono (below_shift hbz HGo.out.1 (Nat.le_refl _)).size) |>.mono HM8.out.2.2.2.2.2.size))
                have h9 := pvRun A2 L ll c2 HP.out.2.1 (by omega) W hin (HG1.out.below (HM8.out.2.2.2.1.trans ((below_shift hbz HGo.out.1 (Nat.le_refl _)).trans (hrW.mono (below_shift hbz HGo.out.1 (Nat.le_refl _)).size) |>.mono HM8.out.2.2.2.1.size))) M Ao M.mem.length co ((machAt_row hrowo hok).below hrW) (by omega) (y : Int) ⟨by omega, by omega⟩
                rw [Int.toNat_natCast, eX] at h9
                exact h9
              have HRun2 := Lib.hid hRun2
              have HVo := Lib.hid (kvo.below hbc9 kvo.lt)
              have d0 : ∀ W, Below wa.heap.size wa W → W.cell? ⟨bc, oc + i, none⟩ = some (.int .u8 (xb : Int)) := fun W h => d0 W (hbc9.trans (h.mono hbc9.size))
              clear hRun2 kx kf hrow hnx hbc9 HRun HVa kvo kva
              go_wp2_with fail
              go_cut [22, 23, 24] from 119 to 131 (fun x f k wy => ∃ (gy ge : Nat) (Ay : Option Addr) (cy : Nat), x = .pointer (some ⟨gy, 0, none⟩) ∧ f = .pointer (some ⟨ge, 0, none⟩) ∧ k = .int .i64 (cn : Int) ∧ wa.heap.size ≤ gy ∧ wa.heap.size ≤ ge ∧ Blk wy gy 27 (mcells X Ay X.mem.length cy).toArray ∧ Blk wy ge 38 #[.int .i64 kd, .int .i64 nm] ∧ wy.ownsRow wa.heap.size 2 1 (.slice Ay X.mem.length cy) X.mem.length (zv X.mem) ∧ (Value.slice Ay X.mem.length cy).ownBlock ≠ some gy ∧ Below wa.heap.size wa wy)
              case first =>
                rename_i J9 K9 hJ9 hK9
                have hb0 : Below wa.heap.size wa wa.drew := (Below.refl _ _).drew
                refine wp_region_held_drew (S := fun w' => Below wa.heap.size wa w') (by kernel_rfl) hb0 (fun hHeld => ?_)
                obtain ⟨W0, eW0⟩ : ∃ W, wa.drew = W := ⟨_, rfl⟩
                rw [eW0] at hb0 ⊢
                clear eW0
                refine wpAnyH_take (i := 0) (v := ?_) (List.getElem?_toArray.trans (List.getElem?_cons_zero)) (by kernel_rfl) (by kernel_rfl) (by kernel_rfl) (fun _ _ _ h => h) (Or.inl ⟨by rfl, ?_⟩) (by assumption) ?_
                rotate_left
                · intro w' hSw; (try dsimp only at hSw); go_simp; try with_reducible rfl
                try simp only [Act.put, List.setIfInBounds_toArray, List.set_cons_zero, List.set_cons_succ]
                refine wpAnyH_take (i := 1) (v := .agg (mcells M Ao M.mem.length co).toArray) (List.getElem?_toArray.trans (List.getElem?_cons_succ.trans (List.getElem?_cons_zero))) (by kernel_rfl) (by kernel_rfl) (by kernel_rfl) (fun _ _ _ h => h) (Or.inl ⟨by rfl, ?_⟩) (by assumption) ?_
                · intro w' hSw; exact load_row_yields 27 (.tmp 17) rfl go 0 rfl (mcells M Ao M.mem.length co).toArray _ (Blk.cells (HVo.out.below hSw HVo.out.lt)) Tryd.underlying27 rfl mach_size
                try simp only [Act.put, List.setIfInBounds_toArray, List.set_cons_zero, List.set_cons_succ]
                refine wpAnyH_take (i := 2) (v := ?_) (List.getElem?_toArray.trans (List.getElem?_cons_succ.trans (List.getElem?_cons_succ.trans (List.getElem?_cons_zero)))) (by kernel_rfl) (by kernel_rfl) (by kernel_rfl) (fun _ _ _ h => h) (Or.inl ⟨by rfl, ?_⟩) (by assumption) ?_
                rotate_left
                · intro w' hSw; (try dsimp only at hSw); go_simp; try with_reducible rfl
                try simp only [Act.put, List.setIfInBounds_toArray, List.set_cons_zero, List.set_cons_succ]
                refine wpAnyH_take (i := 3) (v := ?_) (List.getElem?_toArray.trans (List.getElem?_cons_succ.trans (List.getElem?_cons_succ.trans (List.getElem?_cons_succ.trans (List.getElem?_cons_zero))))) (by kernel_rfl) (by kernel_rfl) (by kernel_rfl) (fun _ _ _ h => h) (Or.inl ⟨by rfl, ?_⟩) (by assumption) ?_
                rotate_left
                · intro w' hSw; (try dsimp only at hSw); go_simp; try with_reducible rfl
                try simp only [Act.put, List.setIfInBounds_toArray, List.set_cons_zero, List.set_cons_succ]
                refine wpAnyH_take (i := 4) (v := ?_) (List.getElem?_toArray.trans (List.getElem?_cons_succ.trans (List.getElem?_cons_succ.trans (List.getElem?_cons_succ.trans (List.getElem?_cons_succ.trans (List.getElem?_cons_zero)))))) (by kernel_rfl) (by kernel_rfl) (by kernel_rfl) (fun _ _ _ h => h) (Or.inl ⟨by rfl, ?_⟩) (by assumption) ?_
                rotate_left
                · intro w' hSw; (try dsimp only at hSw); go_simp; try with_reducible rfl
                try simp only [Act.put, List.setIfInBounds_toArray, List.set_cons_zero, List.set_cons_succ]
                refine wpAnyH_take (i := 5) (v := ?_) (List.getElem?_toArray.trans (List.getElem?_cons_succ.trans (List.getElem?_cons_succ.trans (List.getElem?_cons_succ.trans (List.getElem?_cons_succ.trans (List.getElem?_cons_succ.trans (List.getElem?_cons_zero))))))) (by kernel_rfl) (by kernel_rfl) (by kernel_rfl) (fun _ _ _ h => h) (Or.inl ⟨by rfl, ?_⟩) (by assumption) ?_
                rotate_left
                · intro w' hSw; (try dsimp only at hSw); go_simp; try with_reducible rfl
                try simp only [Act.put, List.setIfInBounds_toArray, List.set_cons_zero, List.set_cons_succ]
                refine wpAnyH_take (i := 6) (v := ?_) (List.getElem?_toArray.trans (List.getElem?_cons_succ.trans (List.getElem?_cons_succ.trans (List.getElem?_cons_succ.trans (List.getElem?_cons_succ.trans (List.getElem?_cons_succ.trans (List.getElem?_cons_succ.trans (List.getElem?_cons_zero)))))))) (by kernel_rfl) (by kernel_rfl) (by kernel_rfl) (fun _ _ _ h => h) (Or.inl ⟨by rfl, ?_⟩) (by assumption) ?_
                rotate_left
                · intro w' hSw; (try dsimp only at hSw); go_simp; try with_reducible rfl
                try simp only [Act.put, List.setIfInBounds_toArray, List.set_cons_zero, List.set_cons_succ]
                refine wpAnyH_take (i := 7) (v := ?_) (List.getElem?_toArray.trans (List.getElem?_cons_succ.trans (List.getElem?_cons_succ.trans (List.getElem?_cons_succ.trans (List.getElem?_cons_succ.trans (List.getElem?_cons_succ.trans (List.getElem?_cons_succ.trans (List.getElem?_cons_succ.trans (List.getElem?_cons_zero))))))))) (by kernel_rfl) (by kernel_rfl) (by kernel_rfl) (fun _ _ _ h => h) (Or.inl ⟨by rfl, ?_⟩) (by assumption) ?_
                rotate_left
                · intro w' hSw; (try dsimp only at hSw); go_simp; try with_reducible rfl
                try simp only [Act.put, List.setIfInBounds_toArray, List.set_cons_zero, List.set_cons_succ]
                refine wpAnyH_ready (rs := [8, 13, 14]) (by kernel_rfl) (by simp) ?_
                refine AllReadyH.cons (List.getElem?_toArray.trans (List.getElem?_cons_succ.trans (List.getElem?_cons_succ.trans (List.getElem?_cons_succ.trans (List.getElem?_cons_succ.trans (List.getElem?_cons_succ.trans (List.getElem?_cons_succ.trans (List.getElem?_cons_succ.trans (List.getElem?_cons_succ.trans (List.getElem?_cons_zero)))))))))) (fun K hK => ?_) ?_
                · skip
                  go_simp
                  go_at_call 20
                  try rw [hyw]
                  refine (HRun2.out _ hb0).mono ?_
                  rintro e W1 ⟨Ar, cr, rfl, _, hrow, hbc⟩
                  dsimp only at hrow ⊢
                  have hb1 : Below wa.heap.size wa W1 := hb0.trans (hbc.mono hb0.size)
                  have hrow : W1.ownsRow wa.heap.size 2 1 (.slice Ar X.mem.length cr) X.mem.length (zv X.mem) := row_base hrow hb0.size
                  clear hbc
                  refine hK.out _ _ hb1 (fun _ => ?_)
                  clear hK K
                  try simp only [Act.put, List.setIfInBounds_toArray, List.set_cons_zero, List.set_cons_succ]
                  refine wpAnyH_take (i := 9) (v := ?_) (List.getElem?_toArray.trans (List.getElem?_cons_succ.trans (List.getElem?_cons_succ.trans (List.getElem?_cons_succ.trans (List.getElem?_cons_succ.trans (List.getElem?_cons_succ.trans (List.getElem?_cons_succ.trans (List.getElem?_cons_succ.trans (List.getElem?_cons_succ.trans (List.getElem?_cons_succ.trans (List.getElem?_cons_zero))))))))))) (by kernel_rfl) (by kernel_rfl) (by kernel_rfl) (fun _ _ _ h => h) (Or.inl ⟨by rfl, ?_⟩) (by assumption) ?_
                  rotate_left
                  · intro w' hSw; (try dsimp only at hSw); go_simp; try with_reducible rfl
                  try simp only [Act.put, List.setIfInBounds_toArray, List.set_cons_zero, List.set_cons_succ]
                  refine wpAnyH_take (i := 10) (v := ?_) (List.getElem?_toArray.trans (List.getElem?_cons_succ.trans (List.getElem?_cons_succ.trans (List.getElem?_cons_succ.trans (List.getElem?_cons_succ.trans (List.getElem?_cons_succ.trans (List.getElem?_cons_succ.trans (List.getElem?_cons_succ.trans (List.getElem?_cons_succ.trans (List.getElem?_cons_succ.trans (List.getElem?_cons_succ.trans (List.getElem?_cons_zero)))))))))))) (by kernel_rfl) (by kernel_rfl) (by kernel_rfl) (fun _ _ _ h => h) (Or.inl ⟨by rfl, ?_⟩) (by assumption) ?_
                  rotate_left
                  · intro w' hSw; (try dsimp only at hSw); go_simp; try with_reducible rfl
                  try simp only [Act.put, List.setIfInBounds_toArray, List.set_cons_zero, List.set_cons_succ]
                  refine wpAnyH_take (i := 11) (v := ?_) (List.getElem?_toArray.trans (List.getElem?_cons_succ.trans (List.getElem?_cons_succ.trans (List.getElem?_cons_succ.trans (List.getElem?_cons_succ.trans (List.getElem?_cons_succ.trans (List.getElem?_cons_succ.trans (List.getElem?_cons_succ.trans (List.getElem?_cons_succ.trans (List.getElem?_cons_succ.trans (List.getElem?_cons_succ.trans (List.getElem?_cons_succ.trans (List.getElem?_cons_zero))))))))))))) (by kernel_rfl) (by kernel_rfl) (by kernel_rfl) (fun _ _ _ h => h) (Or.inl ⟨by rfl, ?_⟩) (by assumption) ?_
                  rotate_left
                  · intro w' hSw; (try dsimp only at hSw); go_simp; try with_reducible rfl
                  try simp only [Act.put, List.setIfInBounds_toArray, List.set_cons_zero, List.set_cons_succ]
                  refine wpAnyH_take (i := 12) (v := ?_) (List.getElem?_toArray.trans (List.getElem?_cons_succ.trans (List.getElem?_cons_succ.trans (List.getElem?_cons_succ.trans (List.getElem?_cons_succ.trans (List.getElem?_cons_succ.trans (List.getElem?_cons_succ.trans (List.getElem?_cons_succ.trans (List.getElem?_cons_succ.trans (List.getElem?_cons_succ.trans (List.getElem?_cons_succ.trans (List.getElem?_cons_succ.trans (List.getElem?_cons_succ.trans (List.getElem?_cons_zero)))))))))))))) (by kernel_rfl) (by kernel_rfl) (by kernel_rfl) (fun _ _ _ h => h) (Or.inl ⟨by rfl, ?_⟩) (by assumption) ?_
                  rotate_left
                  · intro w' hSw; (try dsimp only at hSw); go_simp; try with_reducible rfl
                  try simp only [Act.put, List.setIfInBounds_toArray, List.set_cons_zero, List.set_cons_succ]
                  refine wpAnyH_ready (rs := [13, 14]) (by kernel_rfl) (by simp) ?_
                  refine AllReadyH.cons (List.getElem?_toArray.trans (List.getElem?_cons_succ.trans (List.getElem?_cons_succ.trans (List.getElem?_cons_succ.trans (List.getElem?_cons_succ.trans (List.getElem?_cons_succ.trans (List.getElem?_cons_succ.trans (List.getElem?_cons_succ.trans (List.getElem?_cons_succ.trans (List.getElem?_cons_succ.trans (List.getElem?_cons_succ.trans (List.getElem?_cons_succ.trans (List.getElem?_cons_succ.trans (List.getElem?_cons_succ.trans (List.getElem?_cons_zero))))))))))))))) (fun K hK => ?_) ?_
                  · skip
                    go_simp
                    have kx := Blk.new W1 27 #[.int .i64 0, .int .i64 0, .int .i64 0, .int .i64 0, .int .i64 0, .int .i64 0, .int .i64 0, .int .i64 0, .int .i64 0, .slice none 0 0, .int .i64 0, .int .i64 0]
                    have hb2 : Below wa.heap.size wa (W1.alloc (.cells #[.int .i64 0, .int .i64 0, .int .i64 0, .int .i64 0, .int .i64 0, .int .i64 0, .int .i64 0, .int .i64 0, .int .i64 0, .slice none 0 0, .int .i64 0, .int .i64 0] 27)) := hb1.alloc hb1.size _
                    have hggy : wa.heap.size ≤ W1.heap.size := hb1.size
                    have hnx : (Value.slice Ar X.mem.length cr).ownBlock ≠ some W1.heap.size := fun e => Nat.lt_irrefl _ (World.ownsRow.lt hrow _ e).2
                    have hrow := row_alloc hrow (.cells #[.int .i64 0, .int .i64 0, .int .i64 0, .int .i64 0, .int .i64 0, .int .i64 0, .int .i64 0, .int .i64 0, .int .i64 0, .slice none 0 0, .int .i64 0, .int .i64 0] 27)
                    obtain ⟨W2, eW⟩ : ∃ W, W1.alloc (.cells #[.int .i64 0, .int .i64 0, .int .i64 0, .int .i64 0, .int .i64 0, .int .i64 0, .int .i64 0, .int .i64 0, .int .i64 0, .slice none 0 0, .int .i64 0, .int .i64 0] 27) = W := ⟨_, rfl⟩
                    rw [eW] at kx hb2 hrow ⊢
                    obtain ⟨gy, eg⟩ : ∃ x, W1.heap.size = x := ⟨_, rfl⟩
                    rw [eg] at kx hggy hnx ⊢
                    clear eW eg
                    refine hK.out _ _ hb2 (fun _ => ?_)
                    clear hK K
                    try simp only [Act.put, List.setIfInBounds_toArray, List.set_cons_zero, List.set_cons_succ]
                    refine wpAnyH_ready (rs := [14]) (by kernel_rfl) (by simp) ?_
                    refine AllReadyH.cons (List.getElem?_toArray.trans (List.getElem?_cons_succ.trans (List.getElem?_cons_succ.trans (List.getElem?_cons_succ.trans (List.getElem?_cons_succ.trans (List.getElem?_cons_succ.trans (List.getElem?_cons_succ.trans (List.getElem?_cons_succ.trans (List.getElem?_cons_succ.trans (List.getElem?_cons_succ.trans (List.getElem?_cons_succ.trans (List.getElem?_cons_succ.trans (List.getElem?_cons_succ.trans (List.getElem?_cons_succ.trans (List.getElem?_cons_succ.trans (List.getElem?_cons_zero)))))))))))))))) (fun K hK => ?_) AllReadyH.nil
                    go_simp
                    have kf := Blk.new W2 38 #[.int .i64 0, .int .i64 0]
                    have hb3 : Below wa.heap.size wa (W2.alloc (.cells #[.int .i64 0, .int .i64 0] 38)) := hb2.alloc hb2.size _
                    have hgge : wa.heap.size ≤ W2.heap.size := hb2.size
                    have hnf : (Value.slice Ar X.mem.length cr).ownBlock ≠ some W2.heap.size := fun e => Nat.lt_irrefl _ (World.ownsRow.lt hrow _ e).2
                    have hrow := row_alloc hrow (.cells #[.int .i64 0, .int .i64 0] 38)
                    have hxf : gy ≠ W2.heap.size := Nat.ne_of_lt kx.lt
                    have kx := kx.alloc (.cells #[.int .i64 0, .int .i64 0] 38)
                    obtain ⟨W3, eW⟩ : ∃ W, W2.alloc (.cells #[.int .i64 0, .int .i64 0] 38) = W := ⟨_, rfl⟩
                    rw [eW] at kf hb3 hrow kx ⊢
                    obtain ⟨ge, eg⟩ : ∃ x, W2.heap.size = x := ⟨_, rfl⟩
                    rw [eg] at kf hgge hnf hxf ⊢
                    clear eW eg
                    refine hK.out _ _ hb3 (fun _ => ?_)
                    clear hK K
                    try simp only [Act.put, List.setIfInBounds_toArray, List.set_cons_zero, List.set_cons_succ]
                    refine wpAnyH_ready (rs := [15]) (by kernel_rfl) (by simp) ?_
                    refine AllReadyH.cons (List.getElem?_toArray.trans (List.getElem?_cons_succ.trans (List.getElem?_cons_succ.trans (List.getElem?_cons_succ.trans (List.getElem?_cons_succ.trans (List.getElem?_cons_succ.trans (List.getElem?_cons_succ.trans (List.getElem?_cons_succ.trans (List.getElem?_cons_succ.trans (List.getElem?_cons_succ.trans (List.getElem?_cons_succ.trans (List.getElem?_cons_succ.trans (List.getElem?_cons_succ.trans (List.getElem?_cons_succ.trans (List.getElem?_cons_succ.trans (List.getElem?_cons_succ.trans (List.getElem?_cons_zero))))))))))))))))) (fun K hK => ?_) AllReadyH.nil
                    refine wp_store_one 27 (.tmp 22) (.tmp 129) rfl gy (mcells X Ar X.mem.length cr) rfl rfl 27 _ kx mach_size rfl (mcells_one _ _ _ _) ?_
                    intro V1 kx hgn
                    have kf := kf.grown hgn (some_neq (Ne.symm hxf))
                    have hrow := row_not hrow hgn hnx
                    have hv1 : Below wa.heap.size wa V1 := hb3.grown hgn hb3.size (fun g e => by cases e; exact hggy)
                    refine hK.out _ _ hv1 (fun _ => ?_)
                    clear hK K
                    try simp only [Act.put, List.setIfInBounds_toArray, List.set_cons_zero, List.set_cons_succ]
                    refine wpAnyH_ready (rs := [16]) (by kernel_rfl) (by simp) ?_
                    refine AllReadyH.cons (List.getElem?_toArray.trans (List.getElem?_cons_succ.trans (List.getElem?_cons_succ.trans (List.getElem?_cons_succ.trans (List.getElem?_cons_succ.trans (List.getElem?_cons_succ.trans (List.getElem?_cons_succ.trans (List.getElem?_cons_succ.trans (List.getElem?_cons_succ.trans (List.getElem?_cons_succ.trans (List.getElem?_cons_succ.trans (List.getElem?_cons_succ.trans (List.getElem?_cons_succ.trans (List.getElem?_cons_succ.trans (List.getElem?_cons_succ.trans (List.getElem?_cons_succ.trans (List.getElem?_cons_succ.trans (List.getElem?_cons_zero)))))))))))))))))) (fun K hK => ?_) AllReadyH.nil
                    refine wp_store_one 38 (.tmp 23) (.tmp 130) rfl ge [.int .i64 kd, .int .i64 nm] rfl rfl 38 _ kf event_size rfl (by intro u hu; simp only [List.mem_cons, List.not_mem_nil, or_false] at hu; rcases hu with rfl | rfl <;> rfl) ?_
                    intro V2 kf hgm
                    have kx := kx.grown hgm (some_neq hxf)
                    have hrow := row_not hrow hgm hnf
                    have hv2 : Below wa.heap.size wa V2 := hv1.grown hgm hv1.size (fun g e => by cases e; exact hgge)
                    refine hK.out _ _ hv2 (fun _ => ?_)
                    clear hK K
                    try simp only [Act.put, List.setIfInBounds_toArray, List.set_cons_zero, List.set_cons_succ]
                    refine wpAnyH_take (i := 17) (v := ?_) (List.getElem?_toArray.trans (List.getElem?_cons_succ.trans (List.getElem?_cons_succ.trans (List.getElem?_cons_succ.trans (List.getElem?_cons_succ.trans (List.getElem?_cons_succ.trans (List.getElem?_cons_succ.trans (List.getElem?_cons_succ.trans (List.getElem?_cons_succ.trans (List.getElem?_cons_succ.trans (List.getElem?_cons_succ.trans (List.getElem?_cons_succ.trans (List.getElem?_cons_succ.trans (List.getElem?_cons_succ.trans (List.getElem?_cons_succ.trans (List.getElem?_cons_succ.trans (List.getElem?_cons_succ.trans (List.getElem?_cons_succ.trans (List.getElem?_cons_zero))))))))))))))))))) (by kernel_rfl) (by kernel_rfl) (by kernel_rfl) (fun _ _ _ h => h) (Or.inl ⟨by rfl, ?_⟩) (by assumption) ?_
                    rotate_left
                    · intro w' hSw; (try dsimp only at hSw); go_simp; try with_reducible rfl
                    try simp only [Act.put, List.setIfInBounds_toArray, List.set_cons_zero, List.set_cons_succ]
                    refine wpAnyH_done (by kernel_rfl) ?_ _
                    refine hK9 _ _ (Met.intro (hJ9 _ _ ?_))
                    (repeat apply Exists.intro)
                    refine ⟨?rel, rfl⟩
                    case rel => exact ⟨gy, ge, Ar, cr, rfl, rfl, rfl, hggy, hgge, kx, kf, hrow, hnx, hv2⟩
                  refine AllReadyH.cons (List.getElem?_toArray.trans (List.getElem?_cons_succ.trans (List.getElem?_cons_succ.trans (List.getElem?_cons_succ.trans (List.getElem?_cons_succ.trans (List.getElem?_cons_succ.trans (List.getElem?_cons_succ.trans (List.getElem?_cons_succ.trans (List.getElem?_cons_succ.trans (List.getElem?_cons_succ.trans (List.getElem?_cons_succ.trans (List.getElem?_cons_succ.trans (List.getElem?_cons_succ.trans (List.getElem?_cons_succ.trans (List.getElem?_cons_succ.trans (List.getElem?_cons_zero)))))))))))))))) (fun K hK => ?_) AllReadyH.nil
                  go_simp
                  have kf := Blk.new W1 38 #[.int .i64 0, .int .i64 0]
                  have hb2 : Below wa.heap.size wa (W1.alloc (.cells #[.int .i64 0, .int .i64 0] 38)) := hb1.alloc hb1.size _
                  have hgge : wa.heap.size ≤ W1.heap.size := hb1.size
                  have hnf : (Value.slice Ar X.mem.length cr).ownBlock ≠ some W1.heap.size := fun e => Nat.lt_irrefl _ (World.ownsRow.lt hrow _ e).2
                  have hrow := row_alloc hrow (.cells #[.int .i64 0, .int .i64 0] 38)
                  obtain ⟨W2, eW⟩ : ∃ W, W1.alloc (.cells #[.int .i64 0, .int .i64 0] 38) = W := ⟨_, rfl⟩
                  rw [eW] at kf hb2 hrow ⊢
                  obtain ⟨ge, eg⟩ : ∃ x, W1.heap.size = x := ⟨_, rfl⟩
                  rw [eg] at kf hgge hnf ⊢
                  clear eW eg
                  refine hK.out _ _ hb2 (fun _ => ?_)
                  clear hK K
                  try simp only [Act.put, List.setIfInBounds_toArray, List.set_cons_zero, List.set_cons_succ]
                  refine wpAnyH_ready (rs := [13]) (by kernel_rfl) (by simp) ?_
                  refine AllReadyH.cons (List.getElem?_toArray.trans (List.getElem?_cons_succ.trans (List.getElem?_cons_succ.trans (List.getElem?_cons_succ.trans (List.getElem?_cons_succ.trans (List.getElem?_cons_succ.trans (List.getElem?_cons_succ.trans (List.getElem?_cons_succ.trans (List.getElem?_cons_succ.trans (List.getElem?_cons_succ.trans (List.getElem?_cons_succ.trans (List.getElem?_cons_succ.trans (List.getElem?_cons_succ.trans (List.getElem?_cons_succ.trans (List.getElem?_cons_zero))))))))))))))) (fun K hK => ?_) AllReadyH.nil
                  go_simp
                  have kx := Blk.new W2 27 #[.int .i64 0, .int .i64 0, .int .i64 0, .int .i64 0, .int .i64 0, .int .i64 0, .int .i64 0, .int .i64 0, .int .i64 0, .slice none 0 0, .int .i64 0, .int .i64 0]
                  have hb3 : Below wa.heap.size wa (W2.alloc (.cells #[.int .i64 0, .int .i64 0, .int .i64 0, .int .i64 0, .int .i64 0, .int .i64 0, .int .i64 0, .int .i64 0, .int .i64 0, .slice none 0 0, .int .i64 0, .int .i64 0] 27)) := hb2.alloc hb2.size _
                  have hggy : wa.heap.size ≤ W2.heap.size := hb2.size
                  have hnx : (Value.slice Ar X.mem.length cr).ownBlock ≠ some W2.heap.size := fun e => Nat.lt_irrefl _ (World.ownsRow.lt hrow _ e).2
                  have hrow := row_alloc hrow (.cells #[.int .i64 0, .int .i64 0, .int .i64 0, .int .i64 0, .int .i64 0, .int .i64 0, .int .i64 0, .int .i64 0, .int .i64 0, .slice none 0 0, .int .i64 0, .int .i64 0] 27)
                  have hxf : ge ≠ W2.heap.size := Nat.ne_of_lt kf.lt
                  have kf := kf.alloc (.cells #[.int .i64 0, .int .i64 0, .int .i64 0, .int .i64 0, .int .i64 0, .int .i64 0, .int .i64 0, .int .i64 0, .int .i64 0, .slice none 0 0, .int .i64 0, .int .i64 0] 27)
                  obtain ⟨W3, eW⟩ : ∃ W, W2.alloc (.cells #[.int .i64 0, .int .i64 0, .int .i64 0, .int .i64 0, .int .i64 0, .int .i64 0, .int .i64 0, .int .i64 0, .int .i64 0, .slice none 0 0, .int .i64 0, .int .i64 0] 27) = W := ⟨_, rfl⟩
                  rw [eW] at kx hb3 hrow kf ⊢
                  obtain ⟨gy, eg⟩ : ∃ x, W2.heap.size = x := ⟨_, rfl⟩
                  rw [eg] at kx hggy hnx hxf ⊢
                  clear eW eg
                  refine hK.out _ _ hb3 (fun _ => ?_)
                  clear hK K
                  try simp only [Act.put, List.setIfInBounds_toArray, List.set_cons_zero, List.set_cons_succ]
                  refine wpAnyH_ready (rs := [15]) (by kernel_rfl) (by simp) ?_
                  refine AllReadyH.cons (List.getElem?_toArray.trans (List.getElem?_cons_succ.trans (List.getElem?_cons_succ.trans (List.getElem?_cons_succ.trans (List.getElem?_cons_succ.trans (List.getElem?_cons_succ.trans (List.getElem?_cons_succ.trans (List.getElem?_cons_succ.trans (List.getElem?_cons_succ.trans (List.getElem?_cons_succ.trans (List.getElem?_cons_succ.trans (List.getElem?_cons_succ.trans (List.getElem?_cons_succ.trans (List.getElem?_cons_succ.trans (List.getElem?_cons_succ.trans (List.getElem?_cons_succ.trans (List.getElem?_cons_zero))))))))))))))))) (fun K hK => ?_) AllReadyH.nil
                  refine wp_store_one 27 (.tmp 22) (.tmp 129) rfl gy (mcells X Ar X.mem.length cr) rfl rfl 27 _ kx mach_size rfl (mcells_one _ _ _ _) ?_
                  intro V1 kx hgn
                  have kf := kf.grown hgn (some_neq (Ne.symm (Ne.symm hxf)))
                  have hrow := row_not hrow hgn hnx
                  have hv1 : Below wa.heap.size wa V1 := hb3.grown hgn hb3.size (fun g e => by cases e; exact hggy)
                  refine hK.out _ _ hv1 (fun _ => ?_)
                  clear hK K
                  try simp only [Act.put, List.setIfInBounds_toArray, List.set_cons_zero, List.set_cons_succ]
                  refine wpAnyH_ready (rs := [16]) (by kernel_rfl) (by simp) ?_
                  refine AllReadyH.cons (List.getElem?_toArray.trans (List.getElem?_cons_succ.trans (List.getElem?_cons_succ.trans (List.getElem?_cons_succ.trans (List.getElem?_cons_succ.trans (List.getElem?_cons_succ.trans (List.getElem?_cons_succ.trans (List.getElem?_cons_succ.trans (List.getElem?_cons_succ.trans (List.getElem?_cons_succ.trans (List.getElem?_cons_succ.trans (List.getElem?_cons_succ.trans (List.getElem?_cons_succ.trans (List.getElem?_cons_succ.trans (List.getElem?_cons_succ.trans (List.getElem?_cons_succ.trans (List.getElem?_cons_succ.trans (List.getElem?_cons_zero)))))))))))))))))) (fun K hK => ?_) AllReadyH.nil
                  refine wp_store_one 38 (.tmp 23) (.tmp 130) rfl ge [.int .i64 kd, .int .i64 nm] rfl rfl 38 _ kf event_size rfl (by intro u hu; simp only [List.mem_cons, List.not_mem_nil, or_false] at hu; rcases hu with rfl | rfl <;> rfl) ?_
                  intro V2 kf hgm
                  have kx := kx.grown hgm (some_neq (Ne.symm hxf))
                  have hrow := row_not hrow hgm hnf
                  have hv2 : Below wa.heap.size wa V2 := hv1.grown hgm hv1.size (fun g e => by cases e; exact hgge)
                  refine hK.out _ _ hv2 (fun _ => ?_)
                  clear hK K
                  try simp only [Act.put, List.setIfInBounds_toArray, List.set_cons_zero, List.set_cons_succ]
                  refine wpAnyH_take (i := 17) (v := ?_) (List.getElem?_toArray.trans (List.getElem?_cons_succ.trans (List.getElem?_cons_succ.trans (List.getElem?_cons_succ.trans (List.getElem?_cons_succ.trans (List.getElem?_cons_succ.trans (List.getElem?_cons_succ.trans (List.getElem?_cons_succ.trans (List.getElem?_cons_succ.trans (List.getElem?_cons_succ.trans (List.getElem?_cons_succ.trans (List.getElem?_cons_succ.trans (List.getElem?_cons_succ.trans (List.getElem?_cons_succ.trans (List.getElem?_cons_succ.trans (List.getElem?_cons_succ.trans (List.getElem?_cons_succ.trans (List.getElem?_cons_succ.trans (List.getElem?_cons_zero))))))))))))))))))) (by kernel_rfl) (by kernel_rfl) (by kernel_rfl) (fun _ _ _ h => h) (Or.inl ⟨by rfl, ?_⟩) (by assumption) ?_
                  rotate_left
                  · intro w' hSw; (try dsimp only at hSw); go_simp; try with_reducible rfl
                  try simp only [Act.put, List.setIfInBounds_toArray, List.set_cons_zero, List.set_cons_succ]
                  refine wpAnyH_done (by kernel_rfl) ?_ _
                  refine hK9 _ _ (Met.intro (hJ9 _ _ ?_))
                  (repeat apply Exists.intro)
                  refine ⟨?rel, rfl⟩
                  case rel => exact ⟨gy, ge, Ar, cr, rfl, rfl, rfl, hggy, hgge, kx, kf, hrow, hnx, hv2⟩
                refine AllReadyH.cons (List.getElem?_toArray.trans (List.getElem?_cons_succ.trans (List.getElem?_cons_succ.trans (List.getElem?_cons_succ.trans (List.getElem?_cons_succ.trans (List.getElem?_cons_succ.trans (List.getElem?_cons_succ.trans (List.getElem?_cons_succ.trans (List.getElem?_cons_succ.trans (List.getElem?_cons_succ.trans (List.getElem?_cons_succ.trans (List.getElem?_cons_succ.trans (List.getElem?_cons_succ.trans (List.getElem?_cons_succ.trans (List.getElem?_cons_zero))))))))))))))) (fun K hK => ?_) ?_
                · skip
                  go_simp
                  have kx := Blk.new W0 27 #[.int .i64 0, .int .i64 0, .int .i64 0, .int .i64 0, .int .i64 0, .int .i64 0, .int .i64 0, .int .i64 0, .int .i64 0, .slice none 0 0, .int .i64 0, .int .i64 0]
                  have hb1 : Below wa.heap.size wa (W0.alloc (.cells #[.int .i64 0, .int .i64 0, .int .i64 0, .int .i64 0, .int .i64 0, .int .i64 0, .int .i64 0, .int .i64 0, .int .i64 0, .slice none 0 0, .int .i64 0, .int .i64 0] 27)) := hb0.alloc hb0.size _
                  have hggy : wa.heap.size ≤ W0.heap.size := hb0.size
                  obtain ⟨W1, eW⟩ : ∃ W, W0.alloc (.cells #[.int .i64 0, .int .i64 0, .int .i64 0, .int .i64 0, .int .i64 0, .int .i64 0, .int .i64 0, .int .i64 0, .int .i64 0, .slice none 0 0, .int .i64 0, .int .i64 0] 27) = W := ⟨_, rfl⟩
                  rw [eW] at kx hb1 ⊢
                  obtain ⟨gy, eg⟩ : ∃ x, W0.heap.size = x := ⟨_, rfl⟩
                  rw [eg] at kx hggy ⊢
                  clear eW eg
                  refine hK.out _ _ hb1 (fun _ => ?_)
                  clear hK K
                  try simp only [Act.put, List.setIfInBounds_toArray, List.set_cons_zero, List.set_cons_succ]
                  refine wpAnyH_ready (rs := [8, 14]) (by kernel_rfl) (by simp) ?_
                  refine AllReadyH.cons (List.getElem?_toArray.trans (List.getElem?_cons_succ.trans (List.getElem?_cons_succ.trans (List.getElem?_cons_succ.trans (List.getElem?_cons_succ.trans (List.getElem?_cons_succ.trans (List.getElem?_cons_succ.trans (List.getElem?_cons_succ.trans (List.getElem?_cons_succ.trans (List.getElem?_cons_zero)))))))))) (fun K hK => ?_) ?_
                  · skip
                    go_simp
                    go_at_call 20
                    try rw [hyw]
                    refine (HRun2.out _ hb1).mono ?_
                    rintro e W2 ⟨Ar, cr, rfl, _, hrow, hbc⟩
                    dsimp only at hrow ⊢
                    have hb2 : Below wa.heap.size wa W2 := hb1.trans (hbc.mono hb1.size)
                    have hnx : (Value.slice Ar X.mem.length cr).ownBlock ≠ some gy := fun e => by have h1 := (World.ownsRow.lt hrow _ e).1; have h2 := kx.lt; omega
                    have kx := kx.below hbc kx.lt
                    have hrow : W2.ownsRow wa.heap.size 2 1 (.slice Ar X.mem.length cr) X.mem.length (zv X.mem) := row_base hrow hb1.size
                    clear hbc
                    refine hK.out _ _ hb2 (fun _ => ?_)
                    clear hK K
                    try simp only [Act.put, List.setIfInBounds_toArray, List.set_cons_zero, List.set_cons_succ]
                    refine wpAnyH_take (i := 9) (v := ?_) (List.getElem?_toArray.trans (List.getElem?_cons_succ.trans (List.getElem?_cons_succ.trans (List.getElem?_cons_succ.trans (List.getElem?_cons_succ.trans (List.getElem?_cons_succ.trans (List.getElem?_cons_succ.trans (List.getElem?_cons_succ.trans (List.getElem?_cons_succ.trans (List.getElem?_cons_succ.trans (List.getElem?_cons_zero))))))))))) (by kernel_rfl) (by kernel_rfl) (by kernel_rfl) (fun _ _ _ h => h) (Or.inl ⟨by rfl, ?_⟩) (by assumption) ?_
                    rotate_left
                    · intro w' hSw; (try dsimp only at hSw); go_simp; try with_reducible rfl
                    try simp only [Act.put, List.setIfInBounds_toArray, List.set_cons_zero, List.set_cons_succ]
                    refine wpAnyH_take (i := 10) (v := ?_) (List.getElem?_toArray.trans (List.getElem?_cons_succ.trans (List.getElem?_cons_succ.trans (List.getElem?_cons_succ.trans (List.getElem?_cons_succ.trans (List.getElem?_cons_succ.trans (List.getElem?_cons_succ.trans (List.getElem?_cons_succ.trans (List.getElem?_cons_succ.trans (List.getElem?_cons_succ.trans (List.getElem?_cons_succ.trans (List.getElem?_cons_zero)))))))))))) (by kernel_rfl) (by kernel_rfl) (by kernel_rfl) (fun _ _ _ h => h) (Or.inl ⟨by rfl, ?_⟩) (by assumption) ?_
                    rotate_left
                    · intro w' hSw; (try dsimp only at hSw); go_simp; try with_reducible rfl
                    try simp only [Act.put, List.setIfInBounds_toArray, List.set_cons_zero, List.set_cons_succ]
                    refine wpAnyH_take (i := 11) (v := ?_) (List.getElem?_toArray.trans (List.getElem?_cons_succ.trans (List.getElem?_cons_succ.trans (List.getElem?_cons_succ.trans (List.getElem?_cons_succ.trans (List.getElem?_cons_succ.trans (List.getElem?_cons_succ.trans (List.getElem?_cons_succ.trans (List.getElem?_cons_succ.trans (List.getElem?_cons_succ.trans (List.getElem?_cons_succ.trans (List.getElem?_cons_succ.trans (List.getElem?_cons_zero))))))))))))) (by kernel_rfl) (by kernel_rfl) (by kernel_rfl) (fun _ _ _ h => h) (Or.inl ⟨by rfl, ?_⟩) (by assumption) ?_
                    rotate_left
                    · intro w' hSw; (try dsimp only at hSw); go_simp; try with_reducible rfl
                    try simp only [Act.put, List.setIfInBounds_toArray, List.set_cons_zero, List.set_cons_succ]
                    refine wpAnyH_take (i := 12) (v := ?_) (List.getElem?_toArray.trans (List.getElem?_cons_succ.trans (List.getElem?_cons_succ.trans (List.getElem?_cons_succ.trans (List.getElem?_cons_succ.trans (List.getElem?_cons_succ.trans (List.getElem?_cons_succ.trans (List.getElem?_cons_succ.trans (List.getElem?_cons_succ.trans (List.getElem?_cons_succ.trans (List.getElem?_cons_succ.trans (List.getElem?_cons_succ.trans (List.getElem?_cons_succ.trans (List.getElem?_cons_zero)))))))))))))) (by kernel_rfl) (by kernel_rfl) (by kernel_rfl) (fun _ _ _ h => h) (Or.inl ⟨by rfl, ?_⟩) (by assumption) ?_
                    rotate_left
                    · intro w' hSw; (try dsimp only at hSw); go_simp; try with_reducible rfl
                    try simp only [Act.put, List.setIfInBounds_toArray, List.set_cons_zero, List.set_cons_succ]
                    refine wpAnyH_ready (rs := [14]) (by kernel_rfl) (by simp) ?_
                    refine AllReadyH.cons (List.getElem?_toArray.trans (List.getElem?_cons_succ.trans (List.getElem?_cons_succ.trans (List.getElem?_cons_succ.trans (List.getElem?_cons_succ.trans (List.getElem?_cons_succ.trans (List.getElem?_cons_succ.trans (List.getElem?_cons_succ.trans (List.getElem?_cons_succ.trans (List.getElem?_cons_succ.trans (List.getElem?_cons_succ.trans (List.getElem?_cons_succ.trans (List.getElem?_cons_succ.trans (List.getElem?_cons_succ.trans (List.getElem?_cons_succ.trans (List.getElem?_cons_zero)))))))))))))))) (fun K hK => ?_) AllReadyH.nil
                    go_simp
                    have kf := Blk.new W2 38 #[.int .i64 0, .int .i64 0]
                    have hb3 : Below wa.heap.size wa (W2.alloc (.cells #[.int .i64 0, .int .i64 0] 38)) := hb2.alloc hb2.size _
                    have hgge : wa.heap.size ≤ W2.heap.size := hb2.size
                    have hnf : (Value.slice Ar X.mem.length cr).ownBlock ≠ some W2.heap.size := fun e => Nat.lt_irrefl _ (World.ownsRow.lt hrow _ e).2
                    have hrow := row_alloc hrow (.cells #[.int .i64 0, .int .i64 0] 38)
                    have hxf : gy ≠ W2.heap.size := Nat.ne_of_lt kx.lt
                    have kx := kx.alloc (.cells #[.int .i64 0, .int .i64 0] 38)
                    obtain ⟨W3, eW⟩ : ∃ W, W2.alloc (.cells #[.int .i64 0, .int .i64 0] 38) = W := ⟨_, rfl⟩
                    rw [eW] at kf hb3 hrow kx ⊢
                    obtain ⟨ge, eg⟩ : ∃ x, W2.heap.size = x := ⟨_, rfl⟩
                    rw [eg] at kf hgge hnf hxf ⊢
                    clear eW eg
                    refine hK.out _ _ hb3 (fun _ => ?_)
                    clear hK K
                    try simp only [Act.put, List.setIfInBounds_toArray, List.set_cons_zero, List.set_cons_succ]
                    refine wpAnyH_ready (rs := [15]) (by kernel_rfl) (by simp) ?_
                    refine AllReadyH.cons (List.getElem?_toArray.trans (List.getElem?_cons_succ.trans (List.getElem?_cons_succ.trans (List.getElem?_cons_succ.trans (List.getElem?_cons_succ.trans (List.getElem?_cons_succ.trans (List.getElem?_cons_succ.trans (List.getElem?_cons_succ.trans (List.getElem?_cons_succ.trans (List.getElem?_cons_succ.trans (List.getElem?_cons_succ.trans (List.getElem?_cons_succ.trans (List.getElem?_cons_succ.trans (List.getElem?_cons_succ.trans (List.getElem?_cons_succ.trans (List.getElem?_cons_succ.trans (List.getElem?_cons_zero))))))))))))))))) (fun K hK => ?_) AllReadyH.nil
                    refine wp_store_one 27 (.tmp 22) (.tmp 129) rfl gy (mcells X Ar X.mem.length cr) rfl rfl 27 _ kx mach_size rfl (mcells_one _ _ _ _) ?_
                    intro V1 kx hgn
                    have kf := kf.grown hgn (some_neq (Ne.symm hxf))
                    have hrow := row_not hrow hgn hnx
                    have hv1 : Below wa.heap.size wa V1 := hb3.grown hgn hb3.size (fun g e => by cases e; exact hggy)
                    refine hK.out _ _ hv1 (fun _ => ?_)
                    clear hK K
                    try simp only [Act.put, List.setIfInBounds_toArray, List.set_cons_zero, List.set_cons_succ]
                    refine wpAnyH_ready (rs := [16]) (by kernel_rfl) (by simp) ?_
                    refine AllReadyH.cons (List.getElem?_toArray.trans (List.getElem?_cons_succ.trans (List.getElem?_cons_succ.trans (List.getElem?_cons_succ.trans (List.getElem?_cons_succ.trans (List.getElem?_cons_succ.trans (List.getElem?_cons_succ.trans (List.getElem?_cons_succ.trans (List.getElem?_cons_succ.trans (List.getElem?_cons_succ.trans (List.getElem?_cons_succ.trans (List.getElem?_cons_succ.trans (List.getElem?_cons_succ.trans (List.getElem?_cons_succ.trans (List.getElem?_cons_succ.trans (List.getElem?_cons_succ.trans (List.getElem?_cons_succ.trans (List.getElem?_cons_zero)))))))))))))))))) (fun K hK => ?_) AllReadyH.nil
                    refine wp_store_one 38 (.tmp 23) (.tmp 130) rfl ge [.int .i64 kd, .int .i64 nm] rfl rfl 38 _ kf event_size rfl (by intro u hu; simp only [List.mem_cons, List.not_mem_nil, or_false] at hu; rcases hu with rfl | rfl <;> rfl) ?_
                    intro V2 kf hgm
                    have kx := kx.grown hgm (some_neq hxf)
                    have hrow := row_not hrow hgm hnf
                    have hv2 : Below wa.heap.size wa V2 := hv1.grown hgm hv1.size (fun g e => by cases e; exact hgge)
                    refine hK.out _ _ hv2 (fun _ => ?_)
                    clear hK K
                    try simp only [Act.put, List.setIfInBounds_toArray, List.set_cons_zero, List.set_cons_succ]
                    refine wpAnyH_take (i := 17) (v := ?_) (List.getElem?_toArray.trans (List.getElem?_cons_succ.trans (List.getElem?_cons_succ.trans (List.getElem?_cons_succ.trans (List.getElem?_cons_succ.trans (List.getElem?_cons_succ.trans (List.getElem?_cons_succ.trans (List.getElem?_cons_succ.trans (List.getElem?_cons_succ.trans (List.getElem?_cons_succ.trans (List.getElem?_cons_succ.trans (List.getElem?_cons_succ.trans (List.getElem?_cons_succ.trans (List.getElem?_cons_succ.trans (List.getElem?_cons_succ.trans (List.getElem?_cons_succ.trans (List.getElem?_cons_succ.trans (List.getElem?_cons_succ.trans (List.getElem?_cons_zero))))))))))))))))))) (by kernel_rfl) (by kernel_rfl) (by kernel_rfl) (fun _ _ _ h => h) (Or.inl ⟨by rfl, ?_⟩) (by assumption) ?_
                    rotate_left
                    · intro w' hSw; (try dsimp only at hSw); go_simp; try with_reducible rfl
                    try simp only [Act.put, List.setIfInBounds_toArray, List.set_cons_zero, List.set_cons_succ]
                    refine wpAnyH_done (by kernel_rfl) ?_ _
                    refine hK9 _ _ (Met.intro (hJ9 _ _ ?_))
                    (repeat apply Exists.intro)
                    refine ⟨?rel, rfl⟩
                    case rel => exact ⟨gy, ge, Ar, cr, rfl, rfl, rfl, hggy, hgge, kx, kf, hrow, hnx, hv2⟩
                  refine AllReadyH.cons (List.getElem?_toArray.trans (List.getElem?_cons_succ.trans (List.getElem?_cons_succ.trans (List.getElem?_cons_succ.trans (List.getElem?_cons_succ.trans (List.getElem?_cons_succ.trans (List.getElem?_cons_succ.trans (List.getElem?_cons_succ.trans (List.getElem?_cons_succ.trans (List.getElem?_cons_succ.trans (List.getElem?_cons_succ.trans (List.getElem?_cons_succ.trans (List.getElem?_cons_succ.trans (List.getElem?_cons_succ.trans (List.getElem?_cons_succ.trans (List.getElem?_cons_zero)))))))))))))))) (fun K hK => ?_) AllReadyH.nil
                  go_simp
                  have kf := Blk.new W1 38 #[.int .i64 0, .int .i64 0]
                  have hb2 : Below wa.heap.size wa (W1.alloc (.cells #[.int .i64 0, .int .i64 0] 38)) := hb1.alloc hb1.size _
                  have hgge : wa.heap.size ≤ W1.heap.size := hb1.size
                  have hxf : gy ≠ W1.heap.size := Nat.ne_of_lt kx.lt
                  have kx := kx.alloc (.cells #[.int .i64 0, .int .i64 0] 38)
                  obtain ⟨W2, eW⟩ : ∃ W, W1.alloc (.cells #[.int .i64 0, .int .i64 0] 38) = W := ⟨_, rfl⟩
                  rw [eW] at kf hb2 kx ⊢
                  obtain ⟨ge, eg⟩ : ∃ x, W1.heap.size = x := ⟨_, rfl⟩
                  rw [eg] at kf hgge hxf ⊢
                  clear eW eg
                  refine hK.out _ _ hb2 (fun _ => ?_)
                  clear hK K
                  try simp only [Act.put, List.setIfInBounds_toArray, List.set_cons_zero, List.set_cons_succ]
                  refine wpAnyH_ready (rs := [8]) (by kernel_rfl) (by simp) ?_
                  refine AllReadyH.cons (List.getElem?_toArray.trans (List.getElem?_cons_succ.trans (List.getElem?_cons_succ.trans (List.getElem?_cons_succ.trans (List.getElem?_cons_succ.trans (List.getElem?_cons_succ.trans (List.getElem?_cons_succ.trans (List.getElem?_cons_succ.trans (List.getElem?_cons_succ.trans (List.getElem?_cons_zero)))))))))) (fun K hK => ?_) AllReadyH.nil
                  go_simp
                  go_at_call 20
                  try rw [hyw]
                  refine (HRun2.out _ hb2).mono ?_
                  rintro e W3 ⟨Ar, cr, rfl, _, hrow, hbc⟩
                  dsimp only at hrow ⊢
                  have hb3 : Below wa.heap.size wa W3 := hb2.trans (hbc.mono hb2.size)
                  have hnx : (Value.slice Ar X.mem.length cr).ownBlock ≠ some gy := fun e => by have h1 := (World.ownsRow.lt hrow _ e).1; have h2 := kx.lt; omega
                  have kx := kx.below hbc kx.lt
                  have hnf : (Value.slice Ar X.mem.length cr).ownBlock ≠ some ge := fun e => by have h1 := (World.ownsRow.lt hrow _ e).1; have h2 := kf.lt; omega
                  have kf := kf.below hbc kf.lt
                  have hrow : W3.ownsRow wa.heap.size 2 1 (.slice Ar X.mem.length cr) X.mem.length (zv X.mem) := row_base hrow hb2.size
                  clear hbc
                  refine hK.out _ _ hb3 (fun _ => ?_)
                  clear hK K
                  try simp only [Act.put, List.setIfInBounds_toArray, List.set_cons_zero, List.set_cons_succ]
                  refine wpAnyH_take (i := 9) (v := ?_) (List.getElem?_toArray.trans (List.getElem?_cons_succ.trans (List.getElem?_cons_succ.trans (List.getElem?_cons_succ.trans (List.getElem?_cons_succ.trans (List.getElem?_cons_succ.trans (List.getElem?_cons_succ.trans (List.getElem?_cons_succ.trans (List.getElem?_cons_succ.trans (List.getElem?_cons_succ.trans (List.getElem?_cons_zero))))))))))) (by kernel_rfl) (by kernel_rfl) (by kernel_rfl) (fun _ _ _ h => h) (Or.inl ⟨by rfl, ?_⟩) (by assumption) ?_
                  rotate_left
                  · intro w' hSw; (try dsimp only at hSw); go_simp; try with_reducible rfl
                  try simp only [Act.put, List.setIfInBounds_toArray, List.set_cons_zero, List.set_cons_succ]
                  refine wpAnyH_take (i := 10) (v := ?_) (List.getElem?_toArray.trans (List.getElem?_cons_succ.trans (List.getElem?_cons_succ.trans (List.getElem?_cons_succ.trans (List.getElem?_cons_succ.trans (List.getElem?_cons_succ.trans (List.getElem?_cons_succ.trans (List.getElem?_cons_succ.trans (List.getElem?_cons_succ.trans (List.getElem?_cons_succ.trans (List.getElem?_cons_succ.trans (List.getElem?_cons_zero)))))))))))) (by kernel_rfl) (by kernel_rfl) (by kernel_rfl) (fun _ _ _ h => h) (Or.inl ⟨by rfl, ?_⟩) (by assumption) ?_
                  rotate_left
                  · intro w' hSw; (try dsimp only at hSw); go_simp; try with_reducible rfl
                  try simp only [Act.put, List.setIfInBounds_toArray, List.set_cons_zero, List.set_cons_succ]
                  refine wpAnyH_take (i := 11) (v := ?_) (List.getElem?_toArray.trans (List.getElem?_cons_succ.trans (List.getElem?_cons_succ.trans (List.getElem?_cons_succ.trans (List.getElem?_cons_succ.trans (List.getElem?_cons_succ.trans (List.getElem?_cons_succ.trans (List.getElem?_cons_succ.trans (List.getElem?_cons_succ.trans (List.getElem?_cons_succ.trans (List.getElem?_cons_succ.trans (List.getElem?_cons_succ.trans (List.getElem?_cons_zero))))))))))))) (by kernel_rfl) (by kernel_rfl) (by kernel_rfl) (fun _ _ _ h => h) (Or.inl ⟨by rfl, ?_⟩) (by assumption) ?_
                  rotate_left
                  · intro w' hSw; (try dsimp only at hSw); go_simp; try with_reducible rfl
                  try simp only [Act.put, List.setIfInBounds_toArray, List.set_cons_zero, List.set_cons_succ]
                  refine wpAnyH_take (i := 12) (v := ?_) (List.getElem?_toArray.trans (List.getElem?_cons_succ.trans (List.getElem?_cons_succ.trans (List.getElem?_cons_succ.trans (List.getElem?_cons_succ.trans (List.getElem?_cons_succ.trans (List.getElem?_cons_succ.trans (List.getElem?_cons_succ.trans (List.getElem?_cons_succ.trans (List.getElem?_cons_succ.trans (List.getElem?_cons_succ.trans (List.getElem?_cons_succ.trans (List.getElem?_cons_succ.trans (List.getElem?_cons_zero)))))))))))))) (by kernel_rfl) (by kernel_rfl) (by kernel_rfl) (fun _ _ _ h => h) (Or.inl ⟨by rfl, ?_⟩) (by assumption) ?_
                  rotate_left
                  · intro w' hSw; (try dsimp only at hSw); go_simp; try with_reducible rfl
                  try simp only [Act.put, List.setIfInBounds_toArray, List.set_cons_zero, List.set_cons_succ]
                  refine wpAnyH_ready (rs := [15]) (by kernel_rfl) (by simp) ?_
                  refine AllReadyH.cons (List.getElem?_toArray.trans (List.getElem?_cons_succ.trans (List.getElem?_cons_succ.trans (List.getElem?_cons_succ.trans (List.getElem?_cons_succ.trans (List.getElem?_cons_succ.trans (List.getElem?_cons_succ.trans (List.getElem?_cons_succ.trans (List.getElem?_cons_succ.trans (List.getElem?_cons_succ.trans (List.getElem?_cons_succ.trans (List.getElem?_cons_succ.trans (List.getElem?_cons_succ.trans (List.getElem?_cons_succ.trans (List.getElem?_cons_succ.trans (List.getElem?_cons_succ.trans (List.getElem?_cons_zero))))))))))))))))) (fun K hK => ?_) AllReadyH.nil
                  refine wp_store_one 27 (.tmp 22) (.tmp 129) rfl gy (mcells X Ar X.mem.length cr) rfl rfl 27 _ kx mach_size rfl (mcells_one _ _ _ _) ?_
                  intro V1 kx hgn
                  have kf := kf.grown hgn (some_neq (Ne.symm hxf))
                  have hrow := row_not hrow hgn hnx
                  have hv1 : Below wa.heap.size wa V1 := hb3.grown hgn hb3.size (fun g e => by cases e; exact hggy)
                  refine hK.out _ _ hv1 (fun _ => ?_)
                  clear hK K
                  try simp only [Act.put, List.setIfInBounds_toArray, List.set_cons_zero, List.set_cons_succ]
                  refine wpAnyH_ready (rs := [16]) (by kernel_rfl) (by simp) ?_
                  refine AllReadyH.cons (List.getElem?_toArray.trans (List.getElem?_cons_succ.trans (List.getElem?_cons_succ.trans (List.getElem?_cons_succ.trans (List.getElem?_cons_succ.trans (List.getElem?_cons_succ.trans (List.getElem?_cons_succ.trans (List.getElem?_cons_succ.trans (List.getElem?_cons_succ.trans (List.getElem?_cons_succ.trans (List.getElem?_cons_succ.trans (List.getElem?_cons_succ.trans (List.getElem?_cons_succ.trans (List.getElem?_cons_succ.trans (List.getElem?_cons_succ.trans (List.getElem?_cons_succ.trans (List.getElem?_cons_succ.trans (List.getElem?_cons_zero)))))))))))))))))) (fun K hK => ?_) AllReadyH.nil
                  refine wp_store_one 38 (.tmp 23) (.tmp 130) rfl ge [.int .i64 kd, .int .i64 nm] rfl rfl 38 _ kf event_size rfl (by intro u hu; simp only [List.mem_cons, List.not_mem_nil, or_false] at hu; rcases hu with rfl | rfl <;> rfl) ?_
                  intro V2 kf hgm
                  have kx := kx.grown hgm (some_neq hxf)
                  have hrow := row_not hrow hgm hnf
                  have hv2 : Below wa.heap.size wa V2 := hv1.grown hgm hv1.size (fun g e => by cases e; exact hgge)
                  refine hK.out _ _ hv2 (fun _ => ?_)
                  clear hK K
                  try simp only [Act.put, List.setIfInBounds_toArray, List.set_cons_zero, List.set_cons_succ]
                  refine wpAnyH_take (i := 17) (v := ?_) (List.getElem?_toArray.trans (List.getElem?_cons_succ.trans (List.getElem?_cons_succ.trans (List.getElem?_cons_succ.trans (List.getElem?_cons_succ.trans (List.getElem?_cons_succ.trans (List.getElem?_cons_succ.trans (List.getElem?_cons_succ.trans (List.getElem?_cons_succ.trans (List.getElem?_cons_succ.trans (List.getElem?_cons_succ.trans (List.getElem?_cons_succ.trans (List.getElem?_cons_succ.trans (List.getElem?_cons_succ.trans (List.getElem?_cons_succ.trans (List.getElem?_cons_succ.trans (List.getElem?_cons_succ.trans (List.getElem?_cons_succ.trans (List.getElem?_cons_zero))))))))))))))))))) (by kernel_rfl) (by kernel_rfl) (by kernel_rfl) (fun _ _ _ h => h) (Or.inl ⟨by rfl, ?_⟩) (by assumption) ?_
                  rotate_left
                  · intro w' hSw; (try dsimp only at hSw); go_simp; try with_reducible rfl
                  try simp only [Act.put, List.setIfInBounds_toArray, List.set_cons_zero, List.set_cons_succ]
                  refine wpAnyH_done (by kernel_rfl) ?_ _
                  refine hK9 _ _ (Met.intro (hJ9 _ _ ?_))
                  (repeat apply Exists.intro)
                  refine ⟨?rel, rfl⟩
                  case rel => exact ⟨gy, ge, Ar, cr, rfl, rfl, rfl, hggy, hgge, kx, kf, hrow, hnx, hv2⟩
                refine AllReadyH.cons (List.getElem?_toArray.trans (List.getElem?_cons_succ.trans (List.getElem?_cons_succ.trans (List.getElem?_cons_succ.trans (List.getElem?_cons_succ.trans (List.getElem?_cons_succ.trans (List.getElem?_cons_succ.trans (List.getElem?_cons_succ.trans (List.getElem?_cons_succ.trans (List.getElem?_cons_succ.trans (List.getElem?_cons_succ.trans (List.getElem?_cons_succ.trans (List.getElem?_cons_succ.trans (List.getElem?_cons_succ.trans (List.getElem?_cons_succ.trans (List.getElem?_cons_zero)))))))))))))))) (fun K hK => ?_) AllReadyH.nil
                go_simp
                have kf := Blk.new W0 38 #[.int .i64 0, .int .i64 0]
                have hb1 : Below wa.heap.size wa (W0.alloc (.cells #[.int .i64 0, .int .i64 0] 38)) := hb0.alloc hb0.size _
                have hgge : wa.heap.size ≤ W0.heap.size := hb0.size
                obtain ⟨W1, eW⟩ : ∃ W, W0.alloc (.cells #[.int .i64 0, .int .i64 0] 38) = W := ⟨_, rfl⟩
                rw [eW] at kf hb1 ⊢
                obtain ⟨ge, eg⟩ : ∃ x, W0.heap.size = x := ⟨_, rfl⟩
                rw [eg] at kf hgge ⊢
                clear eW eg
                refine hK.out _ _ hb1 (fun _ => ?_)
                clear hK K
                try simp only [Act.put, List.setIfInBounds_toArray, List.set_cons_zero, List.set_cons_succ]
                refine wpAnyH_ready (rs := [8, 13]) (by kernel_rfl) (by simp) ?_
                refine AllReadyH.cons (List.getElem?_toArray.trans (List.getElem?_cons_succ.trans (List.getElem?_cons_succ.trans (List.getElem?_cons_succ.trans (List.getElem?_cons_succ.trans (List.getElem?_cons_succ.trans (List.getElem?_cons_succ.trans (List.getElem?_cons_succ.trans (List.getElem?_cons_succ.trans (List.getElem?_cons_zero)))))))))) (fun K hK => ?_) ?_
                · skip
                  go_simp
                  go_at_call 20
                  try rw [hyw]
                  refine (HRun2.out _ hb1).mono ?_
                  rintro e W2 ⟨Ar, cr, rfl, _, hrow, hbc⟩
                  dsimp only at hrow ⊢
                  have hb2 : Below wa.heap.size wa W2 := hb1.trans (hbc.mono hb1.size)
                  have hnf : (Value.slice Ar X.mem.length cr).ownBlock ≠ some ge := fun e => by have h1 := (World.ownsRow.lt hrow _ e).1; have h2 := kf.lt; omega
                  have kf := kf.below hbc kf.lt
                  have hrow : W2.ownsRow wa.heap.size 2 1 (.slice Ar X.mem.length cr) X.mem.length (zv X.mem) := row_base hrow hb1.size
                  clear hbc
                  refine hK.out _ _ hb2 (fun _ => ?_)
                  clear hK K
                  try simp only [Act.put, List.setIfInBounds_toArray, List.set_cons_zero, List.set_cons_succ]
                  refine wpAnyH_take (i := 9) (v := ?_) (List.getElem?_toArray.trans (List.getElem?_cons_succ.trans (List.getElem?_cons_succ.trans (List.getElem?_cons_succ.trans (List.getElem?_cons_succ.trans (List.getElem?_cons_succ.trans (List.getElem?_cons_succ.trans (List.getElem?_cons_succ.trans (List.getElem?_cons_succ.trans (List.getElem?_cons_succ.trans (List.getElem?_cons_zero))))))))))) (by kernel_rfl) (by kernel_rfl) (by kernel_rfl) (fun _ _ _ h => h) (Or.inl ⟨by rfl, ?_⟩) (by assumption) ?_
                  rotate_left
                  · intro w' hSw; (try dsimp only at hSw); go_simp; try with_reducible rfl
                  try simp only [Act.put, List.setIfInBounds_toArray, List.set_cons_zero, List.set_cons_succ]
                  refine wpAnyH_take (i := 10) (v := ?_) (List.getElem?_toArray.trans (List.getElem?_cons_succ.trans (List.getElem?_cons_succ.trans (List.getElem?_cons_succ.trans (List.getElem?_cons_succ.trans (List.getElem?_cons_succ.trans (List.getElem?_cons_succ.trans (List.getElem?_cons_succ.trans (List.getElem?_cons_succ.trans (List.getElem?_cons_succ.trans (List.getElem?_cons_succ.trans (List.getElem?_cons_zero)))))))))))) (by kernel_rfl) (by kernel_rfl) (by kernel_rfl) (fun _ _ _ h => h) (Or.inl ⟨by rfl, ?_⟩) (by assumption) ?_
                  rotate_left
                  · intro w' hSw; (try dsimp only at hSw); go_simp; try with_reducible rfl
                  try simp only [Act.put, List.setIfInBounds_toArray, List.set_cons_zero, List.set_cons_succ]
                  refine wpAnyH_take (i := 11) (v := ?_) (List.getElem?_toArray.trans (List.getElem?_cons_succ.trans (List.getElem?_cons_succ.trans (List.getElem?_cons_succ.trans (List.getElem?_cons_succ.trans (List.getElem?_cons_succ.trans (List.getElem?_cons_succ.trans (List.getElem?_cons_succ.trans (List.getElem?_cons_succ.trans (List.getElem?_cons_succ.trans (List.getElem?_cons_succ.trans (List.getElem?_cons_succ.trans (List.getElem?_cons_zero))))))))))))) (by kernel_rfl) (by kernel_rfl) (by kernel_rfl) (fun _ _ _ h => h) (Or.inl ⟨by rfl, ?_⟩) (by assumption) ?_
                  rotate_left
                  · intro w' hSw; (try dsimp only at hSw); go_simp; try with_reducible rfl
                  try simp only [Act.put, List.setIfInBounds_toArray, List.set_cons_zero, List.set_cons_succ]
                  refine wpAnyH_take (i := 12) (v := ?_) (List.getElem?_toArray.trans (List.getElem?_cons_succ.trans (List.getElem?_cons_succ.trans (List.getElem?_cons_succ.trans (List.getElem?_cons_succ.trans (List.getElem?_cons_succ.trans (List.getElem?_cons_succ.trans (List.getElem?_cons_succ.trans (List.getElem?_cons_succ.trans (List.getElem?_cons_succ.trans (List.getElem?_cons_succ.trans (List.getElem?_cons_succ.trans (List.getElem?_cons_succ.trans (List.getElem?_cons_zero)))))))))))))) (by kernel_rfl) (by kernel_rfl) (by kernel_rfl) (fun _ _ _ h => h) (Or.inl ⟨by rfl, ?_⟩) (by assumption) ?_
                  rotate_left
                  · intro w' hSw; (try dsimp only at hSw); go_simp; try with_reducible rfl
                  try simp only [Act.put, List.setIfInBounds_toArray, List.set_cons_zero, List.set_cons_succ]
                  refine wpAnyH_ready (rs := [13]) (by kernel_rfl) (by simp) ?_
                  refine AllReadyH.cons (List.getElem?_toArray.trans (List.getElem?_cons_succ.trans (List.getElem?_cons_succ.trans (List.getElem?_cons_succ.trans (List.getElem?_cons_succ.trans (List.getElem?_cons_succ.trans (List.getElem?_cons_succ.trans (List.getElem?_cons_succ.trans (List.getElem?_cons_succ.trans (List.getElem?_cons_succ.trans (List.getElem?_cons_succ.trans (List.getElem?_cons_succ.trans (List.getElem?_cons_succ.trans (List.getElem?_cons_succ.trans (List.getElem?_cons_zero))))))))))))))) (fun K hK => ?_) AllReadyH.nil
                  go_simp
                  have kx := Blk.new W2 27 #[.int .i64 0, .int .i64 0, .int .i64 0, .int .i64 0, .int .i64 0, .int .i64 0, .int .i64 0, .int .i64 0, .int .i64 0, .slice none 0 0, .int .i64 0, .int .i64 0]
                  have hb3 : Below wa.heap.size wa (W2.alloc (.cells #[.int .i64 0, .int .i64 0, .int .i64 0, .int .i64 0, .int .i64 0, .int .i64 0, .int .i64 0, .int .i64 0, .int .i64 0, .slice none 0 0, .int .i64 0, .int .i64 0] 27)) := hb2.alloc hb2.size _
                  have hggy : wa.heap.size ≤ W2.heap.size := hb2.size
                  have hnx : (Value.slice Ar X.mem.length cr).ownBlock ≠ some W2.heap.size := fun e => Nat.lt_irrefl _ (World.ownsRow.lt hrow _ e).2
                  have hrow := row_alloc hrow (.cells #[.int .i64 0, .int .i64 0, .int .i64 0, .int .i64 0, .int .i64 0, .int .i64 0, .int .i64 0, .int .i64 0, .int .i64 0, .slice none 0 0, .int .i64 0, .int .i64 0] 27)
                  have hxf : ge ≠ W2.heap.size := Nat.ne_of_lt kf.lt
                  have kf := kf.alloc (.cells #[.int .i64 0, .int .i64 0, .int .i64 0, .int .i64 0, .int .i64 0, .int .i64 0, .int .i64 0, .int .i64 0, .int .i64 0, .slice none 0 0, .int .i64 0, .int .i64 0] 27)
                  obtain ⟨W3, eW⟩ : ∃ W, W2.alloc (.cells #[.int .i64 0, .int .i64 0, .int .i64 0, .int .i64 0, .int .i64 0, .int .i64 0, .int .i64 0, .int .i64 0, .int .i64 0, .slice none 0 0, .int .i64 0, .int .i64 0] 27) = W := ⟨_, rfl⟩
                  rw [eW] at kx hb3 hrow kf ⊢
                  obtain ⟨gy, eg⟩ : ∃ x, W2.heap.size = x := ⟨_, rfl⟩
                  rw [eg] at kx hggy hnx hxf ⊢
                  clear eW eg
                  refine hK.out _ _ hb3 (fun _ => ?_)
                  clear hK K
                  try simp only [Act.put, List.setIfInBounds_toArray, List.set_cons_zero, List.set_cons_succ]
                  refine wpAnyH_ready (rs := [15]) (by kernel_rfl) (by simp) ?_
                  refine AllReadyH.cons (List.getElem?_toArray.trans (List.getElem?_cons_succ.trans (List.getElem?_cons_succ.trans (List.getElem?_cons_succ.trans (List.getElem?_cons_succ.trans (List.getElem?_cons_succ.trans (List.getElem?_cons_succ.trans (List.getElem?_cons_succ.trans (List.getElem?_cons_succ.trans (List.getElem?_cons_succ.trans (List.getElem?_cons_succ.trans (List.getElem?_cons_succ.trans (List.getElem?_cons_succ.trans (List.getElem?_cons_succ.trans (List.getElem?_cons_succ.trans (List.getElem?_cons_succ.trans (List.getElem?_cons_zero))))))))))))))))) (fun K hK => ?_) AllReadyH.nil
                  refine wp_store_one 27 (.tmp 22) (.tmp 129) rfl gy (mcells X Ar X.mem.length cr) rfl rfl 27 _ kx mach_size rfl (mcells_one _ _ _ _) ?_
                  intro V1 kx hgn
                  have kf := kf.grown hgn (some_neq (Ne.symm (Ne.symm hxf)))
                  have hrow := row_not hrow hgn hnx
                  have hv1 : Below wa.heap.size wa V1 := hb3.grown hgn hb3.size (fun g e => by cases e; exact hggy)
                  refine hK.out _ _ hv1 (fun _ => ?_)
                  clear hK K
                  try simp only [Act.put, List.setIfInBounds_toArray, List.set_cons_zero, List.set_cons_succ]
                  refine wpAnyH_ready (rs := [16]) (by kernel_rfl) (by simp) ?_
                  refine AllReadyH.cons (List.getElem?_toArray.trans (List.getElem?_cons_succ.trans (List.getElem?_cons_succ.trans (List.getElem?_cons_succ.trans (List.getElem?_cons_succ.trans (List.getElem?_cons_succ.trans (List.getElem?_cons_succ.trans (List.getElem?_cons_succ.trans (List.getElem?_cons_succ.trans (List.getElem?_cons_succ.trans (List.getElem?_cons_succ.trans (List.getElem?_cons_succ.trans (List.getElem?_cons_succ.trans (List.getElem?_cons_succ.trans (List.getElem?_cons_succ.trans (List.getElem?_cons_succ.trans (List.getElem?_cons_succ.trans (List.getElem?_cons_zero)))))))))))))))))) (fun K hK => ?_) AllReadyH.nil
                  refine wp_store_one 38 (.tmp 23) (.tmp 130) rfl ge [.int .i64 kd, .int .i64 nm] rfl rfl 38 _ kf event_size rfl (by intro u hu; simp only [List.mem_cons, List.not_mem_nil, or_false] at hu; rcases hu with rfl | rfl <;> rfl) ?_
                  intro V2 kf hgm
                  have kx := kx.grown hgm (some_neq (Ne.symm hxf))
                  have hrow := row_not hrow hgm hnf
                  have hv2 : Below wa.heap.size wa V2 := hv1.grown hgm hv1.size (fun g e => by cases e; exact hgge)
                  refine hK.out _ _ hv2 (fun _ => ?_)
                  clear hK K
                  try simp only [Act.put, List.setIfInBounds_toArray, List.set_cons_zero, List.set_cons_succ]
                  refine wpAnyH_take (i := 17) (v := ?_) (List.getElem?_toArray.trans (List.getElem?_cons_succ.trans (List.getElem?_cons_succ.trans (List.getElem?_cons_succ.trans (List.getElem?_cons_succ.trans (List.getElem?_cons_succ.trans (List.getElem?_cons_succ.trans (List.getElem?_cons_succ.trans (List.getElem?_cons_succ.trans (List.getElem?_cons_succ.trans (List.getElem?_cons_succ.trans (List.getElem?_cons_succ.trans (List.getElem?_cons_succ.trans (List.getElem?_cons_succ.trans (List.getElem?_cons_succ.trans (List.getElem?_cons_succ.trans (List.getElem?_cons_succ.trans (List.getElem?_cons_succ.trans (List.getElem?_cons_zero))))))))))))))))))) (by kernel_rfl) (by kernel_rfl) (by kernel_rfl) (fun _ _ _ h => h) (Or.inl ⟨by rfl, ?_⟩) (by assumption) ?_
                  rotate_left
                  · intro w' hSw; (try dsimp only at hSw); go_simp; try with_reducible rfl
                  try simp only [Act.put, List.setIfInBounds_toArray, List.set_cons_zero, List.set_cons_succ]
                  refine wpAnyH_done (by kernel_rfl) ?_ _
                  refine hK9 _ _ (Met.intro (hJ9 _ _ ?_))
                  (repeat apply Exists.intro)
                  refine ⟨?rel, rfl⟩
                  case rel => exact ⟨gy, ge, Ar, cr, rfl, rfl, rfl, hggy, hgge, kx, kf, hrow, hnx, hv2⟩
                refine AllReadyH.cons (List.getElem?_toArray.trans (List.getElem?_cons_succ.trans (List.getElem?_cons_succ.trans (List.getElem?_cons_succ.trans (List.getElem?_cons_succ.trans (List.getElem?_cons_succ.trans (List.getElem?_cons_succ.trans (List.getElem?_cons_succ.trans (List.getElem?_cons_succ.trans (List.getElem?_cons_succ.trans (List.getElem?_cons_succ.trans (List.getElem?_cons_succ.trans (List.getElem?_cons_succ.trans (List.getElem?_cons_succ.trans (List.getElem?_cons_zero))))))))))))))) (fun K hK => ?_) AllReadyH.nil
                go_simp
                have kx := Blk.new W1 27 #[.int .i64 0, .int .i64 0, .int .i64 0, .int .i64 0, .int .i64 0, .int .i64 0, .int .i64 0, .int .i64 0, .int .i64 0, .slice none 0 0, .int .i64 0, .int .i64 0]
                have hb2 : Below wa.heap.size wa (W1.alloc (.cells #[.int .i64 0, .int .i64 0, .int .i64 0, .int .i64 0, .int .i64 0, .int .i64 0, .int .i64 0, .int .i64 0, .int .i64 0, .slice none 0 0, .int .i64 0, .int .i64 0] 27)) := hb1.alloc hb1.size _
                have hggy : wa.heap.size ≤ W1.heap.size := hb1.size
                have hxf : ge ≠ W1.heap.size := Nat.ne_of_lt kf.lt
                have kf := kf.alloc (.cells #[.int .i64 0, .int .i64 0, .int .i64 0, .int .i64 0, .int .i64 0, .int .i64 0, .int .i64 0, .int .i64 0, .int .i64 0, .slice none 0 0, .int .i64 0, .int .i64 0] 27)
                obtain ⟨W2, eW⟩ : ∃ W, W1.alloc (.cells #[.int .i64 0, .int .i64 0, .int .i64 0, .int .i64 0, .int .i64 0, .int .i64 0, .int .i64 0, .int .i64 0, .int .i64 0, .slice none 0 0, .int .i64 0, .int .i64 0] 27) = W := ⟨_, rfl⟩
                rw [eW] at kx hb2 kf ⊢
                obtain ⟨gy, eg⟩ : ∃ x, W1.heap.size = x := ⟨_, rfl⟩
                rw [eg] at kx hggy hxf ⊢
                clear eW eg
                refine hK.out _ _ hb2 (fun _ => ?_)
                clear hK K
                try simp only [Act.put, List.setIfInBounds_toArray, List.set_cons_zero, List.set_cons_succ]
                refine wpAnyH_ready (rs := [8]) (by kernel_rfl) (by simp) ?_
                refine AllReadyH.cons (List.getElem?_toArray.trans (List.getElem?_cons_succ.trans (List.getElem?_cons_succ.trans (List.getElem?_cons_succ.trans (List.getElem?_cons_succ.trans (List.getElem?_cons_succ.trans (List.getElem?_cons_succ.trans (List.getElem?_cons_succ.trans (List.getElem?_cons_succ.trans (List.getElem?_cons_zero)))))))))) (fun K hK => ?_) AllReadyH.nil
                go_simp
                go_at_call 20
                try rw [hyw]
                refine (HRun2.out _ hb2).mono ?_
                rintro e W3 ⟨Ar, cr, rfl, _, hrow, hbc⟩
                dsimp only at hrow ⊢
                have hb3 : Below wa.heap.size wa W3 := hb2.trans (hbc.mono hb2.size)
                have hnx : (Value.slice Ar X.mem.length cr).ownBlock ≠ some gy := fun e => by have h1 := (World.ownsRow.lt hrow _ e).1; have h2 := kx.lt; omega
                have kx := kx.below hbc kx.lt
                have hnf : (Value.slice Ar X.mem.length cr).ownBlock ≠ some ge := fun e => by have h1 := (World.ownsRow.lt hrow _ e).1; have h2 := kf.lt; omega
                have kf := kf.below hbc kf.lt
                have hrow : W3.ownsRow wa.heap.size 2 1 (.slice Ar X.mem.length cr) X.mem.length (zv X.mem) := row_base hrow hb2.size
                clear hbc
                refine hK.out _ _ hb3 (fun _ => ?_)
                clear hK K
                try simp only [Act.put, List.setIfInBounds_toArray, List.set_cons_zero, List.set_cons_succ]
                refine wpAnyH_take (i := 9) (v := ?_) (List.getElem?_toArray.trans (List.getElem?_cons_succ.trans (List.getElem?_cons_succ.trans (List.getElem?_cons_succ.trans (List.getElem?_cons_succ.trans (List.getElem?_cons_succ.trans (List.getElem?_cons_succ.trans (List.getElem?_cons_succ.trans (List.getElem?_cons_succ.trans (List.getElem?_cons_succ.trans (List.getElem?_cons_zero))))))))))) (by kernel_rfl) (by kernel_rfl) (by kernel_rfl) (fun _ _ _ h => h) (Or.inl ⟨by rfl, ?_⟩) (by assumption) ?_
                rotate_left
                · intro w' hSw; (try dsimp only at hSw); go_simp; try with_reducible rfl
                try simp only [Act.put, List.setIfInBounds_toArray, List.set_cons_zero, List.set_cons_succ]
                refine wpAnyH_take (i := 10) (v := ?_) (List.getElem?_toArray.trans (List.getElem?_cons_succ.trans (List.getElem?_cons_succ.trans (List.getElem?_cons_succ.trans (List.getElem?_cons_succ.trans (List.getElem?_cons_succ.trans (List.getElem?_cons_succ.trans (List.getElem?_cons_succ.trans (List.getElem?_cons_succ.trans (List.getElem?_cons_succ.trans (List.getElem?_cons_succ.trans (List.getElem?_cons_zero)))))))))))) (by kernel_rfl) (by kernel_rfl) (by kernel_rfl) (fun _ _ _ h => h) (Or.inl ⟨by rfl, ?_⟩) (by assumption) ?_
                rotate_left
                · intro w' hSw; (try dsimp only at hSw); go_simp; try with_reducible rfl
                try simp only [Act.put, List.setIfInBounds_toArray, List.set_cons_zero, List.set_cons_succ]
                refine wpAnyH_take (i := 11) (v := ?_) (List.getElem?_toArray.trans (List.getElem?_cons_succ.trans (List.getElem?_cons_succ.trans (List.getElem?_cons_succ.trans (List.getElem?_cons_succ.trans (List.getElem?_cons_succ.trans (List.getElem?_cons_succ.trans (List.getElem?_cons_succ.trans (List.getElem?_cons_succ.trans (List.getElem?_cons_succ.trans (List.getElem?_cons_succ.trans (List.getElem?_cons_succ.trans (List.getElem?_cons_zero))))))))))))) (by kernel_rfl) (by kernel_rfl) (by kernel_rfl) (fun _ _ _ h => h) (Or.inl ⟨by rfl, ?_⟩) (by assumption) ?_
                rotate_left
                · intro w' hSw; (try dsimp only at hSw); go_simp; try with_reducible rfl
                try simp only [Act.put, List.setIfInBounds_toArray, List.set_cons_zero, List.set_cons_succ]
                refine wpAnyH_take (i := 12) (v := ?_) (List.getElem?_toArray.trans (List.getElem?_cons_succ.trans (List.getElem?_cons_succ.trans (List.getElem?_cons_succ.trans (List.getElem?_cons_succ.trans (List.getElem?_cons_succ.trans (List.getElem?_cons_succ.trans (List.getElem?_cons_succ.trans (List.getElem?_cons_succ.trans (List.getElem?_cons_succ.trans (List.getElem?_cons_succ.trans (List.getElem?_cons_succ.trans (List.getElem?_cons_succ.trans (List.getElem?_cons_zero)))))))))))))) (by kernel_rfl) (by kernel_rfl) (by kernel_rfl) (fun _ _ _ h => h) (Or.inl ⟨by rfl, ?_⟩) (by assumption) ?_
                rotate_left
                · intro w' hSw; (try dsimp only at hSw); go_simp; try with_reducible rfl
                try simp only [Act.put, List.setIfInBounds_toArray, List.set_cons_zero, List.set_cons_succ]
                refine wpAnyH_ready (rs := [15]) (by kernel_rfl) (by simp) ?_
                refine AllReadyH.cons (List.getElem?_toArray.trans (List.getElem?_cons_succ.trans (List.getElem?_cons_succ.trans (List.getElem?_cons_succ.trans (List.getElem?_cons_succ.trans (List.getElem?_cons_succ.trans (List.getElem?_cons_succ.trans (List.getElem?_cons_succ.trans (List.getElem?_cons_succ.trans (List.getElem?_cons_succ.trans (List.getElem?_cons_succ.trans (List.getElem?_cons_succ.trans (List.getElem?_cons_succ.trans (List.getElem?_cons_succ.trans (List.getElem?_cons_succ.trans (List.getElem?_cons_succ.trans (List.getElem?_cons_zero))))))))))))))))) (fun K hK => ?_) AllReadyH.nil
                refine wp_store_one 27 (.tmp 22) (.tmp 129) rfl gy (mcells X Ar X.mem.length cr) rfl rfl 27 _ kx mach_size rfl (mcells_one _ _ _ _) ?_
                intro V1 kx hgn
                have kf := kf.grown hgn (some_neq (Ne.symm (Ne.symm hxf)))
                have hrow := row_not hrow hgn hnx
                have hv1 : Below wa.heap.size wa V1 := hb3.grown hgn hb3.size (fun g e => by cases e; exact hggy)
                refine hK.out _ _ hv1 (fun _ => ?_)
                clear hK K
                try simp only [Act.put, List.setIfInBounds_toArray, List.set_cons_zero, List.set_cons_succ]
                refine wpAnyH_ready (rs := [16]) (by kernel_rfl) (by simp) ?_
                refine AllReadyH.cons (List.getElem?_toArray.trans (List.getElem?_cons_succ.trans (List.getElem?_cons_succ.trans (List.getElem?_cons_succ.trans (List.getElem?_cons_succ.trans (List.getElem?_cons_succ.trans (List.getElem?_cons_succ.trans (List.getElem?_cons_succ.trans (List.getElem?_cons_succ.trans (List.getElem?_cons_succ.trans (List.getElem?_cons_succ.trans (List.getElem?_cons_succ.trans (List.getElem?_cons_succ.trans (List.getElem?_cons_succ.trans (List.getElem?_cons_succ.trans (List.getElem?_cons_succ.trans (List.getElem?_cons_succ.trans (List.getElem?_cons_zero)))))))))))))))))) (fun K hK => ?_) AllReadyH.nil
                refine wp_store_one 38 (.tmp 23) (.tmp 130) rfl ge [.int .i64 kd, .int .i64 nm] rfl rfl 38 _ kf event_size rfl (by intro u hu; simp only [List.mem_cons, List.not_mem_nil, or_false] at hu; rcases hu with rfl | rfl <;> rfl) ?_
                intro V2 kf hgm
                have kx := kx.grown hgm (some_neq (Ne.symm hxf))
                have hrow := row_not hrow hgm hnf
                have hv2 : Below wa.heap.size wa V2 := hv1.grown hgm hv1.size (fun g e => by cases e; exact hgge)
                refine hK.out _ _ hv2 (fun _ => ?_)
                clear hK K
                try simp only [Act.put, List.setIfInBounds_toArray, List.set_cons_zero, List.set_cons_succ]
                refine wpAnyH_take (i := 17) (v := ?_) (List.getElem?_toArray.trans (List.getElem?_cons_succ.trans (List.getElem?_cons_succ.trans (List.getElem?_cons_succ.trans (List.getElem?_cons_succ.trans (List.getElem?_cons_succ.trans (List.getElem?_cons_succ.trans (List.getElem?_cons_succ.trans (List.getElem?_cons_succ.trans (List.getElem?_cons_succ.trans (List.getElem?_cons_succ.trans (List.getElem?_cons_succ.trans (List.getElem?_cons_succ.trans (List.getElem?_cons_succ.trans (List.getElem?_cons_succ.trans (List.getElem?_cons_succ.trans (List.getElem?_cons_succ.trans (List.getElem?_cons_succ.trans (List.getElem?_cons_zero))))))))))))))))))) (by kernel_rfl) (by kernel_rfl) (by kernel_rfl) (fun _ _ _ h => h) (Or.inl ⟨by rfl, ?_⟩) (by assumption) ?_
                rotate_left
                · intro w' hSw; (try dsimp only at hSw); go_simp; try with_reducible rfl
                try simp only [Act.put, List.setIfInBounds_toArray, List.set_cons_zero, List.set_cons_succ]
                refine wpAnyH_done (by kernel_rfl) ?_ _
                refine hK9 _ _ (Met.intro (hJ9 _ _ ?_))
                (repeat apply Exists.intro)
                refine ⟨?rel, rfl⟩
                case rel => exact ⟨gy, ge, Ar, cr, rfl, rfl, rfl, hggy, hgge, kx, kf, hrow, hnx, hv2⟩
              case rest =>
                obtain ⟨gy, ge, Ay, cy, rfl, rfl, rfl, hggy, hgge, ky, ke, hrowy, hny, hbc10⟩ := hcut
                have hbr : Below wr.heap.size wr wc := HX.out.2.2.2.2.2.2.trans (hbc10.mono HX.out.2.2.2.2.2.2.size)
                have HY := Lib.hid (And.intro ky (And.intro ke (And.intro hrowy (And.intro hny (And.intro (HX.out.1.below hbc10 HX.out.1.lt) (And.intro (HX.out.2.1.below hbc10 HX.out.2.1.lt) (And.intro (row_below HX.out.2.2.1 hbc10) (And.intro hbc10 hbr))))))))
                have hXok : MOk X ∧ On L.length X ∧ X.mem.length = M.mem.length := by
                  have h1 := runM_on HP.out.1 y hon
                  have h2 := runM_ok (l := L) HP.out.2.2.1.ok (by rw [HP.out.2.1]; omega) y hok
                  rw [eX] at h1 h2
                  exact ⟨h2, h1.1, h1.2⟩
                have HXk := Lib.hid hXok
                clear ky ke hrowy hny hbc10 hbr hXok eX d0 HRun2 HVo
                go_wp2_with (first | (with_reducible refine st_load 38 ?_; refine stopped ?_) | fail)
                refine go_on ?_
                refine wpList_load_at rfl 38 (.tmp 20) rfl gf 0 rfl #[.int .i64 kd, .int .i64 nm] _ (Blk.cells HY.out.2.2.2.2.2.1) Tryd.underlying38 rfl event_size ?_
                simp only [Act.put, List.setIfInBounds_toArray, List.set_cons_zero, List.set_cons_succ]
                go_wp2_with (first | (with_reducible refine st_load 38 ?_; refine stopped ?_) | fail)
                refine go_on ?_
                refine wpList_load_at rfl 38 (.tmp 23) rfl ge 0 rfl #[.int .i64 kd, .int .i64 nm] _ (Blk.cells HY.out.2.1) Tryd.underlying38 rfl event_size ?_
                simp only [Act.put, List.setIfInBounds_toArray, List.set_cons_zero, List.set_cons_succ]
                go_wp2_with (first | (with_reducible refine st_load 27 ?_; refine stopped ?_) | fail)
                refine go_on ?_
                refine wpList_load_w (by first | rfl | simp [Region.wanted, yielded]) 27 (.tmp 19) rfl gx 0 rfl (mcells X Ar X.mem.length cr).toArray _ (Blk.cells HY.out.2.2.2.2.1) Tryd.underlying27 rfl mach_size ?_
                simp only [Act.put, List.setIfInBounds_toArray, List.set_cons_zero, List.set_cons_succ]
                go_wp2_with (first | (with_reducible refine st_load 27 ?_; refine stopped ?_) | fail)
                refine go_on ?_
                refine wpList_load_w (by first | rfl | simp [Region.wanted, yielded]) 27 (.tmp 22) rfl gy 0 rfl (mcells X Ay X.mem.length cy).toArray _ (Blk.cells HY.out.1) Tryd.underlying27 rfl mach_size ?_
                simp only [Act.put, List.setIfInBounds_toArray, List.set_cons_zero, List.set_cons_succ]
                have hAl := alikeSame X Ar Ay X.mem.length cr cy rfl (by rw [HXk.out.2.2]; omega) wc (machAt_row HY.out.2.2.2.2.2.2.1 HXk.out.1).vs (machAt_row HY.out.2.2.1 HXk.out.1).vs
                have HAl := Lib.hid hAl
                clear hAl
                go_wp2_with (first
                  | (go_at_call 25; refine HAl.out.mono ?_; rintro e wd ⟨rfl, hbd⟩; have HBd := Lib.hid hbd; clear hbd)
                  | (with_reducible refine st_load 27 ?_; refine stopped ?_)
                  | fail)
                obtain ⟨Am, cm, bm, kma, _, _⟩ := hva.at_
                obtain ⟨An, cn2, bn, kmo, _, _⟩ := hvo.at_
                have hrd : Below wr.heap.size wr wd := HY.out.2.2.2.2.2.2.2.2.trans (HBd.out.mono HY.out.2.2.2.2.2.2.2.2.size)
                have hgwr : ga < wr.heap.size := kma.lt
                have howr : go < wr.heap.size := kmo.lt
                have hwra : wr.heap.size ≤ wa.heap.size := HX.out.2.2.2.2.2.2.size
                have hxg : gx ≠ ga := by omega
                have hyg : gy ≠ ga := by omega
                have hgn1 : go ≠ ga := by have := HGo.out.2.2; omega
                have hle : ga ≤ wr.heap.size := by omega
                have hzd : Below ga w8 wd := hbz.trans (hrd.mono hle)
                have hne1 : (Value.slice Ar X.mem.length cr).ownBlock ≠ some ga := fun e => by have h1 := (World.ownsRow.lt HX.out.2.2.1 _ e).1; omega
                have hne2 : (Value.slice Ay X.mem.length cy).ownBlock ≠ some ga := fun e => by have h1 := (World.ownsRow.lt HY.out.2.2.1 _ e).1; omega
                have hne3 : (Value.slice Ar X.mem.length cr).ownBlock ≠ some go := fun e => by have h1 := (World.ownsRow.lt HX.out.2.2.1 _ e).1; omega
                refine go_on ?_
                refine wpList_load_at rfl 27 (.tmp 19) rfl gx 0 rfl (mcells X Ar X.mem.length cr).toArray _ (Blk.cells (HY.out.2.2.2.2.1.below HBd.out HY.out.2.2.2.2.1.lt)) Tryd.underlying27 rfl mach_size ?_
                simp only [Act.put, List.setIfInBounds_toArray, List.set_cons_zero, List.set_cons_succ]
                refine wpList_store_at rfl 27 (.tmp 16) (.tmp 146) rfl ga 0 (mcells X Ar X.mem.length cr) rfl rfl 27 (mcells M Am M.mem.length cm) (kma.below hrd kma.lt) mach_size (by simp [mcells]) (mcells_one _ _ _ _) ?_
                intro we kga hge
                rw [splice_whole (mcells M Am M.mem.length cm) (mcells X Ar X.mem.length cr) (by simp [mcells])] at kga
                simp only [Act.put, List.setIfInBounds_toArray, List.set_cons_zero, List.set_cons_succ]
                have kye := (HY.out.1.below HBd.out HY.out.1.lt).grown hge (some_neq hyg)
                have koe := (kmo.below hrd kmo.lt).grown hge (some_neq hgn1)
                have hre := row_not (row_below HY.out.2.2.2.2.2.2.1 HBd.out) hge hne1
                have hrye := row_not (row_below HY.out.2.2.1 HBd.out) hge hne2
                have hze : Below ga w8 we := hzd.grown hge (by have h1 := hzd.size; have h2 := HGo.out.1; omega) (fun g e => by cases e; exact Nat.le_refl _)
                have HE := Lib.hid (And.intro kga (And.intro kye (And.intro koe (And.intro hre (And.intro hrye hze)))))
                have hsv := pvSave we X Ay X.mem.length cy (machAt_row hrye HXk.out.1)
                have HSV := Lib.hid hsv
                have hmay : mayM X = true := HXk.out.2.1.may (by rw [HP.out.2.1]; omega) (by rw [HXk.out.2.2]; exact hml)
                have HMM := Lib.hid hmay
                clear hsv kga kye koe hre hrye hze hmay hge hzd hrd kma kmo
                go_wp2_with (first | (with_reducible refine st_load 27 ?_; refine stopped ?_) | fail)
                refine go_on ?_
                refine wpList_load_at rfl 27 (.tmp 22) rfl gy 0 rfl (mcells X Ay X.mem.length cy).toArray _ (Blk.cells HE.out.2.1) Tryd.underlying27 rfl mach_size ?_
                simp only [Act.put, List.setIfInBounds_toArray, List.set_cons_zero, List.set_cons_succ]
                go_wp2_with (first
                  | (go_at_call 17; refine HSV.out.mono ?_; rintro e wf ⟨v8, rfl, hown8, hbf⟩; obtain ⟨A9, c9, rfl, hc9, _, hbs9, _⟩ := hown8.slice_cap; have HBf := Lib.hid (And.intro hbs9 (And.intro hc9 hbf)); clear hown8 hbf hbs9 hc9)
                  | (go_at_call 18; refine (pvBack X HXk.out.1 HMM.out A9 _ c9 rfl HBf.out.2.1 wf HBf.out.1).mono ?_; rintro e wg ⟨Az, cz, rfl, _, hrz, hbg⟩; unfold mv)
                  | (with_reducible refine st_load 27 ?_; refine stopped ?_)
                  | fail)
                have kz := Blk.new wg 27 (mcells X Az X.mem.length cz).toArray
                have hfg : Below we.heap.size we wg := HBf.out.2.2.trans (hbg.mono HBf.out.2.2.size)
                have hrz1 := row_alloc hrz (.cells (mcells X Az X.mem.length cz).toArray 27)
                have hfh : Below we.heap.size we (wg.alloc (.cells (mcells X Az X.mem.length cz).toArray 27)) := hfg.alloc hfg.size _
                have hwh : wg.heap.size ≤ (wg.alloc (.cells (mcells X Az X.mem.length cz).toArray 27)).heap.size := by rw [size_alloc1]; omega
                have hew : go < we.heap.size := HE.out.2.2.1.lt
                have hne4 : (Value.slice Az X.mem.length cz).ownBlock ≠ some go := fun e => by have h1 := (World.ownsRow.lt hrz _ e).1; have h2 := HBf.out.2.2.size; omega
                have ew' : wg.alloc (.cells #[.int .i64 X.p, .int .i64 (X.r 0), .int .i64 (X.r 1), .int .i64 (X.r 2), .int .i64 (X.r 3), .int .i64 (X.r 4), .int .i64 (X.r 5), .int .i64 (X.r 6), .int .i64 (X.r 7), .slice Az X.mem.length cz, .int .i64 X.s, .int .i64 X.t] 27) = wg.alloc (.cells (mcells X Az X.mem.length cz).toArray 27) := rfl
                rw [ew']
                clear ew'
                obtain ⟨wh, ewh⟩ : ∃ W, wg.alloc (.cells (mcells X Az X.mem.length cz).toArray 27) = W := ⟨_, rfl⟩
                rw [ewh] at kz hrz1 hfh hwh ⊢
                refine go_on ?_
                refine wpList_load_at rfl 27 (.tmp 25) rfl wg.heap.size 0 rfl (mcells X Az X.mem.length cz).toArray _ (Blk.cells kz) Tryd.underlying27 rfl mach_size ?_
                simp only [Act.put, List.setIfInBounds_toArray, List.set_cons_zero, List.set_cons_succ]
                refine wpList_store_at rfl 27 (.tmp 17) (.tmp 155) rfl go 0 (mcells X Az X.mem.length cz) rfl rfl 27 (mcells M An M.mem.length cn2) (HE.out.2.2.1.below hfh hew) mach_size (by simp [mcells]) (mcells_one _ _ _ _) ?_
                intro wi kgo hgi
                rw [splice_whole (mcells M An M.mem.length cn2) (mcells X Az X.mem.length cz) (by simp [mcells])] at kgo
                simp only [Act.put, List.setIfInBounds_toArray, List.set_cons_zero, List.set_cons_succ]
                have hvaX : Var wi ga X := ⟨Ar, cr, _, (HE.out.1.below hfh HE.out.1.lt).grown hgi (some_neq (Ne.symm hgn1)), row_not (row_below HE.out.2.2.2.1 hfh) hgi hne3, hne1⟩
                have hvoX : Var wi go X := ⟨Az, cz, _, kgo, row_not hrz1 hgi hne4, hne4⟩
                have hgago : ga ≤ go := by have h2 := HGo.out.2.1; omega
                have hzi0 : Below ga w8 wh := HE.out.2.2.2.2.2.trans (hfh.mono (by omega))
                have hzi : Below ga w8 wi := hzi0.grown hgi (by have h1 := hzi0.size; have h2 := HGo.out.1; omega) (fun g e => by cases e; exact hgago)
                have hRel : ∃ (i1 : Nat) (M1 : Mach), i1 ≤ 20 ∧ ((i : Int) + 1) = (i1 : Int) ∧ Var wi ga M1 ∧ Var wi go M1 ∧ On L.length M1 ∧ MOk M1 ∧ M1.mem.length ≤ 64 ∧ Below ga w8 wi := ⟨i + 1, X, by omega, by omega, hvaX, hvoX, HXk.out.2.1, HXk.out.1, by rw [HXk.out.2.2]; exact hml, hzi⟩
                have HRel := Lib.hid hRel
                have hiw : IntKind.i64.wrap ((i : Int) + 1) = (i : Int) + 1 := IntWalk.i64_in _ (by omega)
                clear hRel hvaX hvoX hzi hzi0 kgo kz hgi hrz1 hfh
                go_wp2_with fail
                refine ⟨?_, by simp only [intOf]; omega⟩
                obtain ⟨i1, M1, h1, h2, h3⟩ := HRel.out
                exact ⟨i1, M1, h1, by rw [h2], h3⟩
          · have hi1 : (i : Int) < (m : Int) := by omega
            have hi2 : ¬ (i : Int) < 20 := by omega
            obtain ⟨Aa, ca, ba, kva, hrowa, hnea⟩ := hva.at_
            obtain ⟨Ao, co, bo, kvo, hrowo, hneo⟩ := hvo.at_
            have hw8r : Below w.heap.size w wr := by
              have h := HM8.out.2.2.2.2.1
              exact h.trans (below_shift hbz HGo.out.1 h.size)
            have hAl : ∀ W, Below wr.heap.size wr W → Calls Tryd.prog 25 #[mv M Aa M.mem.length ca, mv M Ao M.mem.length co] W (Says W (.bool true)) := fun W h => alikeSame M Aa Ao M.mem.length ca co rfl (by omega) W ((machAt_row hrowa hok).below h).vs ((machAt_row hrowo hok).below h).vs
            have hEn : ∀ W, Below wr.heap.size wr W → Calls Tryd.prog 26 #[.slice A1 ll c1] W (OwnPost W (encL L)) := fun W h => by
              have hin : InsAt W A1 L := HP.out.2.2.1.below (HM8.out.2.2.2.1.trans ((below_shift hbz HGo.out.1 (Nat.le_refl _)).trans (h.mono (below_shift hbz HGo.out.1 (Nat.le_refl _)).size) |>.mono HM8.out.2.2.2.1.size))
              exact coEncode A1 L ll c1 HP.out.2.1 (by omega) W hin
            have heL : encL L = b := by rw [← HP.out.2.2.2.2.2]; exact encL_listL b h4
            rw [heL] at hEn
            obtain ⟨sB, esB⟩ : ∃ x : ByteArray, (⟨b.toArray⟩ : ByteArray) = x := ⟨_, rfl⟩
            have hcv : ∀ W, Below wr.heap.size wr W → (convert 47 9 (.slice A q cp)).run Tryd.prog W = .ok (.string sB) W := fun W h => by
              rw [← esB]
              exact bs_conv9 H.out.2.1 H.out.1 Tryd.underlying47 Tryd.underlying5 cp Tryd.underlying9 W (hw8r.trans (h.mono hw8r.size))
            have HAl := Lib.hid hAl
            have HEn := Lib.hid hEn
            have HK9 := Lib.hid (And.intro kva kvo)
            clear hAl hEn kva kvo hrowa hrowo hnea hneo hva hvo
            go_wp2_with fail
            have hb0 : Below wr.heap.size wr wr.drew := (Below.refl _ _).drew
            refine wp_region_held_drew (S := fun w' => Below wr.heap.size wr w') (by kernel_rfl) hb0 (fun hHeld => ?_)
            refine wpAnyH_take (i := 0) (v := .agg (mcells M Aa M.mem.length ca).toArray) (List.getElem?_toArray.trans (List.getElem?_cons_zero)) (by kernel_rfl) (by kernel_rfl) (by kernel_rfl) (fun _ _ _ h => h) (Or.inl ⟨by rfl, ?_⟩) (by assumption) ?_
            · intro w' hSw; exact load_row_yields 27 (.tmp 16) rfl ga 0 rfl (mcells M Aa M.mem.length ca).toArray _ (Blk.cells (HK9.out.1.below hSw HK9.out.1.lt)) Tryd.underlying27 rfl mach_size
            try simp only [Act.put, List.setIfInBounds_toArray, List.set_cons_zero, List.set_cons_succ]
            refine wpAnyH_take (i := 1) (v := .agg (mcells M Ao M.mem.length co).toArray) (List.getElem?_toArray.trans (List.getElem?_cons_succ.trans (List.getElem?_cons_zero))) (by kernel_rfl) (by kernel_rfl) (by kernel_rfl) (fun _ _ _ h => h) (Or.inl ⟨by rfl, ?_⟩) (by assumption) ?_
            · intro w' hSw; exact load_row_yields 27 (.tmp 17) rfl go 0 rfl (mcells M Ao M.mem.length co).toArray _ (Blk.cells (HK9.out.2.below hSw HK9.out.2.lt)) Tryd.underlying27 rfl mach_size
            try simp only [Act.put, List.setIfInBounds_toArray, List.set_cons_zero, List.set_cons_succ]
            refine wpAnyH_ready (rs := [2]) (by kernel_rfl) (by simp) ?_
            refine AllReadyH.cons (List.getElem?_toArray.trans (List.getElem?_cons_succ.trans (List.getElem?_cons_succ.trans (List.getElem?_cons_zero)))) (fun K hK => ?_) AllReadyH.nil
            go_simp
            go_at_call 25
            refine (HAl.out _ hb0).mono ?_
            rintro e wd ⟨rfl, hbd⟩
            have hrd : Below wr.heap.size wr wd := hb0.trans (hbd.mono hb0.size)
            clear hbd
            refine hK.out _ _ hrd (fun hHeld => ?_)
            clear hK K
            try simp only [Act.put, List.setIfInBounds_toArray, List.set_cons_zero, List.set_cons_succ]
            refine wpAnyH_take (i := 3) (v := ?_) (List.getElem?_toArray.trans (List.getElem?_cons_succ.trans (List.getElem?_cons_succ.trans (List.getElem?_cons_succ.trans (List.getElem?_cons_zero))))) (by kernel_rfl) (by kernel_rfl) (by kernel_rfl) (fun _ _ _ h => h) (Or.inl ⟨by rfl, ?_⟩) (by assumption) ?_
            rotate_left
            · intro w' hSw; (try dsimp only at hSw); go_simp; try with_reducible rfl
            try simp only [Act.put, List.setIfInBounds_toArray, List.set_cons_zero, List.set_cons_succ]
            refine wpAnyH_take (i := 4) (v := ?_) (List.getElem?_toArray.trans (List.getElem?_cons_succ.trans (List.getElem?_cons_succ.trans (List.getElem?_cons_succ.trans (List.getElem?_cons_succ.trans (List.getElem?_cons_zero)))))) (by kernel_rfl) (by kernel_rfl) (by kernel_rfl) (fun _ _ _ h => h) (Or.inl ⟨by rfl, ?_⟩) (by assumption) ?_
            rotate_left
            · intro w' hSw; (try dsimp only at hSw); go_simp; try with_reducible rfl
            try simp only [Act.put, List.setIfInBounds_toArray, List.set_cons_zero, List.set_cons_succ]
            refine wpAnyH_take (i := 7) (v := ?_) (List.getElem?_toArray.trans (List.getElem?_cons_succ.trans (List.getElem?_cons_succ.trans (List.getElem?_cons_succ.trans (List.getElem?_cons_succ.trans (List.getElem?_cons_succ.trans (List.getElem?_cons_succ.trans (List.getElem?_cons_succ.trans (List.getElem?_cons_zero))))))))) (by kernel_rfl) (by kernel_rfl) (by kernel_rfl) (fun _ _ _ h => h) (Or.inl ⟨by rfl, ?_⟩) (by assumption) ?_
            rotate_left
            · intro w' hSw; (try dsimp only at hSw); go_simp; try with_reducible rfl
            try simp only [Act.put, List.setIfInBounds_toArray, List.set_cons_zero, List.set_cons_succ]
            refine wpAnyH_take (i := 8) (v := .string sB) (List.getElem?_toArray.trans (List.getElem?_cons_succ.trans (List.getElem?_cons_succ.trans (List.getElem?_cons_succ.trans (List.getElem?_cons_succ.trans (List.getElem?_cons_succ.trans (List.getElem?_cons_succ.trans (List.getElem?_cons_succ.trans (List.getElem?_cons_succ.trans (List.getElem?_cons_zero)))))))))) (by kernel_rfl) (by kernel_rfl) (by kernel_rfl) (fun _ _ _ h => h) (Or.inl ⟨by rfl, ?_⟩) (by assumption) ?_
            · intro w' hSw; go_simp; try rw [hcv w' hSw]
            try simp only [Act.put, List.setIfInBounds_toArray, List.set_cons_zero, List.set_cons_succ]
            refine wpAnyH_ready (rs := [5]) (by kernel_rfl) (by simp) ?_
            refine AllReadyH.cons (List.getElem?_toArray.trans (List.getElem?_cons_succ.trans (List.getElem?_cons_succ.trans (List.getElem?_cons_succ.trans (List.getElem?_cons_succ.trans (List.getElem?_cons_succ.trans (List.getElem?_cons_zero))))))) (fun K hK => ?_) AllReadyH.nil
            go_simp
            go_at_call 26
            refine (HEn.out _ hrd).mono ?_
            rintro e we ⟨v8, rfl, hown8, hbe⟩
            obtain ⟨A9, c9, rfl, hc9, _, hbs9, _⟩ := hown8.slice_cap
            have hre : Below wr.heap.size wr we := hrd.trans (hbe.mono hrd.size)
            have hcw := bs_conv9 hbs9 rfl Tryd.underlying47 Tryd.underlying5 c9 Tryd.underlying9
            rw [esB] at hcw
            clear hown8 hbe hbs9
            refine hK.out _ _ hre (fun hHeld => ?_)
            clear hK K
            try simp only [Act.put, List.setIfInBounds_toArray, List.set_cons_zero, List.set_cons_succ]
            refine wpAnyH_swap (S' := fun w' => Below we.heap.size we w') (fun w' h => hre.trans (h.mono hre.size)) _ _ _ _ ?_
            have hre0 : Below we.heap.size we we := Below.refl _ _
            refine wpAnyH_take (i := 6) (v := .string sB) (List.getElem?_toArray.trans (List.getElem?_cons_succ.trans (List.getElem?_cons_succ.trans (List.getElem?_cons_succ.trans (List.getElem?_cons_succ.trans (List.getElem?_cons_succ.trans (List.getElem?_cons_succ.trans (List.getElem?_cons_zero)))))))) (by kernel_rfl) (by kernel_rfl) (by kernel_rfl) (fun _ _ _ h => h) (Or.inl ⟨by rfl, ?_⟩) (by assumption) ?_
            · intro w' hSw; go_simp; try rw [hcw w' hSw]
            try simp only [Act.put, List.setIfInBounds_toArray, List.set_cons_zero, List.set_cons_succ]
            refine wpAnyH_take (i := 9) (v := ?_) (List.getElem?_toArray.trans (List.getElem?_cons_succ.trans (List.getElem?_cons_succ.trans (List.getElem?_cons_succ.trans (List.getElem?_cons_succ.trans (List.getElem?_cons_succ.trans (List.getElem?_cons_succ.trans (List.getElem?_cons_succ.trans (List.getElem?_cons_succ.trans (List.getElem?_cons_succ.trans (List.getElem?_cons_zero))))))))))) (by kernel_rfl) (by kernel_rfl) (by kernel_rfl) (fun _ _ _ h => h) (Or.inl ⟨by rfl, ?_⟩) (by assumption) ?_
            rotate_left
            · intro w' hSw; (try dsimp only at hSw); go_simp; try with_reducible rfl
            try simp only [Act.put, List.setIfInBounds_toArray, List.set_cons_zero, List.set_cons_succ]
            refine wpAnyH_take (i := 10) (v := ?_) (List.getElem?_toArray.trans (List.getElem?_cons_succ.trans (List.getElem?_cons_succ.trans (List.getElem?_cons_succ.trans (List.getElem?_cons_succ.trans (List.getElem?_cons_succ.trans (List.getElem?_cons_succ.trans (List.getElem?_cons_succ.trans (List.getElem?_cons_succ.trans (List.getElem?_cons_succ.trans (List.getElem?_cons_succ.trans (List.getElem?_cons_zero)))))))))))) (by kernel_rfl) (by kernel_rfl) (by kernel_rfl) (fun _ _ _ h => h) (Or.inl ⟨by rfl, ?_⟩) (by assumption) ?_
            rotate_left
            · intro w' hSw; (try dsimp only at hSw); go_simp; try with_reducible rfl
            try simp only [Act.put, List.setIfInBounds_toArray, List.set_cons_zero, List.set_cons_succ]
            refine wpAnyH_take (i := 11) (v := ?_) (List.getElem?_toArray.trans (List.getElem?_cons_succ.trans (List.getElem?_cons_succ.trans (List.getElem?_cons_succ.trans (List.getElem?_cons_succ.trans (List.getElem?_cons_succ.trans (List.getElem?_cons_succ.trans (List.getElem?_cons_succ.trans (List.getElem?_cons_succ.trans (List.getElem?_cons_succ.trans (List.getElem?_cons_succ.trans (List.getElem?_cons_succ.trans (List.getElem?_cons_zero))))))))))))) (by kernel_rfl) (by kernel_rfl) (by kernel_rfl) (fun _ _ _ h => h) (Or.inl ⟨by rfl, ?_⟩) (by assumption) ?_
            rotate_left
            · intro w' hSw; (try dsimp only at hSw); go_simp; try with_reducible rfl
            try simp only [Act.put, List.setIfInBounds_toArray, List.set_cons_zero, List.set_cons_succ]
            refine wpAnyH_done (by kernel_rfl) ?_ _
            go_wp2_with fail
            go_ret
            exact ⟨rfl, hw8r.trans (hre.mono hw8r.size)⟩
        · have hi1 : ¬ (i : Int) < (m : Int) := by omega
          obtain ⟨Aa, ca, ba, kva, hrowa, hnea⟩ := hva.at_
          obtain ⟨Ao, co, bo, kvo, hrowo, hneo⟩ := hvo.at_
          have hw8r : Below w.heap.size w wr := by
            have h := HM8.out.2.2.2.2.1
            exact h.trans (below_shift hbz HGo.out.1 h.size)
          have hAl : ∀ W, Below wr.heap.size wr W → Calls Tryd.prog 25 #[mv M Aa M.mem.length ca, mv M Ao M.mem.length co] W (Says W (.bool true)) := fun W h => alikeSame M Aa Ao M.mem.length ca co rfl (by omega) W ((machAt_row hrowa hok).below h).vs ((machAt_row hrowo hok).below h).vs
          have hEn : ∀ W, Below wr.heap.size wr W → Calls Tryd.prog 26 #[.slice A1 ll c1] W (OwnPost W (encL L)) := fun W h => by
            have hin : InsAt W A1 L := HP.out.2.2.1.below (HM8.out.2.2.2.1.trans ((below_shift hbz HGo.out.1 (Nat.le_refl _)).trans (h.mono (below_shift hbz HGo.out.1 (Nat.le_refl _)).size) |>.mono HM8.out.2.2.2.1.size))
            exact coEncode A1 L ll c1 HP.out.2.1 (by omega) W hin
          have heL : encL L = b := by rw [← HP.out.2.2.2.2.2]; exact encL_listL b h4
          rw [heL] at hEn
          obtain ⟨sB, esB⟩ : ∃ x : ByteArray, (⟨b.toArray⟩ : ByteArray) = x := ⟨_, rfl⟩
          have hcv : ∀ W, Below wr.heap.size wr W → (convert 47 9 (.slice A q cp)).run Tryd.prog W = .ok (.string sB) W := fun W h => by
            rw [← esB]
            exact bs_conv9 H.out.2.1 H.out.1 Tryd.underlying47 Tryd.underlying5 cp Tryd.underlying9 W (hw8r.trans (h.mono hw8r.size))
          have HAl := Lib.hid hAl
          have HEn := Lib.hid hEn
          have HK9 := Lib.hid (And.intro kva kvo)
          clear hAl hEn kva kvo hrowa hrowo hnea hneo hva hvo
          go_wp2_with fail
          have hb0 : Below wr.heap.size wr wr.drew := (Below.refl _ _).drew
          refine wp_region_held_drew (S := fun w' => Below wr.heap.size wr w') (by kernel_rfl) hb0 (fun hHeld => ?_)
          refine wpAnyH_take (i := 0) (v := .agg (mcells M Aa M.mem.length ca).toArray) (List.getElem?_toArray.trans (List.getElem?_cons_zero)) (by kernel_rfl) (by kernel_rfl) (by kernel_rfl) (fun _ _ _ h => h) (Or.inl ⟨by rfl, ?_⟩) (by assumption) ?_
          · intro w' hSw; exact load_row_yields 27 (.tmp 16) rfl ga 0 rfl (mcells M Aa M.mem.length ca).toArray _ (Blk.cells (HK9.out.1.below hSw HK9.out.1.lt)) Tryd.underlying27 rfl mach_size
          try simp only [Act.put, List.setIfInBounds_toArray, List.set_cons_zero, List.set_cons_succ]
          refine wpAnyH_take (i := 1) (v := .agg (mcells M Ao M.mem.length co).toArray) (List.getElem?_toArray.trans (List.getElem?_cons_succ.trans (List.getElem?_cons_zero))) (by kernel_rfl) (by kernel_rfl) (by kernel_rfl) (fun _ _ _ h => h) (Or.inl ⟨by rfl, ?_⟩) (by assumption) ?_
          · intro w' hSw; exact load_row_yields 27 (.tmp 17) rfl go 0 rfl (mcells M Ao M.mem.length co).toArray _ (Blk.cells (HK9.out.2.below hSw HK9.out.2.lt)) Tryd.underlying27 rfl mach_size
          try simp only [Act.put, List.setIfInBounds_toArray, List.set_cons_zero, List.set_cons_succ]
          refine wpAnyH_ready (rs := [2]) (by kernel_rfl) (by simp) ?_
          refine AllReadyH.cons (List.getElem?_toArray.trans (List.getElem?_cons_succ.trans (List.getElem?_cons_succ.trans (List.getElem?_cons_zero)))) (fun K hK => ?_) AllReadyH.nil
          go_simp
          go_at_call 25
          refine (HAl.out _ hb0).mono ?_
          rintro e wd ⟨rfl, hbd⟩
          have hrd : Below wr.heap.size wr wd := hb0.trans (hbd.mono hb0.size)
          clear hbd
          refine hK.out _ _ hrd (fun hHeld => ?_)
          clear hK K
          try simp only [Act.put, List.setIfInBounds_toArray, List.set_cons_zero, List.set_cons_succ]
          refine wpAnyH_take (i := 3) (v := ?_) (List.getElem?_toArray.trans (List.getElem?_cons_succ.trans (List.getElem?_cons_succ.trans (List.getElem?_cons_succ.trans (List.getElem?_cons_zero))))) (by kernel_rfl) (by kernel_rfl) (by kernel_rfl) (fun _ _ _ h => h) (Or.inl ⟨by rfl, ?_⟩) (by assumption) ?_
          rotate_left
          · intro w' hSw; (try dsimp only at hSw); go_simp; try with_reducible rfl
          try simp only [Act.put, List.setIfInBounds_toArray, List.set_cons_zero, List.set_cons_succ]
          refine wpAnyH_take (i := 4) (v := ?_) (List.getElem?_toArray.trans (List.getElem?_cons_succ.trans (List.getElem?_cons_succ.trans (List.getElem?_cons_succ.trans (List.getElem?_cons_succ.trans (List.getElem?_cons_zero)))))) (by kernel_rfl) (by kernel_rfl) (by kernel_rfl) (fun _ _ _ h => h) (Or.inl ⟨by rfl, ?_⟩) (by assumption) ?_
          rotate_left
          · intro w' hSw; (try dsimp only at hSw); go_simp; try with_reducible rfl
          try simp only [Act.put, List.setIfInBounds_toArray, List.set_cons_zero, List.set_cons_succ]
          refine wpAnyH_take (i := 7) (v := ?_) (List.getElem?_toArray.trans (List.getElem?_cons_succ.trans (List.getElem?_cons_succ.trans (List.getElem?_cons_succ.trans (List.getElem?_cons_succ.trans (List.getElem?_cons_succ.trans (List.getElem?_cons_succ.trans (List.getElem?_cons_succ.trans (List.getElem?_cons_zero))))))))) (by kernel_rfl) (by kernel_rfl) (by kernel_rfl) (fun _ _ _ h => h) (Or.inl ⟨by rfl, ?_⟩) (by assumption) ?_
          rotate_left
          · intro w' hSw; (try dsimp only at hSw); go_simp; try with_reducible rfl
          try simp only [Act.put, List.setIfInBounds_toArray, List.set_cons_zero, List.set_cons_succ]
          refine wpAnyH_take (i := 8) (v := .string sB) (List.getElem?_toArray.trans (List.getElem?_cons_succ.trans (List.getElem?_cons_succ.trans (List.getElem?_cons_succ.trans (List.getElem?_cons_succ.trans (List.getElem?_cons_succ.trans (List.getElem?_cons_succ.trans (List.getElem?_cons_succ.trans (List.getElem?_cons_succ.trans (List.getElem?_cons_zero)))))))))) (by kernel_rfl) (by kernel_rfl) (by kernel_rfl) (fun _ _ _ h => h) (Or.inl ⟨by rfl, ?_⟩) (by assumption) ?_
          · intro w' hSw; go_simp; try rw [hcv w' hSw]
          try simp only [Act.put, List.setIfInBounds_toArray, List.set_cons_zero, List.set_cons_succ]
          refine wpAnyH_ready (rs := [5]) (by kernel_rfl) (by simp) ?_
          refine AllReadyH.cons (List.getElem?_toArray.trans (List.getElem?_cons_succ.trans (List.getElem?_cons_succ.trans (List.getElem?_cons_succ.trans (List.getElem?_cons_succ.trans (List.getElem?_cons_succ.trans (List.getElem?_cons_zero))))))) (fun K hK => ?_) AllReadyH.nil
          go_simp
          go_at_call 26
          refine (HEn.out _ hrd).mono ?_
          rintro e we ⟨v8, rfl, hown8, hbe⟩
          obtain ⟨A9, c9, rfl, hc9, _, hbs9, _⟩ := hown8.slice_cap
          have hre : Below wr.heap.size wr we := hrd.trans (hbe.mono hrd.size)
          have hcw := bs_conv9 hbs9 rfl Tryd.underlying47 Tryd.underlying5 c9 Tryd.underlying9
          rw [esB] at hcw
          clear hown8 hbe hbs9
          refine hK.out _ _ hre (fun hHeld => ?_)
          clear hK K
          try simp only [Act.put, List.setIfInBounds_toArray, List.set_cons_zero, List.set_cons_succ]
          refine wpAnyH_swap (S' := fun w' => Below we.heap.size we w') (fun w' h => hre.trans (h.mono hre.size)) _ _ _ _ ?_
          have hre0 : Below we.heap.size we we := Below.refl _ _
          refine wpAnyH_take (i := 6) (v := .string sB) (List.getElem?_toArray.trans (List.getElem?_cons_succ.trans (List.getElem?_cons_succ.trans (List.getElem?_cons_succ.trans (List.getElem?_cons_succ.trans (List.getElem?_cons_succ.trans (List.getElem?_cons_succ.trans (List.getElem?_cons_zero)))))))) (by kernel_rfl) (by kernel_rfl) (by kernel_rfl) (fun _ _ _ h => h) (Or.inl ⟨by rfl, ?_⟩) (by assumption) ?_
          · intro w' hSw; go_simp; try rw [hcw w' hSw]
          try simp only [Act.put, List.setIfInBounds_toArray, List.set_cons_zero, List.set_cons_succ]
          refine wpAnyH_take (i := 9) (v := ?_) (List.getElem?_toArray.trans (List.getElem?_cons_succ.trans (List.getElem?_cons_succ.trans (List.getElem?_cons_succ.trans (List.getElem?_cons_succ.trans (List.getElem?_cons_succ.trans (List.getElem?_cons_succ.trans (List.getElem?_cons_succ.trans (List.getElem?_cons_succ.trans (List.getElem?_cons_succ.trans (List.getElem?_cons_zero))))))))))) (by kernel_rfl) (by kernel_rfl) (by kernel_rfl) (fun _ _ _ h => h) (Or.inl ⟨by rfl, ?_⟩) (by assumption) ?_
          rotate_left
          · intro w' hSw; (try dsimp only at hSw); go_simp; try with_reducible rfl
          try simp only [Act.put, List.setIfInBounds_toArray, List.set_cons_zero, List.set_cons_succ]
          refine wpAnyH_take (i := 10) (v := ?_) (List.getElem?_toArray.trans (List.getElem?_cons_succ.trans (List.getElem?_cons_succ.trans (List.getElem?_cons_succ.trans (List.getElem?_cons_succ.trans (List.getElem?_cons_succ.trans (List.getElem?_cons_succ.trans (List.getElem?_cons_succ.trans (List.getElem?_cons_succ.trans (List.getElem?_cons_succ.trans (List.getElem?_cons_succ.trans (List.getElem?_cons_zero)))))))))))) (by kernel_rfl) (by kernel_rfl) (by kernel_rfl) (fun _ _ _ h => h) (Or.inl ⟨by rfl, ?_⟩) (by assumption) ?_
          rotate_left
          · intro w' hSw; (try dsimp only at hSw); go_simp; try with_reducible rfl
          try simp only [Act.put, List.setIfInBounds_toArray, List.set_cons_zero, List.set_cons_succ]
          refine wpAnyH_take (i := 11) (v := ?_) (List.getElem?_toArray.trans (List.getElem?_cons_succ.trans (List.getElem?_cons_succ.trans (List.getElem?_cons_succ.trans (List.getElem?_cons_succ.trans (List.getElem?_cons_succ.trans (List.getElem?_cons_succ.trans (List.getElem?_cons_succ.trans (List.getElem?_cons_succ.trans (List.getElem?_cons_succ.trans (List.getElem?_cons_succ.trans (List.getElem?_cons_succ.trans (List.getElem?_cons_zero))))))))))))) (by kernel_rfl) (by kernel_rfl) (by kernel_rfl) (fun _ _ _ h => h) (Or.inl ⟨by rfl, ?_⟩) (by assumption) ?_
          rotate_left
          · intro w' hSw; (try dsimp only at hSw); go_simp; try with_reducible rfl
          try simp only [Act.put, List.setIfInBounds_toArray, List.set_cons_zero, List.set_cons_succ]
          refine wpAnyH_done (by kernel_rfl) ?_ _
          go_wp2_with fail
          go_ret
          exact ⟨rfl, hw8r.trans (hre.mono hw8r.size)⟩
    · skip
      obtain ⟨e1, e2⟩ := decF_bad9 h4 HL.out.1 hf
      have hch := HI1.out.2.1
      rw [e1] at hch
      have hdl0 := HL.out.2.1
      rw [e2] at hdl0
      have hdl1 : 0 = dl := hdl0
      subst hdl1
      have HCh := Lib.hid hch
      obtain ⟨g1, u2, eu, _, _⟩ := hch
      subst eu
      have h4q : q % 4 = 0 := by first | rfl | (rw [H.out.1] at h4; exact h4)
      have hrem : Int.tmod ((q : Int)) 4 = 0 := by rw [Int.tmod_eq_emod_of_nonneg (by omega)]; omega
      have hrem2 : ((q : Int)) % 4 = 0 := by omega
      have hfb : ((f1 : Int) == 0) = false := by rw [beq_eq_false_iff_ne]; omega
      have hfn : ((f1 : Int) != 0) = true := by rw [bne, hfb]; rfl
      clear hdl0 e1 e2
      go_wp2_with (first
        | (go_at_call 20; refine HR4.out.1.mono ?_; rintro e w5 ⟨A5, c5, rfl, _, _, hb5⟩; have HB5 := Lib.hid (HR4.out.2.trans (hb5.mono HR4.out.2.size)); clear hb5; dsimp only; rw [mv_kM]; unfold ev; have HW1 := Lib.hid (fun W (h : Below w5.heap.size w5 W) => to_w1 HI2.out.2 HZ3.out.2 HB5.out h))
        | (go_at_call 24; refine (fPath (HCh.out.below (HW1.out _ (below2 w5 _ _))) (H.out.2.2.1.below (HI1.out.2.2.trans ((HW1.out _ (below2 w5 _ _)).mono HI1.out.2.2.size))) (by simp)).mono ?_; rintro e w7 ⟨A7, c7, rfl, hv7, hb7⟩; have HB7 := Lib.hid (And.intro hv7 ((HW1.out _ (below2 w5 _ _)).trans (hb7.mono (HW1.out _ (below2 w5 _ _)).size))); clear hv7 hb7; obtain ⟨b7, o7, eA7, hl7, hc7⟩ := HB7.out.1 (by simp [zv, chAt]); subst eA7; have d7 := hc7 1 (.int .i64 (f2 : Int)) rfl; clear hc7)
        | fail)
      go_ret
      exact ⟨rfl, HI1.out.2.2.trans (HB7.out.2.mono HI1.out.2.2.size)⟩
  · skip
    obtain ⟨e1, e2⟩ := decF_odd9 h4
    have hch := HI1.out.2.1
    rw [e1] at hch
    have hdl0 := HL.out.2.1
    rw [e2] at hdl0
    have hdl1 : 0 = dl := hdl0
    subst hdl1
    have HCh := Lib.hid hch
    obtain ⟨g1, u2, eu, _, _⟩ := hch
    subst eu
    obtain ⟨r4, er4⟩ : ∃ x, q % 4 = x := ⟨_, rfl⟩
    have hrem : Int.tmod ((q : Int)) 4 = (r4 : Int) := by rw [Int.tmod_eq_emod_of_nonneg (by omega)]; omega
    have hrem2 : ((q : Int)) % 4 = (r4 : Int) := by omega
    have hrb : ((r4 : Int) == 0) = false := by rw [beq_eq_false_iff_ne]; rw [H.out.1] at h4; omega
    have hrn : ((r4 : Int) != 0) = true := by rw [bne, hrb]; rfl
    clear hdl0 e1 e2
    go_wp2_with (first
      | (go_at_call 20; refine HR4.out.1.mono ?_; rintro e w5 ⟨A5, c5, rfl, _, _, hb5⟩; have HB5 := Lib.hid (HR4.out.2.trans (hb5.mono HR4.out.2.size)); clear hb5; dsimp only; rw [mv_kM]; unfold ev; have HW1 := Lib.hid (fun W (h : Below w5.heap.size w5 W) => to_w1 HI2.out.2 HZ3.out.2 HB5.out h))
      | (go_at_call 24; refine (fPath (HCh.out.below (HW1.out _ (below2 w5 _ _))) (H.out.2.2.1.below (HI1.out.2.2.trans ((HW1.out _ (below2 w5 _ _)).mono HI1.out.2.2.size))) (by simp)).mono ?_; rintro e w7 ⟨A7, c7, rfl, hv7, hb7⟩; have HB7 := Lib.hid (And.intro hv7 ((HW1.out _ (below2 w5 _ _)).trans (hb7.mono (HW1.out _ (below2 w5 _ _)).size))); clear hv7 hb7)
      | fail)
    go_ret
    exact ⟨rfl, HI1.out.2.2.trans (HB7.out.2.mono HI1.out.2.2.size)⟩

theorem nacelleMachine_calls (A : Option Addr) (b0 : List UInt8) (n cp : Nat) (words : Int) (C : Option Addr) (cl : List UInt8) (m cq : Nat) (hl : b0.length = n) (hn : n ≤ 9223372036854775807) (hnc : n ≤ cp) (w : World) (hA : Bs w w.heap.size A b0) (hwo : R64 words) (hcl : cl.length = m) (hC : Bs w w.heap.size C cl) (hG : HasErr w) :
    Calls Tryd.prog 7 #[.slice A n cp, .int .i64 words, .slice C m cq] w fun e w' => e = .returned (.bool true) ∧ Below w.heap.size w w' := by
  by_cases h40 : n > 560
  · exact nacMach_long A b0 n cp words C cl m cq hl hn hnc w hA hwo hcl hC hG h40
  · exact nacMach_short A b0 n cp words C cl m cq hl hn hnc w hA hwo hcl hC hG h40
end Go.Proofs.YthgiehlfmdobkaaDoor
