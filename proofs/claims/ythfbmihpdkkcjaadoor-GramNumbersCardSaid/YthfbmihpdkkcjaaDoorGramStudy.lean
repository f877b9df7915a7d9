/-
  Package gram's study, by its contract: what it answers is all that there is to know of a well-formed grammar. Conditions: the theorem's own premises.
-/
import Derived.Test.YthfbmihpdkkcjaaDoorGramStu0
namespace Go.Proofs.YthfbmihpdkkcjaaDoor
open Go.RowKit

set_option maxRecDepth 100000 in
set_option maxHeartbeats 4000000 in
set_option linter.unusedSimpArgs false in
theorem gfStudy (w : World) (G : Gm) (hG : GrOk G) (A : Option Addr) (L : List FmV) (n c : Nat) (hA : GmAt w w.heap.size A L G) (hn : L.length = n) : Calls Tryd.prog 28 #[gmv G.k A n c] w (StudyPost w G) := by
  have hnl : G.fs.length = n := by rw [hA.len, hn]
  have hn48 : n ≤ 48 := by rw [← hnl]; exact hG.n
  unfold gmv
  have H := Lib.hid (And.intro hA (And.intro hn (And.intro hnl hG)))
  clear hA hn hnl hG
  have eZ : Tryd.zeroCells61 = Fc.nil.cells.toArray := by kernel_rfl
  obtain ⟨gv, egv⟩ : ∃ gv : List Value, [.int .i64 G.k, .slice A n c] = gv := ⟨_, rfl⟩
  have egv' : (#[.int .i64 G.k, .slice A n c] : Array Value) = gv.toArray := by rw [← egv]
  rw [egv']
  have HB := Lib.hid (And.intro eZ egv)
  clear eZ egv egv'
  go_enter Tryd.func28, Tryd.ntmps28
  go_wp2_with (first
    | (refine wpList_box (o := ⟨some 1, _, _, _, _, _⟩) rfl 25 (.tmp 0) rfl gv.toArray rfl ?_; intro w1 hb1 hw1 hz1)
    | fail)
  obtain ⟨w3, ew3⟩ : ∃ W, (w1.alloc (.cells Tryd.zeroCells61 61)).alloc (.cells #[.bool true] 4) = W := ⟨_, rfl⟩
  have hf3 : FcAt w3 (w.heap.size + 1) Fc.nil := by
    have h := (Blk.new w1 61 Tryd.zeroCells61).alloc (.cells #[.bool true] 4)
    rw [hz1, ew3, HB.out.1] at h
    exact h
  have hr3 : Blk w3 (w.heap.size + 1 + 1) 4 #[.bool true] := by
    have h := Blk.new (w1.alloc (.cells Tryd.zeroCells61 61)) 4 #[.bool true]
    rw [ew3] at h
    simpa [hz1] using h
  have hbw3 : Below w1.heap.size w1 w3 := by rw [← ew3]; exact ((Below.refl w1.heap.size w1).alloc (Nat.le_refl _) _).alloc (by simp) _
  rw [ew3]
  have hm3 := hb1.below hbw3 hb1.lt
  have hbel3 := hw1.trans (hbw3.mono hw1.size)
  obtain ⟨gm, egm⟩ : ∃ z, w.heap.size = z := ⟨_, rfl⟩
  have hgm : w.heap.size ≤ gm := by omega
  obtain ⟨g, eg⟩ : ∃ z, w.heap.size + 1 = z := ⟨_, rfl⟩
  have hg : w.heap.size ≤ g := by omega
  obtain ⟨gr, egr⟩ : ∃ z, w.heap.size + 1 + 1 = z := ⟨_, rfl⟩
  have hgr : w.heap.size ≤ gr := by omega
  have h3 : StH w G gv gm g gr w3 Fc.nil true 0 := ⟨eg ▸ hf3, egr ▸ hr3, egm ▸ hm3, Fc.nil_ok, hbel3, hg, hgr, hgm, Fc.nil_snd G, fun i => by rw [Fc.nil_room]; exact ⟨Int.le_refl _, Int.le_refl _⟩⟩
  have H3 := Lib.hid h3
  rw [egr, eg]
  rw [show (Value.pointer (some ⟨w.heap.size, 0, none⟩)) = Value.pointer (some ⟨gm, 0, none⟩) by rw [egm]]
  clear h3 hf3 hr3 hm3 hbel3 hbw3 ew3 hb1 hw1 hz1 egm eg egr
  go_loopg [] 20993 (fun gk wx => ∃ F b, StH w G gv gm g gr wx F b (400 * (F.cnt + if b then 0 else 1)) ∧ (b = false → ∀ i, i < n → Cls G F i) ∧ gk = 20992 - F.cnt + (if b then 1 else 0))
  case atStart => exact ⟨Fc.nil, true, ⟨H3.out.f, H3.out.r, H3.out.m, H3.out.ok, H3.out.bel, H3.out.l1, H3.out.l2, H3.out.l3, H3.out.snd, fun i => ⟨(H3.out.rm i).1, Int.le_trans (H3.out.rm i).2 (by omega)⟩⟩, (fun e => by cases e), by rw [Fc.nil_cnt]; rfl⟩
  case round =>
    obtain ⟨F0, b0, hst, hcl, egk⟩ := hrel
    cases b0 with
    | false =>
      have hr0 : wr.cell? ⟨gr, 0, none⟩ = some (.bool false) := Blk.cell hst.r 0
      have HI := Lib.hid (And.intro hst hcl)
      clear hst hcl
      go_wp2_with fail
      go_ret
      exact ⟨g, F0, rfl, hg, HI.out.1.f, HI.out.1.ok, know_of H.out.2.2.2 HI.out.1.snd (fun i hi => HI.out.2 (by first | rfl | trivial) i (by rw [← H.out.2.2.1]; exact hi)), fun i => ⟨(HI.out.1.rm i).1, by have h1 := (HI.out.1.rm i).2; have h2 := Fc.cnt_le F0; simp only [Bool.false_eq_true, if_false] at h1; omega⟩, HI.out.1.bel⟩
    | true =>
      have hr0 : wr.cell? ⟨gr, 0, none⟩ = some (.bool true) := Blk.cell hst.r 0
      have hfz : wr.frozen? ⟨gr, 0, none⟩ = false := Blk.frozen hst.r 0
      obtain ⟨c0, ec0⟩ : ∃ c0, F0.cnt = c0 := ⟨_, rfl⟩
      have hc0 : c0 ≤ 20992 := by rw [← ec0]; exact Fc.cnt_le F0
      have hb := hst.begin (Q := QC0 G 0) (fun j hj => by omega)
      rw [ec0] at hb egk
      have hm0 : (wr.setCell ⟨gr, 0, none⟩ (.bool false)).cell? ⟨gm, 1, none⟩ = some (.slice A n c) := by rw [Blk.cell hb.m, ← HB.out.2]; rfl
      obtain ⟨w4, ew4⟩ : ∃ W, wr.setCell ⟨gr, 0, none⟩ (.bool false) = W := ⟨_, rfl⟩
      rw [ew4] at hm0 hb
      have HI := Lib.hid hb
      have HE := Lib.hid egk
      have HM := Lib.hid hm0
      clear hst hcl hb egk
      go_wp2_with fail
      clear hm0 hr0 hfz ew4
      go_loopg [17] n (fun gi s17 wx => ∃ i F b, i ≤ n ∧ gi = n - i ∧ s17 = .int .i64 (i : Int) ∧ Stg w G gv gm g gr wx F b (400 * c0 + 8 * i) c0 (QC0 G i))
      case atStart => exact ⟨0, F0, false, by omega, by omega, rfl, HI.out.more (by simp)⟩
      case round =>
        obtain ⟨i, F, b, hin, egi, rfl, hst⟩ := hrel
        have HI1 := Lib.hid (And.intro hst egi)
        have HG := Lib.hid egi
        have hbel := hst.bel
        clear hst egi
        by_cases hlt : i < n
        · have hki : (i : Int) < (n : Int) := by omega
          have hk0 : (0 : Int) ≤ (i : Int) := by omega
          have hiL : i < L.length := by rw [H.out.2.1]; exact hlt
          obtain ⟨x, ex⟩ : ∃ x, L[i]? = some x := ⟨L[i], List.getElem?_eq_getElem hiL⟩
          obtain ⟨bf, of, rfl, hbl, hcl⟩ := fvs_form H.out.1.vs ex
          have hxm : x ∈ L := List.mem_of_getElem? ex
          have hbody := H.out.1.bs x hxm
          have hgx : G.fs.getD i f0 = x.f := by rw [← H.out.1.fs, List.getD_eq_getElem?_getD, List.getElem?_map, ex]; rfl
          have hxf : x.f ∈ G.fs := by rw [← hgx]; exact getD_mem (by rw [H.out.2.2.1]; exact hlt)
          have hbo := H.out.2.2.2.b x.f hxf
          have hno := H.out.2.2.2.f x.f hxf
          have hk16 := H.out.2.2.2.k
          obtain ⟨X, eX⟩ : ∃ X : Nat, x.f.n = (X : Int) := ⟨x.f.n.toNat, by omega⟩
          have hX16 : X < 16 := by omega
          obtain ⟨m, em⟩ : ∃ m, x.f.b.length = m := ⟨_, rfl⟩
          have hm8 : m ≤ 8 := by rw [← em]; exact hbo.2.1
          obtain ⟨cp, ecp⟩ : ∃ cp, x.c = cp := ⟨_, rfl⟩
          have hmc : m ≤ cp := by rw [← em, ← ecp]; exact hbody.cap
          have hcs := hcl wr hbel
          obtain ⟨xA, exA⟩ : ∃ a, x.A = a := ⟨_, rfl⟩
          have hvs : Vs w w.heap.size xA (svs x.f.b) := exA ▸ hbody.vs
          rw [eX, em, ecp, exA] at hcs
          have HX := Lib.hid (And.intro hvs (And.intro hgx (And.intro hxf (And.intro hbo (And.intro eX em)))))
          clear hcl ex hxm hbody hgx hxf hbo hno hk16 em ecp hiL hvs exA
          go_wp2_with (first
            | (with_reducible refine st_load 46 ?_; refine stopped ?_)
            | fail)
          refine go_on ?_
          refine wpList_load_at rfl 46 (.tmp 20) rfl bf (of + i * 2) rfl (formV (X : Int) xA m cp).toArray _ hcs Tryd.underlying46 rfl form_size ?_
          simp only [Act.put, List.setIfInBounds_toArray, List.set_cons_zero, List.set_cons_succ]
          refine wpList_alloc rfl 46 rfl _ form_zero ?_
          intro w8 hb8 hw8 hz8
          simp only [Act.put, List.setIfInBounds_toArray, List.set_cons_zero, List.set_cons_succ]
          go_wp2_with (first | (with_reducible refine st_store 46 ?_; refine stopped ?_) | fail)
          refine go_on ?_
          refine wpList_store_whole rfl 46 (.tmp 7) (.tmp 21) rfl wr.heap.size (formV (X : Int) xA m cp) rfl rfl 46 (formV 0 none 0 0) hb8 form_size rfl (form_one _ _ _ _) ?_
          intro w9 hx9 hg9
          refine wpList_nil ?_
          simp only [Act.put, List.setIfInBounds_toArray, List.set_cons_zero, List.set_cons_succ]
          have hb9 : Below wr.heap.size wr w9 := hw8.grown hg9 hw8.size (fun j e => by cases e; exact Nat.le_refl _)
          obtain ⟨gx, egx⟩ : ∃ gx, wr.heap.size = gx := ⟨_, rfl⟩
          have hst9 := HI1.out.1.below hb9
          rw [egx] at hx9 ⊢
          have H9 := Lib.hid (And.intro hst9 hx9)
          clear hb8 hw8 hz8 hg9 hb9 hst9 hx9 egx hcs
          have kX0 : ∀ W, Blk W gx 46 (formV (X : Int) xA m cp).toArray → W.cell? ⟨gx, 0, none⟩ = some (.int .i64 (X : Int)) := fun W h => Blk.cell h 0
          have kX1 : ∀ W, Blk W gx 46 (formV (X : Int) xA m cp).toArray → W.cell? ⟨gx, 1, none⟩ = some (.slice xA m cp) := fun W h => Blk.cell h 1
          have KX := Lib.hid (And.intro kX0 kX1)
          clear kX0 kX1
          have hX0 : (0 : Int) ≤ (X : Int) := by omega
          have hX16i : (X : Int) < 16 := by omega
          have hi48 : (i : Int) < 48 := by omega
          have kx1 : w9.cell? ⟨gx, 1, none⟩ = some (.slice xA m cp) := Blk.cell H9.out.2 1
          have HT := Lib.hid (gfHasText w9 g F H9.out.1.ok H9.out.1.f xA x.f.b m cp ((HX.out.1.below H9.out.1.bel).more H9.out.1.bel.size) HX.out.2.2.2.2.2 HX.out.2.2.2.1.1)
          go_upto_if 25 with (first
            | (go_at_call 39; refine stopped ?_)
            | fail)
          refine go_on ?_
          refine HT.out.mono ?_
          rintro e w10 ⟨rfl, hb10⟩
          obtain ⟨tv, etv⟩ : ∃ z, F.txtL x.f.b = z := ⟨_, rfl⟩
          rw [etv]
          have hst10 := H9.out.1.below hb10
          have hx10 := Blk.below H9.out.2 hb10 H9.out.2.lt
          clear kx1 hb10
          go_upto_if 25 with fail
          go_cut [] from 18 to 105 (fun wx => ∃ F b, Stg w G gv gm g gr wx F b (400 * c0 + 8 * i) c0 (QC1 G i) ∧ Blk wx gx 46 (formV (X : Int) xA m cp).toArray)
          case first =>
            rename_i J9 K9 hJ9 hK9
            cases tv
            · have h1 := hst10.s1no HX.out.2.1 etv
              have HR := Lib.hid (And.intro h1 hx10)
              clear hst10 hx10 h1 etv
              go_wp2_with fail
              go_meet
              case rel => exact ⟨F, b, HR.out.1, HR.out.2⟩
            · have H10 := Lib.hid (And.intro hst10 (And.intro hx10 etv))
              clear hst10 hx10 etv
              obtain ⟨kX0, kX1⟩ := KX.out
              go_wp2_with fail
              refine wp_region_held_drew (S := fun W : World => Blk W gx 46 (formV (X : Int) xA m cp).toArray) (by kernel_rfl) (Blk.drewN H10.out.2.1 1) (fun hHeld => ?_)
              refine wpAnyH_take (i := 0) (v := ?_) (List.getElem?_toArray.trans (List.getElem?_cons_zero)) (by kernel_rfl) (by kernel_rfl) (by kernel_rfl) (fun _ _ _ h => h) (Or.inl ⟨by rfl, ?_⟩) (by assumption) ?_
              rotate_left
              · intro w' hSw; (try dsimp only at hSw); go_simp; try with_reducible rfl
              try simp only [Act.put, List.setIfInBounds_toArray, List.set_cons_zero, List.set_cons_succ]
              refine wpAnyH_take (i := 1) (v := ?_) (List.getElem?_toArray.trans (List.getElem?_cons_succ.trans (List.getElem?_cons_zero))) (by kernel_rfl) (by kernel_rfl) (by kernel_rfl) (fun _ _ _ h => h) (Or.inl ⟨by rfl, ?_⟩) (by assumption) ?_
              rotate_left
              · intro w' hSw; (try dsimp only at hSw); go_simp; try with_reducible rfl
              try simp only [Act.put, List.setIfInBounds_toArray, List.set_cons_zero, List.set_cons_succ]
              refine wpAnyH_take (i := 2) (v := ?_) (List.getElem?_toArray.trans (List.getElem?_cons_succ.trans (List.getElem?_cons_succ.trans (List.getElem?_cons_zero)))) (by kernel_rfl) (by kernel_rfl) (by kernel_rfl) (fun _ _ _ h => h) (Or.inl ⟨by rfl, ?_⟩) (by assumption) ?_
              rotate_left
              · intro w' hSw; (try dsimp only at hSw); go_simp; try with_reducible rfl
              try simp only [Act.put, List.setIfInBounds_toArray, List.set_cons_zero, List.set_cons_succ]
              refine wpAnyH_take (i := 3) (v := ?_) (List.getElem?_toArray.trans (List.getElem?_cons_succ.trans (List.getElem?_cons_succ.trans (List.getElem?_cons_succ.trans (List.getElem?_cons_zero))))) (by kernel_rfl) (by kernel_rfl) (by kernel_rfl) (fun _ _ _ h => h) (Or.inl ⟨by rfl, ?_⟩) (by assumption) ?_
              rotate_left
              · intro w' hSw; (try dsimp only at hSw); go_simp; try with_reducible rfl
              try simp only [Act.put, List.setIfInBounds_toArray, List.set_cons_zero, List.set_cons_succ]
              refine wpAnyH_take (i := 4) (v := ?_) (List.getElem?_toArray.trans (List.getElem?_cons_succ.trans (List.getElem?_cons_succ.trans (List.getElem?_cons_succ.trans (List.getElem?_cons_succ.trans (List.getElem?_cons_zero)))))) (by kernel_rfl) (by kernel_rfl) (by kernel_rfl) (fun _ _ _ h => h) (Or.inl ⟨by rfl, ?_⟩) (by assumption) ?_
              rotate_left
              · intro w' hSw; (try dsimp only at hSw); go_simp; try with_reducible rfl
              try simp only [Act.put, List.setIfInBounds_toArray, List.set_cons_zero, List.set_cons_succ]
              refine wpAnyH_take (i := 5) (v := ?_) (List.getElem?_toArray.trans (List.getElem?_cons_succ.trans (List.getElem?_cons_succ.trans (List.getElem?_cons_succ.trans (List.getElem?_cons_succ.trans (List.getElem?_cons_succ.trans (List.getElem?_cons_zero))))))) (by kernel_rfl) (by kernel_rfl) (by kernel_rfl) (fun _ _ _ h => h) (Or.inl ⟨by rfl, ?_⟩) (by assumption) ?_
              rotate_left
              · intro w' hSw; (try dsimp only at hSw); go_simp; try with_reducible rfl
              try simp only [Act.put, List.setIfInBounds_toArray, List.set_cons_zero, List.set_cons_succ]
              refine wpAnyH_ready (rs := [6]) (by kernel_rfl) (by simp) ?_
              refine AllReadyH.cons (List.getElem?_toArray.trans (List.getElem?_cons_succ.trans (List.getElem?_cons_succ.trans (List.getElem?_cons_succ.trans (List.getElem?_cons_succ.trans (List.getElem?_cons_succ.trans (List.getElem?_cons_succ.trans (List.getElem?_cons_zero)))))))) (fun K hK => ?_) AllReadyH.nil
              go_simp
              go_at_call 40
              refine (gsSingle X (by omega) _).mono ?_
              rintro e w11 ⟨rfl, hb11⟩
              have hst11 := H10.out.1.below (below_undr hb11)
              have hx11 := Blk.below H10.out.2.1 (below_undr hb11) (Blk.lt H10.out.2.1)
              refine hK.out _ _ hx11 (fun hHeld => ?_)
              clear hK K
              try simp only [Act.put, List.setIfInBounds_toArray, List.set_cons_zero, List.set_cons_succ]
              refine wpAnyH_ready (rs := [7]) (by kernel_rfl) (by simp) ?_
              refine AllReadyH.cons (List.getElem?_toArray.trans (List.getElem?_cons_succ.trans (List.getElem?_cons_succ.trans (List.getElem?_cons_succ.trans (List.getElem?_cons_succ.trans (List.getElem?_cons_succ.trans (List.getElem?_cons_succ.trans (List.getElem?_cons_succ.trans (List.getElem?_cons_zero))))))))) (fun K hK => ?_) AllReadyH.nil
              go_simp
              go_at_call 37
              refine (gfGrow w11 F g gr b hst11.f hst11.r hst11.ok (0) (0) (by omega) rfl (S4.one X) (S4.btw_ok _ _)).mono ?_
              rintro e w12 hp
              have hx12 := hst11.keep hp.2.2.2 hx11 (by decide) (by decide)
              obtain ⟨F', b', hs12⟩ := hst11.s1 HX.out.2.2.1 HX.out.2.1 HX.out.2.2.2.2.1 hX16 HX.out.2.2.2.1.1 H10.out.2.2 hp
              obtain rfl := hp.1
              refine hK.out _ _ hx12 (fun hHeld => ?_)
              clear hK K
              try simp only [Act.put, List.setIfInBounds_toArray, List.set_cons_zero, List.set_cons_succ]
              refine wpAnyH_done (by kernel_rfl) ?_ _
              refine hK9 _ _ (Met.intro (hJ9 _ _ ?_))
              (repeat apply Exists.intro)
              refine ⟨?_, rfl⟩
              exact ⟨F', b', hs12, hx12⟩
          case rest =>
            clear HT hst10 hx10 etv tv w10 H9 HI1 F b w9 w8
            obtain ⟨F, b, hst, hx⟩ := hcut
            have H9 := Lib.hid (And.intro hst hx)
            clear hst hx
            have kx1 : wc.cell? ⟨gx, 1, none⟩ = some (.slice xA m cp) := Blk.cell H9.out.2 1
            have HT := Lib.hid (gfVanishes wc g F H9.out.1.ok H9.out.1.f xA x.f.b m cp ((HX.out.1.below H9.out.1.bel).more H9.out.1.bel.size) HX.out.2.2.2.2.2 HX.out.2.2.2.1.1)
            go_upto_if 37 with (first
              | (go_at_call 41; refine stopped ?_)
              | fail)
            refine go_on ?_
            refine HT.out.mono ?_
            rintro e w10 ⟨rfl, hb10⟩
            obtain ⟨tv, etv⟩ : ∃ z, F.vanL x.f.b = z := ⟨_, rfl⟩
            rw [etv]
            have hst10 := H9.out.1.below hb10
            have hx10 := Blk.below H9.out.2 hb10 H9.out.2.lt
            clear kx1 hb10
            go_upto_if 37 with fail
            go_cut [] from 18 to 105 (fun wx => ∃ F b, Stg w G gv gm g gr wx F b (400 * c0 + 8 * i + 8) c0 (QC2 G i) ∧ Blk wx gx 46 (formV (X : Int) xA m cp).toArray)
            case first =>
              rename_i J9 K9 hJ9 hK9
              cases tv
              · have h1 := (hst10.s2no HX.out.2.1 etv).more (M' := 400 * c0 + 8 * i + 8) (by omega)
                have HR := Lib.hid (And.intro h1 hx10)
                clear hst10 hx10 h1 etv
                go_wp2_with fail
                go_meet
                case rel => exact ⟨F, b, HR.out.1, HR.out.2⟩
              · have H10 := Lib.hid (And.intro hst10 (And.intro hx10 etv))
                clear hst10 hx10 etv
                obtain ⟨kX0, kX1⟩ := KX.out
                go_wp2_with fail
                refine wp_region_held_drew (S := fun W : World => Blk W gx 46 (formV (X : Int) xA m cp).toArray) (by kernel_rfl) (Blk.drewN H10.out.2.1 1) (fun hHeld => ?_)
                refine wpAnyH_take (i := 0) (v := ?_) (List.getElem?_toArray.trans (List.getElem?_cons_zero)) (by kernel_rfl) (by kernel_rfl) (by kernel_rfl) (fun _ _ _ h => h) (Or.inl ⟨by rfl, ?_⟩) (by assumption) ?_
                rotate_left
                · intro w' hSw; (try dsimp only at hSw); go_simp; try with_reducible rfl
                try simp only [Act.put, List.setIfInBounds_toArray, List.set_cons_zero, List.set_cons_succ]
                refine wpAnyH_take (i := 1) (v := ?_) (List.getElem?_toArray.trans (List.getElem?_cons_succ.trans (List.getElem?_cons_zero))) (by kernel_rfl) (by kernel_rfl) (by kernel_rfl) (fun _ _ _ h => h) (Or.inl ⟨by rfl, ?_⟩) (by assumption) ?_
                rotate_left
                · intro w' hSw; (try dsimp only at hSw); go_simp; try with_reducible rfl
                try simp only [Act.put, List.setIfInBounds_toArray, List.set_cons_zero, List.set_cons_succ]
                refine wpAnyH_take (i := 2) (v := ?_) (List.getElem?_toArray.trans (List.getElem?_cons_succ.trans (List.getElem?_cons_succ.trans (List.getElem?_cons_zero)))) (by kernel_rfl) (by kernel_rfl) (by kernel_rfl) (fun _ _ _ h => h) (Or.inl ⟨by rfl, ?_⟩) (by assumption) ?_
                rotate_left
                · intro w' hSw; (try dsimp only at hSw); go_simp; try with_reducible rfl
                try simp only [Act.put, List.setIfInBounds_toArray, List.set_cons_zero, List.set_cons_succ]
                refine wpAnyH_take (i := 3) (v := ?_) (List.getElem?_toArray.trans (List.getElem?_cons_succ.trans (List.getElem?_cons_succ.trans (List.getElem?_cons_succ.trans (List.getElem?_cons_zero))))) (by kernel_rfl) (by kernel_rfl) (by kernel_rfl) (fun _ _ _ h => h) (Or.inl ⟨by rfl, ?_⟩) (by assumption) ?_
                rotate_left
                · intro w' hSw; (try dsimp only at hSw); go_simp; try with_reducible rfl
                try simp only [Act.put, List.setIfInBounds_toArray, List.set_cons_zero, List.set_cons_succ]
                refine wpAnyH_take (i := 4) (v := ?_) (List.getElem?_toArray.trans (List.getElem?_cons_succ.trans (List.getElem?_cons_succ.trans (List.getElem?_cons_succ.trans (List.getElem?_cons_succ.trans (List.getElem?_cons_zero)))))) (by kernel_rfl) (by kernel_rfl) (by kernel_rfl) (fun _ _ _ h => h) (Or.inl ⟨by rfl, ?_⟩) (by assumption) ?_
                rotate_left
                · intro w' hSw; (try dsimp only at hSw); go_simp; try with_reducible rfl
                try simp only [Act.put, List.setIfInBounds_toArray, List.set_cons_zero, List.set_cons_succ]
                refine wpAnyH_take (i := 5) (v := ?_) (List.getElem?_toArray.trans (List.getElem?_cons_succ.trans (List.getElem?_cons_succ.trans (List.getElem?_cons_succ.trans (List.getElem?_cons_succ.trans (List.getElem?_cons_succ.trans (List.getElem?_cons_zero))))))) (by kernel_rfl) (by kernel_rfl) (by kernel_rfl) (fun _ _ _ h => h) (Or.inl ⟨by rfl, ?_⟩) (by assumption) ?_
                rotate_left
                · intro w' hSw; (try dsimp only at hSw); go_simp; try with_reducible rfl
                try simp only [Act.put, List.setIfInBounds_toArray, List.set_cons_zero, List.set_cons_succ]
                refine wpAnyH_take (i := 7) (v := ?_) (List.getElem?_toArray.trans (List.getElem?_cons_succ.trans (List.getElem?_cons_succ.trans (List.getElem?_cons_succ.trans (List.getElem?_cons_succ.trans (List.getElem?_cons_succ.trans (List.getElem?_cons_succ.trans (List.getElem?_cons_succ.trans (List.getElem?_cons_zero))))))))) (by kernel_rfl) (by kernel_rfl) (by kernel_rfl) (fun _ _ _ h => h) (Or.inl ⟨by rfl, ?_⟩) (by assumption) ?_
                rotate_left
                · intro w' hSw; (try dsimp only at hSw); go_simp; try with_reducible rfl
                try simp only [Act.put, List.setIfInBounds_toArray, List.set_cons_zero, List.set_cons_succ]
                refine wpAnyH_take (i := 8) (v := ?_) (List.getElem?_toArray.trans (List.getElem?_cons_succ.trans (List.getElem?_cons_succ.trans (List.getElem?_cons_succ.trans (List.getElem?_cons_succ.trans (List.getElem?_cons_succ.trans (List.getElem?_cons_succ.trans (List.getElem?_cons_succ.trans (List.getElem?_cons_succ.trans (List.getElem?_cons_zero)))))))))) (by kernel_rfl) (by kernel_rfl) (by kernel_rfl) (fun _ _ _ h => h) (Or.inl ⟨by rfl, ?_⟩) (by assumption) ?_
                rotate_left
                · intro w' hSw; (try dsimp only at hSw); go_simp; try with_reducible rfl
                try simp only [Act.put, List.setIfInBounds_toArray, List.set_cons_zero, List.set_cons_succ]
                refine wpAnyH_ready (rs := [6]) (by kernel_rfl) (by simp) ?_
                refine AllReadyH.cons (List.getElem?_toArray.trans (List.getElem?_cons_succ.trans (List.getElem?_cons_succ.trans (List.getElem?_cons_succ.trans (List.getElem?_cons_succ.trans (List.getElem?_cons_succ.trans (List.getElem?_cons_succ.trans (List.getElem?_cons_zero)))))))) (fun K hK => ?_) AllReadyH.nil
                go_simp
                go_at_call 42
                refine (gfRoomOf _ g F H10.out.1.ok (Blk.drewN H10.out.1.f 1) xA x.f.b m cp ((HX.out.1.below H10.out.1.drew.bel).more H10.out.1.drew.bel.size) HX.out.2.2.2.2.2 HX.out.2.2.2.1.1 (400 * c0 + 8 * i) (by omega) H10.out.1.rm (fun s hs => (vanL_nonneg H10.out.2.2 s hs).1)).mono ?_
                rintro e w11 ⟨rfl, hb11⟩
                have hst11 := H10.out.1.below (below_undr hb11)
                have hx11 := Blk.below H10.out.2.1 (below_undr hb11) H10.out.2.1.lt
                have hrl := hst11.rm_le (f := x.f) HX.out.2.2.2.1.2.1
                have hdp := hst11.dep HX.out.2.2.1 HX.out.2.2.2.1.1 H10.out.2.2
                obtain ⟨rr, err⟩ : ∃ z, rmF F.rm x.f.b = z := ⟨_, rfl⟩
                rw [err] at hrl hdp ⊢
                rw [HX.out.2.2.2.2.1] at hdp
                refine hK.out _ _ hx11 (fun hHeld => ?_)
                clear hK K
                try simp only [Act.put, List.setIfInBounds_toArray, List.set_cons_zero, List.set_cons_succ]
                refine wpAnyH_take (i := 9) (v := ?_) (List.getElem?_toArray.trans (List.getElem?_cons_succ.trans (List.getElem?_cons_succ.trans (List.getElem?_cons_succ.trans (List.getElem?_cons_succ.trans (List.getElem?_cons_succ.trans (List.getElem?_cons_succ.trans (List.getElem?_cons_succ.trans (List.getElem?_cons_succ.trans (List.getElem?_cons_succ.trans (List.getElem?_cons_zero))))))))))) (by kernel_rfl) (by kernel_rfl) (by kernel_rfl) (fun _ _ _ h => h) (Or.inl ⟨by rfl, ?_⟩) (by assumption) ?_
                rotate_left
                · intro w' hSw; (try dsimp only at hSw); go_simp; try with_reducible rfl
                try simp only [Act.put, List.setIfInBounds_toArray, List.set_cons_zero, List.set_cons_succ]
                refine wpAnyH_ready (rs := [10]) (by kernel_rfl) (by simp) ?_
                refine AllReadyH.cons (List.getElem?_toArray.trans (List.getElem?_cons_succ.trans (List.getElem?_cons_succ.trans (List.getElem?_cons_succ.trans (List.getElem?_cons_succ.trans (List.getElem?_cons_succ.trans (List.getElem?_cons_succ.trans (List.getElem?_cons_succ.trans (List.getElem?_cons_succ.trans (List.getElem?_cons_succ.trans (List.getElem?_cons_succ.trans (List.getElem?_cons_zero)))))))))))) (fun K hK => ?_) AllReadyH.nil
                have c11 : w11.cell? ⟨g, 328 + X, none⟩ = some (.int .i64 (F.room X)) := FcAt.rc hst11.f hst11.ok hX16 rfl
                have z11 : w11.frozen? ⟨g, 328 + X, none⟩ = false := Blk.frozen hst11.f _
                go_simp
                have hgne : gx ≠ g := Blk.apart hx11 hst11.f (by decide)
                have hst12 := hst11.room (Q' := QC1 G i) hX16 (o := 328 + X) rfl hrl hdp (fun hq => qc1_setR hq X (rr : Int))
                have hx12 := Blk.far hx11 (p := ⟨g, 328 + X, none⟩) hgne (.int .i64 (rr : Int))
                obtain ⟨w12, ew12⟩ : ∃ W, w11.setCell ⟨g, 328 + X, none⟩ (.int .i64 (rr : Int)) = W := ⟨_, rfl⟩
                rw [ew12] at hst12 hx12 ⊢
                refine hK.out _ _ hx12 (fun hHeld => ?_)
                clear hK K
                try simp only [Act.put, List.setIfInBounds_toArray, List.set_cons_zero, List.set_cons_succ]
                refine wpAnyH_done (by kernel_rfl) ?_ _
                have hvs : (F.setR X (rr : Int)).vanL x.f.b = true := H10.out.2.2
                have hds : Dep G (X : Int) ((F.setR X (rr : Int)).room X).toNat := by rw [Fc.room_setR hst11.ok hX16, if_pos rfl, Int.toNat_natCast]; exact hdp
                obtain ⟨F2, eF2⟩ : ∃ Z, F.setR X (rr : Int) = Z := ⟨_, rfl⟩
                rw [eF2] at hst12 hvs hds
                have H12 := Lib.hid (And.intro hst12 (And.intro hx12 (And.intro hvs hds)))
                clear hst11 hx11 hrl hdp err c11 z11 hgne hst12 hx12 ew12 hvs hds eF2 hb11
                go_wp2_with fail
                refine wp_region_held_drew (S := fun W : World => Blk W gx 46 (formV (X : Int) xA m cp).toArray) (by kernel_rfl) (Blk.drewN H12.out.2.1 1) (fun hHeld => ?_)
                refine wpAnyH_take (i := 0) (v := ?_) (List.getElem?_toArray.trans (List.getElem?_cons_zero)) (by kernel_rfl) (by kernel_rfl) (by kernel_rfl) (fun _ _ _ h => h) (Or.inl ⟨by rfl, ?_⟩) (by assumption) ?_
                rotate_left
                · intro w' hSw; (try dsimp only at hSw); go_simp; try with_reducible rfl
                try simp only [Act.put, List.setIfInBounds_toArray, List.set_cons_zero, List.set_cons_succ]
                refine wpAnyH_take (i := 1) (v := ?_) (List.getElem?_toArray.trans (List.getElem?_cons_succ.trans (List.getElem?_cons_zero))) (by kernel_rfl) (by kernel_rfl) (by kernel_rfl) (fun _ _ _ h => h) (Or.inl ⟨by rfl, ?_⟩) (by assumption) ?_
                rotate_left
                · intro w' hSw; (try dsimp only at hSw); go_simp; try with_reducible rfl
                try simp only [Act.put, List.setIfInBounds_toArray, List.set_cons_zero, List.set_cons_succ]
                refine wpAnyH_take (i := 2) (v := ?_) (List.getElem?_toArray.trans (List.getElem?_cons_succ.trans (List.getElem?_cons_succ.trans (List.getElem?_cons_zero)))) (by kernel_rfl) (by kernel_rfl) (by kernel_rfl) (fun _ _ _ h => h) (Or.inl ⟨by rfl, ?_⟩) (by assumption) ?_
                rotate_left
                · intro w' hSw; (try dsimp only at hSw); go_simp; try with_reducible rfl
                try simp only [Act.put, List.setIfInBounds_toArray, List.set_cons_zero, List.set_cons_succ]
                refine wpAnyH_take (i := 3) (v := ?_) (List.getElem?_toArray.trans (List.getElem?_cons_succ.trans (List.getElem?_cons_succ.trans (List.getElem?_cons_succ.trans (List.getElem?_cons_zero))))) (by kernel_rfl) (by kernel_rfl) (by kernel_rfl) (fun _ _ _ h => h) (Or.inl ⟨by rfl, ?_⟩) (by assumption) ?_
                rotate_left
                · intro w' hSw; (try dsimp only at hSw); go_simp; try with_reducible rfl
                try simp only [Act.put, List.setIfInBounds_toArray, List.set_cons_zero, List.set_cons_succ]
                refine wpAnyH_take (i := 4) (v := ?_) (List.getElem?_toArray.trans (List.getElem?_cons_succ.trans (List.getElem?_cons_succ.trans (List.getElem?_cons_succ.trans (List.getElem?_cons_succ.trans (List.getElem?_cons_zero)))))) (by kernel_rfl) (by kernel_rfl) (by kernel_rfl) (fun _ _ _ h => h) (Or.inl ⟨by rfl, ?_⟩) (by assumption) ?_
                rotate_left
                · intro w' hSw; (try dsimp only at hSw); go_simp; try with_reducible rfl
                try simp only [Act.put, List.setIfInBounds_toArray, List.set_cons_zero, List.set_cons_succ]
                refine wpAnyH_take (i := 5) (v := ?_) (List.getElem?_toArray.trans (List.getElem?_cons_succ.trans (List.getElem?_cons_succ.trans (List.getElem?_cons_succ.trans (List.getElem?_cons_succ.trans (List.getElem?_cons_succ.trans (List.getElem?_cons_zero))))))) (by kernel_rfl) (by kernel_rfl) (by kernel_rfl) (fun _ _ _ h => h) (Or.inl ⟨by rfl, ?_⟩) (by assumption) ?_
                rotate_left
                · intro w' hSw; (try dsimp only at hSw); go_simp; try with_reducible rfl
                try simp only [Act.put, List.setIfInBounds_toArray, List.set_cons_zero, List.set_cons_succ]
                refine wpAnyH_ready (rs := [6]) (by kernel_rfl) (by simp) ?_
                refine AllReadyH.cons (List.getElem?_toArray.trans (List.getElem?_cons_succ.trans (List.getElem?_cons_succ.trans (List.getElem?_cons_succ.trans (List.getElem?_cons_succ.trans (List.getElem?_cons_succ.trans (List.getElem?_cons_succ.trans (List.getElem?_cons_zero)))))))) (fun K hK => ?_) AllReadyH.nil
                go_simp
                go_at_call 40
                refine (gsSingle X (by omega) _).mono ?_
                rintro e w13 ⟨rfl, hb13⟩
                have hst13 := H12.out.1.below (below_undr hb13)
                have hx13 := Blk.below H12.out.2.1 (below_undr hb13) (Blk.lt H12.out.2.1)
                refine hK.out _ _ hx13 (fun hHeld => ?_)
                clear hK K
                try simp only [Act.put, List.setIfInBounds_toArray, List.set_cons_zero, List.set_cons_succ]
                refine wpAnyH_ready (rs := [7]) (by kernel_rfl) (by simp) ?_
                refine AllReadyH.cons (List.getElem?_toArray.trans (List.getElem?_cons_succ.trans (List.getElem?_cons_succ.trans (List.getElem?_cons_succ.trans (List.getElem?_cons_succ.trans (List.getElem?_cons_succ.trans (List.getElem?_cons_succ.trans (List.getElem?_cons_succ.trans (List.getElem?_cons_zero))))))))) (fun K hK => ?_) AllReadyH.nil
                go_simp
                go_at_call 37
                refine (gfGrow w13 F2 g gr b hst13.f hst13.r hst13.ok (1) (4) (by omega) rfl (S4.one X) (S4.btw_ok _ _)).mono ?_
                rintro e w14 hp
                have hx14 := hst13.keep hp.2.2.2 hx13 (by decide) (by decide)
                obtain ⟨F', b', hs14⟩ := hst13.s2 HX.out.2.2.1 HX.out.2.1 HX.out.2.2.2.2.1 hX16 HX.out.2.2.2.1.1 H12.out.2.2.1 H12.out.2.2.2 hp
                obtain rfl := hp.1
                refine hK.out _ _ hx14 (fun hHeld => ?_)
                clear hK K
                try simp only [Act.put, List.setIfInBounds_toArray, List.set_cons_zero, List.set_cons_succ]
                refine wpAnyH_done (by kernel_rfl) ?_ _
                refine hK9 _ _ (Met.intro (hJ9 _ _ ?_))
                (repeat apply Exists.intro)
                refine ⟨?_, rfl⟩
                exact ⟨F', b', hs14, hx14⟩
            case rest =>
              clear HT hst10 hx10 etv tv w10 H9 F b
              obtain ⟨F, b, hst, hx⟩ := hcut
              have H9 := Lib.hid (And.intro hst hx)
              clear hst hx
              obtain ⟨kX0, kX1⟩ := KX.out
              rename_i wd
              go_wp2_with fail
              refine wp_region_held_drew (S := fun W : World => Blk W gx 46 (formV (X : Int) xA m cp).toArray) (by kernel_rfl) (Blk.drewN H9.out.2 1) (fun hHeld => ?_)
              refine wpAnyH_take (i := 0) (v := ?_) (List.getElem?_toArray.trans (List.getElem?_cons_zero)) (by kernel_rfl) (by kernel_rfl) (by kernel_rfl) (fun _ _ _ h => h) (Or.inl ⟨by rfl, ?_⟩) (by assumption) ?_
              rotate_left
              · intro w' hSw; (try dsimp only at hSw); go_simp; try with_reducible rfl
              try simp only [Act.put, List.setIfInBounds_toArray, List.set_cons_zero, List.set_cons_succ]
              refine wpAnyH_take (i := 1) (v := ?_) (List.getElem?_toArray.trans (List.getElem?_cons_succ.trans (List.getElem?_cons_zero))) (by kernel_rfl) (by kernel_rfl) (by kernel_rfl) (fun _ _ _ h => h) (Or.inl ⟨by rfl, ?_⟩) (by assumption) ?_
              rotate_left
              · intro w' hSw; (try dsimp only at hSw); go_simp; try with_reducible rfl
              try simp only [Act.put, List.setIfInBounds_toArray, List.set_cons_zero, List.set_cons_succ]
              refine wpAnyH_take (i := 2) (v := ?_) (List.getElem?_toArray.trans (List.getElem?_cons_succ.trans (List.getElem?_cons_succ.trans (List.getElem?_cons_zero)))) (by kernel_rfl) (by kernel_rfl) (by kernel_rfl) (fun _ _ _ h => h) (Or.inl ⟨by rfl, ?_⟩) (by assumption) ?_
              rotate_left
              · intro w' hSw; (try dsimp only at hSw); go_simp; try with_reducible rfl
              try simp only [Act.put, List.setIfInBounds_toArray, List.set_cons_zero, List.set_cons_succ]
              refine wpAnyH_take (i := 3) (v := ?_) (List.getElem?_toArray.trans (List.getElem?_cons_succ.trans (List.getElem?_cons_succ.trans (List.getElem?_cons_succ.trans (List.getElem?_cons_zero))))) (by kernel_rfl) (by kernel_rfl) (by kernel_rfl) (fun _ _ _ h => h) (Or.inl ⟨by rfl, ?_⟩) (by assumption) ?_
              rotate_left
              · intro w' hSw; (try dsimp only at hSw); go_simp; try with_reducible rfl
              try simp only [Act.put, List.setIfInBounds_toArray, List.set_cons_zero, List.set_cons_succ]
              refine wpAnyH_take (i := 4) (v := ?_) (List.getElem?_toArray.trans (List.getElem?_cons_succ.trans (List.getElem?_cons_succ.trans (List.getElem?_cons_succ.trans (List.getElem?_cons_succ.trans (List.getElem?_cons_zero)))))) (by kernel_rfl) (by kernel_rfl) (by kernel_rfl) (fun _ _ _ h => h) (Or.inl ⟨by rfl, ?_⟩) (by assumption) ?_
              rotate_left
              · intro w' hSw; (try dsimp only at hSw); go_simp; try with_reducible rfl
              try simp only [Act.put, List.setIfInBounds_toArray, List.set_cons_zero, List.set_cons_succ]
              refine wpAnyH_take (i := 5) (v := ?_) (List.getElem?_toArray.trans (List.getElem?_cons_succ.trans (List.getElem?_cons_succ.trans (List.getElem?_cons_succ.trans (List.getElem?_cons_succ.trans (List.getElem?_cons_succ.trans (List.getElem?_cons_zero))))))) (by kernel_rfl) (by kernel_rfl) (by kernel_rfl) (fun _ _ _ h => h) (Or.inl ⟨by rfl, ?_⟩) (by assumption) ?_
              rotate_left
              · intro w' hSw; (try dsimp only at hSw); go_simp; try with_reducible rfl
              try simp only [Act.put, List.setIfInBounds_toArray, List.set_cons_zero, List.set_cons_succ]
              refine wpAnyH_take (i := 6) (v := ?_) (List.getElem?_toArray.trans (List.getElem?_cons_succ.trans (List.getElem?_cons_succ.trans (List.getElem?_cons_succ.trans (List.getElem?_cons_succ.trans (List.getElem?_cons_succ.trans (List.getElem?_cons_succ.trans (List.getElem?_cons_zero)))))))) (by kernel_rfl) (by kernel_rfl) (by kernel_rfl) (fun _ _ _ h => h) (Or.inl ⟨by rfl, ?_⟩) (by assumption) ?_
              rotate_left
              · intro w' hSw; (try dsimp only at hSw); go_simp; try with_reducible rfl
              try simp only [Act.put, List.setIfInBounds_toArray, List.set_cons_zero, List.set_cons_succ]
              refine wpAnyH_take (i := 7) (v := ?_) (List.getElem?_toArray.trans (List.getElem?_cons_succ.trans (List.getElem?_cons_succ.trans (List.getElem?_cons_succ.trans (List.getElem?_cons_succ.trans (List.getElem?_cons_succ.trans (List.getElem?_cons_succ.trans (List.getElem?_cons_succ.trans (List.getElem?_cons_zero))))))))) (by kernel_rfl) (by kernel_rfl) (by kernel_rfl) (fun _ _ _ h => h) (Or.inl ⟨by rfl, ?_⟩) (by assumption) ?_
              rotate_left
              · intro w' hSw; (try dsimp only at hSw); go_simp; try with_reducible rfl
              try simp only [Act.put, List.setIfInBounds_toArray, List.set_cons_zero, List.set_cons_succ]
              refine wpAnyH_take (i := 8) (v := ?_) (List.getElem?_toArray.trans (List.getElem?_cons_succ.trans (List.getElem?_cons_succ.trans (List.getElem?_cons_succ.trans (List.getElem?_cons_succ.trans (List.getElem?_cons_succ.trans (List.getElem?_cons_succ.trans (List.getElem?_cons_succ.trans (List.getElem?_cons_succ.trans (List.getElem?_cons_zero)))))))))) (by kernel_rfl) (by kernel_rfl) (by kernel_rfl) (fun _ _ _ h => h) (Or.inl ⟨by rfl, ?_⟩) (by assumption) ?_
              rotate_left
              · intro w' hSw; (try dsimp only at hSw); go_simp; try with_reducible rfl
              try simp only [Act.put, List.setIfInBounds_toArray, List.set_cons_zero, List.set_cons_succ]
              refine wpAnyH_ready (rs := [9]) (by kernel_rfl) (by simp) ?_
              refine AllReadyH.cons (List.getElem?_toArray.trans (List.getElem?_cons_succ.trans (List.getElem?_cons_succ.trans (List.getElem?_cons_succ.trans (List.getElem?_cons_succ.trans (List.getElem?_cons_succ.trans (List.getElem?_cons_succ.trans (List.getElem?_cons_succ.trans (List.getElem?_cons_succ.trans (List.getElem?_cons_succ.trans (List.getElem?_cons_zero))))))))))) (fun K hK => ?_) AllReadyH.nil
              go_simp
              go_at_call 43
              refine (gfStart _ g F H9.out.1.ok (Blk.drewN H9.out.1.f 1) xA x.f.b m cp ((HX.out.1.below H9.out.1.drew.bel).more H9.out.1.drew.bel.size) HX.out.2.2.2.2.2 HX.out.2.2.2.1.1).mono ?_
              rintro e w11 ⟨rfl, hb11⟩
              have hst11 := H9.out.1.below (below_undr hb11)
              have hx11 := Blk.below H9.out.2 (below_undr hb11) H9.out.2.lt
              refine hK.out _ _ hx11 (fun hHeld => ?_)
              clear hK K
              try simp only [Act.put, List.setIfInBounds_toArray, List.set_cons_zero, List.set_cons_succ]
              refine wpAnyH_ready (rs := [10]) (by kernel_rfl) (by simp) ?_
              refine AllReadyH.cons (List.getElem?_toArray.trans (List.getElem?_cons_succ.trans (List.getElem?_cons_succ.trans (List.getElem?_cons_succ.trans (List.getElem?_cons_succ.trans (List.getElem?_cons_succ.trans (List.getElem?_cons_succ.trans (List.getElem?_cons_succ.trans (List.getElem?_cons_succ.trans (List.getElem?_cons_succ.trans (List.getElem?_cons_succ.trans (List.getElem?_cons_zero)))))))))))) (fun K hK => ?_) AllReadyH.nil
              go_simp
              go_at_call 37
              refine (gfGrow w11 F g gr b hst11.f hst11.r hst11.ok (34 + i) (136 + i * 4) (by omega) (by omega) (F.stL S4.z x.f.b) (Fc.stL_ok hst11.ok _ _ S4.z_ok)).mono ?_
              rintro e w12 hp
              have hx12 := hst11.keep hp.2.2.2 hx11 (by decide) (by decide)
              obtain ⟨F', b', hs12⟩ := hst11.s3 H.out.2.2.2.n (by rw [H.out.2.2.1]; exact hlt) HX.out.2.1 HX.out.2.2.2.1.1 hp
              obtain rfl := hp.1
              refine hK.out _ _ hx12 (fun hHeld => ?_)
              clear hK K
              try simp only [Act.put, List.setIfInBounds_toArray, List.set_cons_zero, List.set_cons_succ]
              refine wpAnyH_done (by kernel_rfl) ?_ _
              have H12 := Lib.hid (And.intro hs12 hx12)
              clear hs12 hx12 hst11 hx11 hb11 hp
              go_wp2_with fail
              refine wp_region_held_drew (S := fun W : World => Blk W gx 46 (formV (X : Int) xA m cp).toArray) (by kernel_rfl) (Blk.drewN H12.out.2 1) (fun hHeld => ?_)
              refine wpAnyH_take (i := 0) (v := ?_) (List.getElem?_toArray.trans (List.getElem?_cons_zero)) (by kernel_rfl) (by kernel_rfl) (by kernel_rfl) (fun _ _ _ h => h) (Or.inl ⟨by rfl, ?_⟩) (by assumption) ?_
              rotate_left
              · intro w' hSw; (try dsimp only at hSw); go_simp; try with_reducible rfl
              try simp only [Act.put, List.setIfInBounds_toArray, List.set_cons_zero, List.set_cons_succ]
              refine wpAnyH_take (i := 1) (v := ?_) (List.getElem?_toArray.trans (List.getElem?_cons_succ.trans (List.getElem?_cons_zero))) (by kernel_rfl) (by kernel_rfl) (by kernel_rfl) (fun _ _ _ h => h) (Or.inl ⟨by rfl, ?_⟩) (by assumption) ?_
              rotate_left
              · intro w' hSw; (try dsimp only at hSw); go_simp; try with_reducible rfl
              try simp only [Act.put, List.setIfInBounds_toArray, List.set_cons_zero, List.set_cons_succ]
              refine wpAnyH_take (i := 2) (v := ?_) (List.getElem?_toArray.trans (List.getElem?_cons_succ.trans (List.getElem?_cons_succ.trans (List.getElem?_cons_zero)))) (by kernel_rfl) (by kernel_rfl) (by kernel_rfl) (fun _ _ _ h => h) (Or.inl ⟨by rfl, ?_⟩) (by assumption) ?_
              rotate_left
              · intro w' hSw; (try dsimp only at hSw); go_simp; try with_reducible rfl
              try simp only [Act.put, List.setIfInBounds_toArray, List.set_cons_zero, List.set_cons_succ]
              refine wpAnyH_take (i := 3) (v := ?_) (List.getElem?_toArray.trans (List.getElem?_cons_succ.trans (List.getElem?_cons_succ.trans (List.getElem?_cons_succ.trans (List.getElem?_cons_zero))))) (by kernel_rfl) (by kernel_rfl) (by kernel_rfl) (fun _ _ _ h => h) (Or.inl ⟨by rfl, ?_⟩) (by assumption) ?_
              rotate_left
              · intro w' hSw; (try dsimp only at hSw); go_simp; try with_reducible rfl
              try simp only [Act.put, List.setIfInBounds_toArray, List.set_cons_zero, List.set_cons_succ]
              refine wpAnyH_take (i := 4) (v := ?_) (List.getElem?_toArray.trans (List.getElem?_cons_succ.trans (List.getElem?_cons_succ.trans (List.getElem?_cons_succ.trans (List.getElem?_cons_succ.trans (List.getElem?_cons_zero)))))) (by kernel_rfl) (by kernel_rfl) (by kernel_rfl) (fun _ _ _ h => h) (Or.inl ⟨by rfl, ?_⟩) (by assumption) ?_
              rotate_left
              · intro w' hSw; (try dsimp only at hSw); go_simp; try with_reducible rfl
              try simp only [Act.put, List.setIfInBounds_toArray, List.set_cons_zero, List.set_cons_succ]
              refine wpAnyH_take (i := 5) (v := ?_) (List.getElem?_toArray.trans (List.getElem?_cons_succ.trans (List.getElem?_cons_succ.trans (List.getElem?_cons_succ.trans (List.getElem?_cons_succ.trans (List.getElem?_cons_succ.trans (List.getElem?_cons_zero))))))) (by kernel_rfl) (by kernel_rfl) (by kernel_rfl) (fun _ _ _ h => h) (Or.inl ⟨by rfl, ?_⟩) (by assumption) ?_
              rotate_left
              · intro w' hSw; (try dsimp only at hSw); go_simp; try with_reducible rfl
              try simp only [Act.put, List.setIfInBounds_toArray, List.set_cons_zero, List.set_cons_succ]
              refine wpAnyH_take (i := 6) (v := ?_) (List.getElem?_toArray.trans (List.getElem?_cons_succ.trans (List.getElem?_cons_succ.trans (List.getElem?_cons_succ.trans (List.getElem?_cons_succ.trans (List.getElem?_cons_succ.trans (List.getElem?_cons_succ.trans (List.getElem?_cons_zero)))))))) (by kernel_rfl) (by kernel_rfl) (by kernel_rfl) (fun _ _ _ h => h) (Or.inl ⟨by rfl, ?_⟩) (by assumption) ?_
              rotate_left
              · intro w' hSw; (try dsimp only at hSw); go_simp; try with_reducible rfl
              try simp only [Act.put, List.setIfInBounds_toArray, List.set_cons_zero, List.set_cons_succ]
              refine wpAnyH_take (i := 7) (v := ?_) (List.getElem?_toArray.trans (List.getElem?_cons_succ.trans (List.getElem?_cons_succ.trans (List.getElem?_cons_succ.trans (List.getElem?_cons_succ.trans (List.getElem?_cons_succ.trans (List.getElem?_cons_succ.trans (List.getElem?_cons_succ.trans (List.getElem?_cons_zero))))))))) (by kernel_rfl) (by kernel_rfl) (by kernel_rfl) (fun _ _ _ h => h) (Or.inl ⟨by rfl, ?_⟩) (by assumption) ?_
              rotate_left
              · intro w' hSw; (try dsimp only at hSw); go_simp; try with_reducible rfl
              try simp only [Act.put, List.setIfInBounds_toArray, List.set_cons_zero, List.set_cons_succ]
              refine wpAnyH_take (i := 8) (v := ?_) (List.getElem?_toArray.trans (List.getElem?_cons_succ.trans (List.getElem?_cons_succ.trans (List.getElem?_cons_succ.trans (List.getElem?_cons_succ.trans (List.getElem?_cons_succ.trans (List.getElem?_cons_succ.trans (List.getElem?_cons_succ.trans (List.getElem?_cons_succ.trans (List.getElem?_cons_zero)))))))))) (by kernel_rfl) (by kernel_rfl) (by kernel_rfl) (fun _ _ _ h => h) (Or.inl ⟨by rfl, ?_⟩) (by assumption) ?_
              rotate_left
              · intro w' hSw; (try dsimp only at hSw); go_simp; try with_reducible rfl
              try simp only [Act.put, List.setIfInBounds_toArray, List.set_cons_zero, List.set_cons_succ]
              refine wpAnyH_take (i := 9) (v := ?_) (List.getElem?_toArray.trans (List.getElem?_cons_succ.trans (List.getElem?_cons_succ.trans (List.getElem?_cons_succ.trans (List.getElem?_cons_succ.trans (List.getElem?_cons_succ.trans (List.getElem?_cons_succ.trans (List.getElem?_cons_succ.trans (List.getElem?_cons_succ.trans (List.getElem?_cons_succ.trans (List.getElem?_cons_zero))))))))))) (by kernel_rfl) (by kernel_rfl) (by kernel_rfl) (fun _ _ _ h => h) (Or.inl ⟨by rfl, ?_⟩) (by assumption) ?_
              rotate_left
              · intro w' hSw; (try dsimp only at hSw); go_simp; try with_reducible rfl
              try simp only [Act.put, List.setIfInBounds_toArray, List.set_cons_zero, List.set_cons_succ]
              refine wpAnyH_take (i := 10) (v := ?_) (List.getElem?_toArray.trans (List.getElem?_cons_succ.trans (List.getElem?_cons_succ.trans (List.getElem?_cons_succ.trans (List.getElem?_cons_succ.trans (List.getElem?_cons_succ.trans (List.getElem?_cons_succ.trans (List.getElem?_cons_succ.trans (List.getElem?_cons_succ.trans (List.getElem?_cons_succ.trans (List.getElem?_cons_succ.trans (List.getElem?_cons_zero)))))))))))) (by kernel_rfl) (by kernel_rfl) (by kernel_rfl) (fun _ _ _ h => h) (Or.inl ⟨by rfl, ?_⟩) (by assumption) ?_
              rotate_left
              · intro w' hSw; (try dsimp only at hSw); go_simp; try with_reducible rfl
              try simp only [Act.put, List.setIfInBounds_toArray, List.set_cons_zero, List.set_cons_succ]
              refine wpAnyH_take (i := 11) (v := ?_) (List.getElem?_toArray.trans (List.getElem?_cons_succ.trans (List.getElem?_cons_succ.trans (List.getElem?_cons_succ.trans (List.getElem?_cons_succ.trans (List.getElem?_cons_succ.trans (List.getElem?_cons_succ.trans (List.getElem?_cons_succ.trans (List.getElem?_cons_succ.trans (List.getElem?_cons_succ.trans (List.getElem?_cons_succ.trans (List.getElem?_cons_succ.trans (List.getElem?_cons_zero))))))))))))) (by kernel_rfl) (by kernel_rfl) (by kernel_rfl) (fun _ _ _ h => h) (Or.inl ⟨by rfl, ?_⟩) (by assumption) ?_
              rotate_left
              · intro w' hSw; (try dsimp only at hSw); go_simp; try with_reducible rfl
              try simp only [Act.put, List.setIfInBounds_toArray, List.set_cons_zero, List.set_cons_succ]
              refine wpAnyH_ready (rs := [12]) (by kernel_rfl) (by simp) ?_
              refine AllReadyH.cons (List.getElem?_toArray.trans (List.getElem?_cons_succ.trans (List.getElem?_cons_succ.trans (List.getElem?_cons_succ.trans (List.getElem?_cons_succ.trans (List.getElem?_cons_succ.trans (List.getElem?_cons_succ.trans (List.getElem?_cons_succ.trans (List.getElem?_cons_succ.trans (List.getElem?_cons_succ.trans (List.getElem?_cons_succ.trans (List.getElem?_cons_succ.trans (List.getElem?_cons_succ.trans (List.getElem?_cons_zero)))))))))))))) (fun K hK => ?_) AllReadyH.nil
              refine wp_load_ag 56 (.tmp 78) rfl g (136 + i * 4) rfl (F'.at (34 + i)).cells.toArray _ (FcAt.cs (Blk.drewN H12.out.1.f 1) H12.out.1.ok (by omega) (by omega)) Tryd.underlying56 rfl set_size ?_
              refine hK.out _ _ hHeld (fun hHeld => ?_)
              clear hK K
              try simp only [Act.put, List.setIfInBounds_toArray, List.set_cons_zero, List.set_cons_succ]
              refine wpAnyH_ready (rs := [13]) (by kernel_rfl) (by simp) ?_
              refine AllReadyH.cons (List.getElem?_toArray.trans (List.getElem?_cons_succ.trans (List.getElem?_cons_succ.trans (List.getElem?_cons_succ.trans (List.getElem?_cons_succ.trans (List.getElem?_cons_succ.trans (List.getElem?_cons_succ.trans (List.getElem?_cons_succ.trans (List.getElem?_cons_succ.trans (List.getElem?_cons_succ.trans (List.getElem?_cons_succ.trans (List.getElem?_cons_succ.trans (List.getElem?_cons_succ.trans (List.getElem?_cons_succ.trans (List.getElem?_cons_zero))))))))))))))) (fun K hK => ?_) AllReadyH.nil
              go_simp
              go_at_call 37
              refine (gfGrow _ F' g gr b' H12.out.1.drew.f H12.out.1.drew.r H12.out.1.ok (2 + X) (8 + X * 4) (by omega) (by omega) (F'.at (34 + i)) (H12.out.1.ok.at _)).mono ?_
              rintro e w13 hp
              have hx13 := H12.out.1.drew.keep hp.2.2.2 (Blk.drewN H12.out.2 1) (by decide) (by decide)
              obtain ⟨F2, b2, hs13⟩ := H12.out.1.drew.s4 (by rw [H.out.2.2.1]; exact hlt) HX.out.2.2.1 HX.out.2.1 HX.out.2.2.2.2.1 hX16 hp
              obtain rfl := hp.1
              refine hK.out _ _ hx13 (fun hHeld => ?_)
              clear hK K
              try simp only [Act.put, List.setIfInBounds_toArray, List.set_cons_zero, List.set_cons_succ]
              refine wpAnyH_done (by kernel_rfl) ?_ _
              have H13 := Lib.hid (And.intro hs13 hx13)
              have kx2 : w13.cell? ⟨gx, 1, none⟩ = some (.slice xA m cp) := Blk.cell hx13 1
              clear hs13 hx13 H12 hp
              go_wp2_with fail
              clear kx2
              go_loopg [84] m (fun gq s84 wx => ∃ q F b, q ≤ m ∧ gq = m - q ∧ s84 = .int .i64 (q : Int) ∧ Stg w G gv gm g gr wx F b (400 * c0 + 8 * i + 8) c0 (QC5 G i q) ∧ Blk wx gx 46 (formV (X : Int) xA m cp).toArray)
              case atStart => exact ⟨0, F2, b2, by omega, by omega, rfl, H13.out.1.imp fun hq => ⟨hq, fun p hp => by omega⟩, H13.out.2⟩
              case round =>
                obtain ⟨q, F3, b3, hqm, egq, rfl, hst, hx⟩ := hrel
                have H14 := Lib.hid (And.intro hst hx)
                have HQ := Lib.hid egq
                have hbelq := hst.bel
                clear hst hx egq
                by_cases hqlt : q < m
                · have hqi : (q : Int) < (m : Int) := by omega
                  have hq0 : (0 : Int) ≤ (q : Int) := by omega
                  have hqb : q < x.f.b.length := by rw [HX.out.2.2.2.2.2]; exact hqlt
                  obtain ⟨bo, oo, rfl, hbol, hcq⟩ := svs_cells HX.out.1 hqb
                  have hsg := HX.out.2.2.2.1.1.get hqb
                  have hcs := hcq wr hbelq
                  obtain ⟨y, ey⟩ : ∃ y, x.f.b.getD q ⟨0, 0, 0⟩ = y := ⟨_, rfl⟩
                  rw [ey] at hcs hsg
                  have HY := Lib.hid (And.intro hsg (And.intro ey hqb))
                  clear hcq hsg ey hqb
                  go_wp2_with (first
                    | (with_reducible refine st_load 42 ?_; refine stopped ?_)
                    | fail)
                  refine go_on ?_
                  refine wpList_load_at rfl 42 (.tmp 87) rfl bo (oo + q * 3) rfl y.cells.toArray _ hcs Tryd.underlying42 rfl sg_size4 ?_
                  simp only [Act.put, List.setIfInBounds_toArray, List.set_cons_zero, List.set_cons_succ]
                  refine wpList_alloc rfl 42 rfl _ sg_zero ?_
                  intro w8 hb8 hw8 hz8
                  simp only [Act.put, List.setIfInBounds_toArray, List.set_cons_zero, List.set_cons_succ]
                  go_wp2_with (first | (with_reducible refine st_store 42 ?_; refine stopped ?_) | fail)
                  refine go_on ?_
                  refine wpList_store_whole rfl 42 (.tmp 9) (.tmp 88) rfl wr.heap.size y.cells rfl rfl 42 (Sg.cells ⟨0, 0, 0⟩) hb8 sg_size4 rfl (sg_one4 _) ?_
                  intro w9 hy9 hg9
                  refine wpList_nil ?_
                  simp only [Act.put, List.setIfInBounds_toArray, List.set_cons_zero, List.set_cons_succ]
                  have hb9 : Below wr.heap.size wr w9 := hw8.grown hg9 hw8.size (fun j e => by cases e; exact Nat.le_refl _)
                  obtain ⟨gy, egy⟩ : ∃ gy, wr.heap.size = gy := ⟨_, rfl⟩
                  have hst9 := H14.out.1.below hb9
                  have hx9 := Blk.below H14.out.2 hb9 H14.out.2.lt
                  rw [egy] at hy9 ⊢
                  have H15 := Lib.hid (And.intro hst9 (And.intro hx9 hy9))
                  clear hb8 hw8 hz8 hg9 hb9 hst9 hx9 hy9 egy hcs
                  obtain ⟨yn, eyn⟩ : ∃ z, y.n = z := ⟨_, rfl⟩
                  have kY0 : ∀ W, Blk W gy 42 y.cells.toArray → W.cell? ⟨gy, 0, none⟩ = some (.int .i64 yn) := fun W h => by rw [← eyn]; exact Blk.cell h 0
                  have jy := kY0 w9 H15.out.2.2
                  have HN := Lib.hid eyn
                  clear eyn
                  by_cases hneg : yn < 0
                  · have hnn : ¬ (0 : Int) ≤ yn := by omega
                    have hs5 := H15.out.1.s5no HX.out.2.1 (q := q) (by rw [HY.out.2.1, HN.out]; exact hneg)
                    have HR := Lib.hid (And.intro hs5 H15.out.2.1)
                    clear hs5
                    go_wp2_with fail
                    go_roundg (m - (q + 1))
                    case measure => have := HQ.out; omega
                    case rel => exact ⟨q + 1, F3, b3, by omega, rfl, by go_num, HR.out.1, HR.out.2⟩
                  · obtain ⟨Y, rfl⟩ : ∃ Y : Nat, yn = (Y : Int) := ⟨yn.toNat, by omega⟩
                    have hY0 : (0 : Int) ≤ (Y : Int) := by omega
                    have hY16 : Y < 16 := by have := HY.out.1.1; rw [HN.out] at this; omega
                    have hY16i : (Y : Int) < 16 := by omega
                    go_wp2_with fail
                    refine wp_region_held_drew (S := fun W : World => Blk W gx 46 (formV (X : Int) (some ⟨bo, oo, none⟩) m cp).toArray ∧ Blk W gy 42 y.cells.toArray) (by kernel_rfl) ⟨Blk.drewN H15.out.2.1 1, Blk.drewN H15.out.2.2 1⟩ (fun hHeld => ?_)
                    refine wpAnyH_take (i := 0) (v := ?_) (List.getElem?_toArray.trans (List.getElem?_cons_zero)) (by kernel_rfl) (by kernel_rfl) (by kernel_rfl) (fun _ _ _ h => h) (Or.inl ⟨by rfl, ?_⟩) (by assumption) ?_
                    rotate_left
                    · intro w' hSw; (try dsimp only at hSw); go_simp; try with_reducible rfl
                    try simp only [Act.put, List.setIfInBounds_toArray, List.set_cons_zero, List.set_cons_succ]
                    refine wpAnyH_take (i := 1) (v := ?_) (List.getElem?_toArray.trans (List.getElem?_cons_succ.trans (List.getElem?_cons_zero))) (by kernel_rfl) (by kernel_rfl) (by kernel_rfl) (fun _ _ _ h => h) (Or.inl ⟨by rfl, ?_⟩) (by assumption) ?_
                    rotate_left
                    · intro w' hSw; (try dsimp only at hSw); go_simp; try with_reducible rfl
                    try simp only [Act.put, List.setIfInBounds_toArray, List.set_cons_zero, List.set_cons_succ]
                    refine wpAnyH_take (i := 2) (v := ?_) (List.getElem?_toArray.trans (List.getElem?_cons_succ.trans (List.getElem?_cons_succ.trans (List.getElem?_cons_zero)))) (by kernel_rfl) (by kernel_rfl) (by kernel_rfl) (fun _ _ _ h => h) (Or.inl ⟨by rfl, ?_⟩) (by assumption) ?_
                    rotate_left
                    · intro w' hSw; (try dsimp only at hSw); go_simp; try with_reducible rfl
                    try simp only [Act.put, List.setIfInBounds_toArray, List.set_cons_zero, List.set_cons_succ]
                    refine wpAnyH_take (i := 3) (v := ?_) (List.getElem?_toArray.trans (List.getElem?_cons_succ.trans (List.getElem?_cons_succ.trans (List.getElem?_cons_succ.trans (List.getElem?_cons_zero))))) (by kernel_rfl) (by kernel_rfl) (by kernel_rfl) (fun _ _ _ h => h) (Or.inl ⟨by rfl, ?_⟩) (by assumption) ?_
                    rotate_left
                    · intro w' hSw; (try dsimp only at hSw); go_simp; try with_reducible rfl
                    try simp only [Act.put, List.setIfInBounds_toArray, List.set_cons_zero, List.set_cons_succ]
                    refine wpAnyH_take (i := 4) (v := ?_) (List.getElem?_toArray.trans (List.getElem?_cons_succ.trans (List.getElem?_cons_succ.trans (List.getElem?_cons_succ.trans (List.getElem?_cons_succ.trans (List.getElem?_cons_zero)))))) (by kernel_rfl) (by kernel_rfl) (by kernel_rfl) (fun _ _ _ h => h) (Or.inl ⟨by rfl, ?_⟩) (by assumption) ?_
                    rotate_left
                    · intro w' hSw; (try dsimp only at hSw); go_simp; try with_reducible rfl
                    try simp only [Act.put, List.setIfInBounds_toArray, List.set_cons_zero, List.set_cons_succ]
                    refine wpAnyH_take (i := 5) (v := ?_) (List.getElem?_toArray.trans (List.getElem?_cons_succ.trans (List.getElem?_cons_succ.trans (List.getElem?_cons_succ.trans (List.getElem?_cons_succ.trans (List.getElem?_cons_succ.trans (List.getElem?_cons_zero))))))) (by kernel_rfl) (by kernel_rfl) (by kernel_rfl) (fun _ _ _ h => h) (Or.inl ⟨by rfl, ?_⟩) (by assumption) ?_
                    rotate_left
                    · intro w' hSw; (try dsimp only at hSw); go_simp; try with_reducible rfl
                    try simp only [Act.put, List.setIfInBounds_toArray, List.set_cons_zero, List.set_cons_succ]
                    refine wpAnyH_take (i := 6) (v := ?_) (List.getElem?_toArray.trans (List.getElem?_cons_succ.trans (List.getElem?_cons_succ.trans (List.getElem?_cons_succ.trans (List.getElem?_cons_succ.trans (List.getElem?_cons_succ.trans (List.getElem?_cons_succ.trans (List.getElem?_cons_zero)))))))) (by kernel_rfl) (by kernel_rfl) (by kernel_rfl) (fun _ _ _ h => h) (Or.inl ⟨by rfl, ?_⟩) (by assumption) ?_
                    rotate_left
                    · intro w' hSw; (try dsimp only at hSw); go_simp; try with_reducible rfl
                    try simp only [Act.put, List.setIfInBounds_toArray, List.set_cons_zero, List.set_cons_succ]
                    refine wpAnyH_take (i := 7) (v := ?_) (List.getElem?_toArray.trans (List.getElem?_cons_succ.trans (List.getElem?_cons_succ.trans (List.getElem?_cons_succ.trans (List.getElem?_cons_succ.trans (List.getElem?_cons_succ.trans (List.getElem?_cons_succ.trans (List.getElem?_cons_succ.trans (List.getElem?_cons_zero))))))))) (by kernel_rfl) (by kernel_rfl) (by kernel_rfl) (fun _ _ _ h => h) (Or.inl ⟨by rfl, ?_⟩) (by assumption) ?_
                    rotate_left
                    · intro w' hSw; (try dsimp only at hSw); go_simp; try with_reducible rfl
                    try simp only [Act.put, List.setIfInBounds_toArray, List.set_cons_zero, List.set_cons_succ]
                    refine wpAnyH_take (i := 8) (v := .agg (formV (X : Int) (some ⟨bo, oo, none⟩) m cp).toArray) (List.getElem?_toArray.trans (List.getElem?_cons_succ.trans (List.getElem?_cons_succ.trans (List.getElem?_cons_succ.trans (List.getElem?_cons_succ.trans (List.getElem?_cons_succ.trans (List.getElem?_cons_succ.trans (List.getElem?_cons_succ.trans (List.getElem?_cons_succ.trans (List.getElem?_cons_zero)))))))))) (by kernel_rfl) (by kernel_rfl) (by kernel_rfl) (fun _ _ _ h => h) (Or.inl ⟨by rfl, ?_⟩) (by assumption) ?_
                    · intro w' hSw; exact exec_load_ag 46 (.tmp 7) rfl gx (0) rfl (formV (X : Int) (some ⟨bo, oo, none⟩) m cp).toArray _ (Blk.cells hSw.1) Tryd.underlying46 rfl form_size
                    try simp only [Act.put, List.setIfInBounds_toArray, List.set_cons_zero, List.set_cons_succ]
                    refine wpAnyH_take (i := 9) (v := ?_) (List.getElem?_toArray.trans (List.getElem?_cons_succ.trans (List.getElem?_cons_succ.trans (List.getElem?_cons_succ.trans (List.getElem?_cons_succ.trans (List.getElem?_cons_succ.trans (List.getElem?_cons_succ.trans (List.getElem?_cons_succ.trans (List.getElem?_cons_succ.trans (List.getElem?_cons_succ.trans (List.getElem?_cons_zero))))))))))) (by kernel_rfl) (by kernel_rfl) (by kernel_rfl) (fun _ _ _ h => h) (Or.inl ⟨by rfl, ?_⟩) (by assumption) ?_
                    rotate_left
                    · intro w' hSw; (try dsimp only at hSw); go_simp; try with_reducible rfl
                    try simp only [Act.put, List.setIfInBounds_toArray, List.set_cons_zero, List.set_cons_succ]
                    refine wpAnyH_ready (rs := [10]) (by kernel_rfl) (by simp) ?_
                    refine AllReadyH.cons (List.getElem?_toArray.trans (List.getElem?_cons_succ.trans (List.getElem?_cons_succ.trans (List.getElem?_cons_succ.trans (List.getElem?_cons_succ.trans (List.getElem?_cons_succ.trans (List.getElem?_cons_succ.trans (List.getElem?_cons_succ.trans (List.getElem?_cons_succ.trans (List.getElem?_cons_succ.trans (List.getElem?_cons_succ.trans (List.getElem?_cons_zero)))))))))))) (fun K hK => ?_) AllReadyH.nil
                    go_simp
                    go_at_call 44
                    refine (gfAfter _ g F3 H15.out.1.ok (Blk.drewN H15.out.1.f 1) bo oo x.f.b m cp ((HX.out.1.below H15.out.1.drew.bel).more H15.out.1.drew.bel.size) HX.out.2.2.2.2.2 HX.out.2.2.2.1.1 X q hX16 hqlt hmc).mono ?_
                    rintro e w11 ⟨rfl, hb11⟩
                    have hst11 := H15.out.1.below (below_undr hb11)
                    have hx11 := Blk.below H15.out.2.1 (below_undr hb11) H15.out.2.1.lt
                    have hy11 := Blk.below H15.out.2.2 (below_undr hb11) H15.out.2.2.lt
                    refine hK.out _ _ ⟨hx11, hy11⟩ (fun hHeld => ?_)
                    clear hK K
                    try simp only [Act.put, List.setIfInBounds_toArray, List.set_cons_zero, List.set_cons_succ]
                    refine wpAnyH_ready (rs := [11]) (by kernel_rfl) (by simp) ?_
                    refine AllReadyH.cons (List.getElem?_toArray.trans (List.getElem?_cons_succ.trans (List.getElem?_cons_succ.trans (List.getElem?_cons_succ.trans (List.getElem?_cons_succ.trans (List.getElem?_cons_succ.trans (List.getElem?_cons_succ.trans (List.getElem?_cons_succ.trans (List.getElem?_cons_succ.trans (List.getElem?_cons_succ.trans (List.getElem?_cons_succ.trans (List.getElem?_cons_succ.trans (List.getElem?_cons_zero))))))))))))) (fun K hK => ?_) AllReadyH.nil
                    go_simp
                    go_at_call 37
                    refine (gfGrow _ F3 g gr b3 hst11.f hst11.r hst11.ok (18 + Y) (72 + Y * 4) (by omega) (by omega) (F3.aft X (x.f.b.drop (q + 1))) (Fc.aft_ok hst11.ok _ _)).mono ?_
                    rintro e w12 hp
                    have hx12 := hst11.keep hp.2.2.2 hx11 (by decide) (by decide)
                    have hy12 := hst11.keep hp.2.2.2 hy11 (by decide) (by decide)
                    obtain ⟨F4, b4, hs12⟩ := hst11.s5 HX.out.2.2.1 HX.out.2.1 HX.out.2.2.2.2.1 hX16 HX.out.2.2.2.1.1 HY.out.2.2 (by rw [HY.out.2.1]; exact HN.out) hY16 hp
                    obtain rfl := hp.1
                    refine hK.out _ _ ⟨hx12, hy12⟩ (fun hHeld => ?_)
                    clear hK K
                    try simp only [Act.put, List.setIfInBounds_toArray, List.set_cons_zero, List.set_cons_succ]
                    refine wpAnyH_done (by kernel_rfl) ?_ _
                    have HR := Lib.hid (And.intro hs12 hx12)
                    clear hs12 hx12 hy12 hst11 hx11 hy11 hb11 hp
                    go_wp2_with fail
                    go_roundg (m - (q + 1))
                    case measure => have := HQ.out; omega
                    case rel => exact ⟨q + 1, F4, b4, by omega, rfl, by go_num, HR.out.1, HR.out.2⟩
                · obtain rfl : q = m := by omega
                  have hqq : ¬ (q : Int) < (q : Int) := by omega
                  have hs6 : Stg w G gv gm g gr wr F3 b3 (400 * c0 + 8 * i + 8) c0 (QC0 G (i + 1)) := H14.out.1.imp fun hq => qc_end (by rw [HX.out.2.1, HX.out.2.2.2.2.2]; exact Nat.le_refl _) hq
                  have HR := Lib.hid hs6
                  clear hs6
                  go_wp2_with fail
                  go_roundg (n - (i + 1))
                  case measure => have := HG.out; omega
                  case rel => exact ⟨i + 1, F3, b3, by omega, rfl, by go_num, HR.out.more (by omega)⟩
        · obtain rfl : i = n := by omega
          have hnn : ¬ (i : Int) < (i : Int) := by omega
          go_wp2_with fail
          go_roundg (20992 - F.cnt + (if b then 1 else 0))
          case measure =>
            have hc := HI1.out.1.pr
            have h2 := Fc.cnt_le F
            have h3 := HE.out
            cases b
            · simp only [Bool.false_eq_true, if_false, if_true] at h3 ⊢; have := hc.1; omega
            · simp only [if_true] at h3 ⊢; have := hc.2.1 rfl; omega
          case rel =>
            have hc := HI1.out.1.pr
            refine ⟨F, b, ⟨HI1.out.1.f, HI1.out.1.r, HI1.out.1.m, HI1.out.1.ok, HI1.out.1.bel, HI1.out.1.l1, HI1.out.1.l2, HI1.out.1.l3, HI1.out.1.snd, fun j => ?_⟩, fun e => hc.2.2 e, rfl⟩
            have hr := HI1.out.1.rm j
            refine ⟨hr.1, Int.le_trans hr.2 ?_⟩
            cases b
            · simp only [Bool.false_eq_true, if_false]; have := hc.1; omega
            · simp only [if_true]; have := hc.2.1 rfl; omega
end Go.Proofs.YthfbmihpdkkcjaaDoor
