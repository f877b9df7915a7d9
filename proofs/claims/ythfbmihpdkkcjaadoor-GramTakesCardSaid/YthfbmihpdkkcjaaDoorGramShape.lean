/-
  Package gram's wellFormed and shape, by their contracts. Conditions: each theorem's own premises.
-/
import Derived.Test.YthfbmihpdkkcjaaDoorGramStu0
import Derived.Test.YthfbmihpdkkcjaaDoorChain
namespace Go.Proofs.YthfbmihpdkkcjaaDoor
open Go.RowKit

def wellB (K : Int) (f : Fm) : Bool := !decide (f.n < 0) && !decide (K ≤ f.n) && !decide (8 < f.b.length) && f.b.all fun s => !decide (K ≤ s.n)
theorem wellB_ill {G : Gm} {f : Fm} : wellB G.k f = false ↔ IllF G f := by
  unfold wellB IllF
  constructor
  · intro h
    apply Classical.byContradiction
    intro hn
    have h1 : ¬ f.n < 0 := fun c => hn (.inl c)
    have h2 : ¬ G.k ≤ f.n := fun c => hn (.inr (.inl c))
    have h3 : ¬ 8 < f.b.length := fun c => hn (.inr (.inr (.inl c)))
    have h4 : (f.b.all fun s => !decide (G.k ≤ s.n)) = true := List.all_eq_true.2 fun s hs => by
      rw [Bool.not_eq_true', decide_eq_false_iff_not]
      exact fun c => hn (.inr (.inr (.inr ⟨s, hs, c⟩)))
    rw [decide_eq_false h1, decide_eq_false h2, decide_eq_false h3, h4] at h
    cases h
  · rintro (h | h | h | ⟨s, hs, h⟩)
    · rw [decide_eq_true h]; rfl
    · rw [decide_eq_true h, Bool.not_true, Bool.and_false]; rfl
    · rw [decide_eq_true h, Bool.not_true, Bool.and_false]; rfl
    · rw [Bool.and_eq_false_iff]
      right
      rw [Bool.eq_false_iff]
      intro hc
      have := List.all_eq_true.1 hc s hs
      rw [decide_eq_true h] at this
      cases this
set_option maxRecDepth 100000 in
set_option maxHeartbeats 4000000 in
set_option linter.unusedSimpArgs false in
theorem gfWell (w : World) (f : Fm) (A : Option Addr) (n cp : Nat) (K : Int) (hA : Vs w w.heap.size A (svs f.b)) (hl : f.b.length = n) (h9 : n ≤ 9) (hok : FmOk f) : Calls Tryd.prog 36 #[.agg (formV f.n A n cp).toArray, .int .i64 K] w (BoolPost w (wellB K f)) := by
  have H := Lib.hid (And.intro hA (And.intro hl hok))
  clear hA hl hok
  obtain ⟨X, eX⟩ : ∃ X, f.n = X := ⟨_, rfl⟩
  obtain ⟨B, eB⟩ : ∃ B, wellB K f = B := ⟨_, rfl⟩
  rw [eX, eB]
  unfold wellB at eB
  rw [eX, H.out.2.1] at eB
  have HB := Lib.hid eB
  clear eB eX
  obtain ⟨fv, efv⟩ : ∃ fv, formV X A n cp = fv := ⟨_, rfl⟩
  rw [efv]
  go_enter Tryd.func36, Tryd.ntmps36
  go_wp2_with (first
    | (refine wpList_box (o := ⟨some 2, _, _, _, _, _⟩) rfl 46 (.tmp 0) rfl fv.toArray rfl ?_; intro w1 hb1 hw1 hz1)
    | (with_reducible refine st_load 3 ?_; refine stopped ?_)
    | fail)
  refine go_on ?_
  rw [← efv] at hb1
  have k0 : w1.cell? ⟨w.heap.size, 0, none⟩ = some (.int .i64 X) := Blk.cell hb1 0
  have k1 : w1.cell? ⟨w.heap.size, 1, none⟩ = some (.slice A n cp) := Blk.cell hb1 1
  have HW := Lib.hid hw1
  clear hb1 hz1 hw1
  by_cases hX : X < 0
  · have hB : B = false := by rw [← HB.out, decide_eq_true hX]; rfl
    go_wp2_with fail
    go_ret
    exact ⟨by first | rfl | (rw [hB]; rfl), HW.out⟩
  · by_cases hK : K ≤ X
    · have hB : B = false := by rw [← HB.out, decide_eq_true hK, Bool.not_true, Bool.and_false]; rfl
      go_wp2_with fail
      go_ret
      exact ⟨by first | rfl | (rw [hB]; rfl), HW.out⟩
    · by_cases h8 : 8 < n
      · have hB : B = false := by rw [← HB.out, decide_eq_true h8, Bool.not_true, Bool.and_false]; rfl
        have h8i : (8 : Int) < (n : Int) := by omega
        go_wp2_with fail
        go_ret
        exact ⟨by first | rfl | (rw [hB]; rfl), HW.out⟩
      · have hB : (f.b.all fun s => !decide (K ≤ s.n)) = B := by rw [← HB.out, decide_eq_false hX, decide_eq_false hK, decide_eq_false h8]; rfl
        have h8i : ¬ (8 : Int) < (n : Int) := by omega
        have HB2 := Lib.hid hB
        clear hB
        go_wp2_with fail
        go_loopw [25] (fun u wz => ∃ k : Nat, k ≤ n ∧ u = .int .i64 (k : Int) ∧ Below w.heap.size w wz ∧ ∀ j, j < k → (fun s : Sg => !decide (K ≤ s.n)) (f.b.getD j ⟨0, 0, 0⟩) = true) (fun u _ => n - (intOf u).toNat)
        case atStart => exact ⟨0, by omega, rfl, HW.out, fun j hj => by omega⟩
        case round =>
          obtain ⟨k, hk, rfl, hbel, hno⟩ := hrel
          have HI := Lib.hid (And.intro hbel hno)
          clear hno
          by_cases hlt : k < n
          · have hki : (k : Int) < (n : Int) := by omega
            have hk0 : (0 : Int) ≤ (k : Int) := by omega
            obtain ⟨b, o, rfl, hbl, hcl⟩ := svs_cells H.out.1 (k := k) (by rw [H.out.2.1]; exact hlt)
            have hall := fun h => all_not (p := fun s : Sg => !decide (K ≤ s.n)) (l := f.b) (j := k) (by rw [H.out.2.1]; exact hlt) h
            have hcs := hcl wr hbel
            obtain ⟨x, ex⟩ : ∃ x, f.b.getD k ⟨0, 0, 0⟩ = x := ⟨_, rfl⟩
            rw [ex] at hcs hall
            have HX := Lib.hid (And.intro hall ex)
            clear hcl hall ex
            go_wp2_with (first
              | (with_reducible refine st_load 42 ?_; refine stopped ?_)
              | fail)
            refine go_on ?_
            refine wpList_load_at rfl 42 (.tmp 27) rfl b (o + k * 3) rfl x.cells.toArray _ hcs Tryd.underlying42 rfl sg_size4 ?_
            simp only [Act.put, List.setIfInBounds_toArray, List.set_cons_zero, List.set_cons_succ]
            refine wpList_alloc rfl 42 rfl _ sg_zero ?_
            intro w8 hb8 hw8 hz8
            simp only [Act.put, List.setIfInBounds_toArray, List.set_cons_zero, List.set_cons_succ]
            refine wpList_store_whole rfl 42 (.tmp 6) (.tmp 28) rfl wr.heap.size x.cells rfl rfl 42 (Sg.cells ⟨0, 0, 0⟩) hb8 sg_size4 rfl (sg_one4 _) ?_
            intro w9 hx9 hg9
            refine wpList_nil ?_
            simp only [Act.put, List.setIfInBounds_toArray, List.set_cons_zero, List.set_cons_succ]
            have hb9 : Below wr.heap.size wr w9 := hw8.grown hg9 hw8.size (fun j e => by cases e; exact Nat.le_refl _)
            have hb9' : Below w.heap.size w w9 := hbel.trans (hb9.mono hbel.size)
            obtain ⟨gx, egx⟩ : ∃ gx, wr.heap.size = gx := ⟨_, rfl⟩
            rw [egx] at hx9 ⊢
            obtain ⟨xn, exn⟩ : ∃ z, x.n = z := ⟨_, rfl⟩
            have j0 : w9.cell? ⟨gx, 0, none⟩ = some (.int .i64 xn) := by rw [← exn]; exact Blk.cell hx9 0
            have H9 := Lib.hid (And.intro hb9' exn)
            clear hx9 hg9 hb8 hw8 hz8 hb9 exn egx hb9'
            by_cases hneg : K ≤ xn
            · have hBf : B = false := by rw [← HB2.out]; exact HX.out.1 (by rw [H9.out.2, decide_eq_true hneg]; rfl)
              go_wp2_with fail
              go_ret
              exact ⟨by first | rfl | (rw [hBf]; rfl), H9.out.1⟩
            · go_wp2_with fail
              go_roundw
              case rel => exact ⟨k + 1, by omega, by go_num, H9.out.1, fun j hj => by
                rcases Nat.lt_or_ge j k with h8 | h8
                · exact HI.out.2 j h8
                · obtain rfl : j = k := by omega
                  show (!decide (K ≤ (f.b.getD j ⟨0, 0, 0⟩).n)) = true
                  rw [HX.out.2, H9.out.2, decide_eq_false hneg]; rfl⟩
              case measure => simp [intOf]; omega
          · obtain rfl : k = n := by omega
            have hkn : ¬ (k : Int) < (k : Int) := by omega
            have hall := all_upto (p := fun s : Sg => !decide (K ≤ s.n)) (l := f.b) (fun j hj => HI.out.2 j (by rw [← H.out.2.1]; exact hj))
            go_wp2_with fail
            go_ret
            exact ⟨by rw [← HB2.out, hall]; rfl, HI.out.1⟩
/-- what shape answers -/
def ShapePost (w : World) (G : Gm) (e : Ending) (w' : World) : Prop := ∃ v, e = .returned v ∧ Below w.heap.size w w' ∧ ((v = .nilIface ∧ WellG G) ∨ ∃ i : Nat, Chain w' v [(1, (i : Int))] ∧ CheckIs G (1, i))
set_option maxRecDepth 100000 in
set_option maxHeartbeats 4000000 in
set_option linter.unusedSimpArgs false in
theorem gfShape (w : World) (G : Gm) (A : Option Addr) (L : List FmV) (n c : Nat) (hA : GmAt w w.heap.size A L G) (hn : L.length = n) (hs : SmallG G) : Calls Tryd.prog 27 #[gmv G.k A n c] w (ShapePost w G) := by
  have hnl : G.fs.length = n := by rw [hA.len, hn]
  have hn50 : n ≤ 50 := by rw [← hnl]; exact hs.1
  unfold gmv
  have H := Lib.hid (And.intro hA (And.intro hn (And.intro hnl hs)))
  clear hA hn hnl hs
  obtain ⟨K, eK⟩ : ∃ K, G.k = K := ⟨_, rfl⟩
  rw [eK]
  have HK := Lib.hid eK
  clear eK
  obtain ⟨gv, egv⟩ : ∃ gv : List Value, [.int .i64 K, .slice A n c] = gv := ⟨_, rfl⟩
  rw [show (#[.int .i64 K, .slice A n c] : Array Value) = gv.toArray by rw [← egv]]
  go_enter Tryd.func27, Tryd.ntmps27
  go_wp2_with (first
    | (refine wpList_box (o := ⟨some 1, _, _, _, _, _⟩) rfl 25 (.tmp 0) rfl gv.toArray rfl ?_; intro w1 hb1 hw1 hz1)
    | (with_reducible refine st_load 3 ?_; refine stopped ?_)
    | fail)
  refine go_on ?_
  rw [← egv] at hb1
  have k0 : w1.cell? ⟨w.heap.size, 0, none⟩ = some (.int .i64 K) := Blk.cell hb1 0
  have k1 : w1.cell? ⟨w.heap.size, 1, none⟩ = some (.slice A n c) := Blk.cell hb1 1
  have HW := Lib.hid (And.intro hw1 hb1)
  clear hb1 hz1 hw1
  by_cases hbig : K < 1 ∨ 16 < K ∨ 48 < n
  · have hB : BigG G := by unfold BigG; rw [HK.out, H.out.2.2.1]; exact hbig
    by_cases h1 : K < 1
    · go_wp2_with (first
        | (go_at_call 29; refine (fNew 1 0 _ (by decide)).mono ?_; rintro e w3 ⟨v3, rfl, hc3, hb3⟩)
        | fail)
      go_ret
      exact ⟨v3, rfl, HW.out.1.trans (hb3.mono HW.out.1.size), .inr ⟨0, hc3, .big hB⟩⟩
    · by_cases h16 : 16 < K
      · go_wp2_with (first
          | (go_at_call 29; refine (fNew 1 0 _ (by decide)).mono ?_; rintro e w3 ⟨v3, rfl, hc3, hb3⟩)
          | fail)
        go_ret
        exact ⟨v3, rfl, HW.out.1.trans (hb3.mono HW.out.1.size), .inr ⟨0, hc3, .big hB⟩⟩
      · have h48 : (48 : Int) < (n : Int) := by omega
        go_wp2_with (first
          | (go_at_call 29; refine (fNew 1 0 _ (by decide)).mono ?_; rintro e w3 ⟨v3, rfl, hc3, hb3⟩)
          | fail)
        go_ret
        exact ⟨v3, rfl, HW.out.1.trans (hb3.mono HW.out.1.size), .inr ⟨0, hc3, .big hB⟩⟩
  · have hB : ¬ BigG G := by unfold BigG; rw [HK.out, H.out.2.2.1]; exact hbig
    have h1 : ¬ K < 1 := by omega
    have h16 : ¬ 16 < K := by omega
    have h48 : ¬ (48 : Int) < (n : Int) := by omega
    have HN := Lib.hid hB
    clear hB hbig
    go_wp2_with fail
    clear k0 k1
    go_loopw [23] (fun u wz => ∃ k : Nat, k ≤ n ∧ u = .int .i64 (k : Int) ∧ Below w1.heap.size w1 wz ∧ ∀ j, j < k → ¬ IllF G (G.fs.getD j f0)) (fun u _ => n - (intOf u).toNat)
    case atStart => exact ⟨0, by omega, rfl, Below.refl _ _, fun j hj => by omega⟩
    case round =>
      obtain ⟨i, hk, rfl, hbel, hno⟩ := hrel
      have HI := Lib.hid (And.intro hbel hno)
      have hbelw := HW.out.1.trans (hbel.mono HW.out.1.size)
      clear hno
      by_cases hlt : i < n
      · have hki : (i : Int) < (n : Int) := by omega
        have hk0 : (0 : Int) ≤ (i : Int) := by omega
        have hiL : i < L.length := by rw [H.out.2.1]; exact hlt
        obtain ⟨x, ex⟩ : ∃ x, L[i]? = some x := ⟨L[i], List.getElem?_eq_getElem hiL⟩
        obtain ⟨bf, of, rfl, hbl, hcl⟩ := fvs_form H.out.1.vs ex
        have hxm : x ∈ L := List.mem_of_getElem? ex
        have hbody := H.out.1.bs x hxm
        have hgx : G.fs.getD i f0 = x.f := by rw [← H.out.1.fs, List.getD_eq_getElem?_getD, List.getElem?_map, ex]; rfl
        have hxf : x.f ∈ G.fs := by rw [← hgx]; exact getD_mem (by rw [H.out.2.2.1]; exact hlt)
        have h9 : x.f.b.length ≤ 9 := H.out.2.2.2.2 x.f hxf
        have hcs := hcl wr hbelw
        obtain ⟨fv, efv⟩ : ∃ fv, formV x.f.n x.A x.f.b.length x.c = fv := ⟨_, rfl⟩
        rw [efv] at hcs
        have hf1 : ∀ v ∈ fv, v.oneCell' = true := by rw [← efv]; exact form_one _ _ _ _
        have hf2 : fv.length = 2 := by rw [← efv]; rfl
        have HX := Lib.hid (And.intro hbody (And.intro hgx (And.intro hxf (And.intro h9 efv))))
        clear hcl ex hxm hbody hgx hxf h9 hiL efv
        go_wp2_with (first
          | (with_reducible refine st_load 46 ?_; refine stopped ?_)
          | fail)
        refine go_on ?_
        refine wpList_load_at rfl 46 (.tmp 26) rfl bf (of + i * 2) rfl fv.toArray _ hcs Tryd.underlying46 rfl (by rw [List.size_toArray, hf2]; exact form_size) ?_
        simp only [Act.put, List.setIfInBounds_toArray, List.set_cons_zero, List.set_cons_succ]
        refine wpList_alloc rfl 46 rfl _ form_zero ?_
        intro w8 hb8 hw8 hz8
        simp only [Act.put, List.setIfInBounds_toArray, List.set_cons_zero, List.set_cons_succ]
        go_wp2_with (first | (with_reducible refine st_store 46 ?_; refine stopped ?_) | fail)
        refine go_on ?_
        refine wpList_store_whole rfl 46 (.tmp 4) (.tmp 27) rfl wr.heap.size fv rfl rfl 46 (formV 0 none 0 0) hb8 (by rw [hf2]; exact form_size) (by rw [hf2]; rfl) hf1 ?_
        intro w9 hx9 hg9
        refine wpList_nil ?_
        simp only [Act.put, List.setIfInBounds_toArray, List.set_cons_zero, List.set_cons_succ]
        have hb9 : Below wr.heap.size wr w9 := hw8.grown hg9 hw8.size (fun j e => by cases e; exact Nat.le_refl _)
        obtain ⟨gx, egx⟩ : ∃ gx, wr.heap.size = gx := ⟨_, rfl⟩
        rw [egx] at hx9 ⊢
        have hb19 := hbel.trans (hb9.mono hbel.size)
        have hbw9 := HW.out.1.trans (hb19.mono HW.out.1.size)
        have H9 := Lib.hid (And.intro hb19 (And.intro hbw9 hx9))
        have k0 : w9.cell? ⟨w.heap.size, 0, none⟩ = some (.int .i64 K) := by rw [hb19.cell (p := ⟨w.heap.size, 0, none⟩) HW.out.2.lt]; exact Blk.cell HW.out.2 0
        clear hb8 hw8 hz8 hg9 hb9 egx hcs hb19 hbw9
        go_wp2_with (first
          | (with_reducible refine st_load 46 ?_; refine stopped ?_)
          | fail)
        refine go_on ?_
        refine wpList_load_at rfl 46 (.tmp 4) rfl gx 0 rfl fv.toArray _ (Blk.cells hx9) Tryd.underlying46 rfl (by rw [List.size_toArray, hf2]; exact form_size) ?_
        simp only [Act.put, List.setIfInBounds_toArray, List.set_cons_zero, List.set_cons_succ]
        have hwl := gfWell w9 x.f x.A x.f.b.length x.c K ((HX.out.1.vs.below H9.out.2.1).more H9.out.2.1.size) rfl HX.out.2.2.2.1 HX.out.1.ok
        rw [HX.out.2.2.2.2] at hwl
        have HC := Lib.hid hwl
        clear hwl hx9
        go_wp2_with (first
          | (go_at_call 36; refine stopped ?_)
          | fail)
        refine go_on ?_
        refine HC.out.mono ?_
        rintro e w10 ⟨rfl, hb10⟩
        have hb110 := H9.out.1.trans (hb10.mono H9.out.1.size)
        obtain ⟨tv, etv⟩ : ∃ z, wellB K x.f = z := ⟨_, rfl⟩
        rw [etv]
        have hill := wellB_ill (G := G) (f := x.f)
        rw [HK.out, etv] at hill
        have HT := Lib.hid (And.intro hb110 hill)
        clear hb10 hb110 hill etv k0
        cases tv
        · go_wp2_with (first
            | (go_at_call 29; refine (fNew 1 (i : Int) _ (by decide)).mono ?_; rintro e w3 ⟨v3, rfl, hc3, hb3⟩)
            | fail)
          go_ret
          have hb11 := HT.out.1.trans (hb3.mono HT.out.1.size)
          exact ⟨v3, rfl, HW.out.1.trans (hb11.mono HW.out.1.size), .inr ⟨i, hc3, .ill HN.out (by rw [H.out.2.2.1]; exact hlt) (by rw [HX.out.2.1]; exact HT.out.2.1 (by first | rfl | trivial)) HI.out.2⟩⟩
        · go_wp2_with fail
          go_roundw
          case rel => exact ⟨i + 1, by omega, by go_num, HT.out.1, fun j hj => by
            rcases Nat.lt_or_ge j i with h8 | h8
            · exact HI.out.2 j h8
            · obtain rfl : j = i := by omega
              rw [HX.out.2.1]
              exact fun hc => by
                have h := HT.out.2.2 hc
                first | cases h | exact h⟩
          case measure => simp [intOf]; omega
      · obtain rfl : i = n := by omega
        have hkn : ¬ (i : Int) < (i : Int) := by omega
        go_wp2_with fail
        go_ret
        exact ⟨.nilIface, rfl, hbelw, .inl ⟨rfl, HN.out, fun f hf => by
          obtain ⟨j, hj, e⟩ := mem_getD hf
          rw [← e]
          exact HI.out.2 j (by rw [← H.out.2.2.1]; exact hj)⟩⟩
end Go.Proofs.YthfbmihpdkkcjaaDoor
