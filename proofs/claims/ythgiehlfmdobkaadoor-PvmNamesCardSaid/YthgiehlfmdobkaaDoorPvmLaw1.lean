/-
  The law PvmNames. Conditions: none.
-/
import Derived.Test.YthgiehlfmdobkaaDoorPvmAwake
namespace Go.Proofs.YthgiehlfmdobkaaDoor
open Go.RowKit

/-- a machine's cells at its beginning, but for its words -/
def zc (A : Option Addr) (n c : Nat) : List Value := [.int .i64 0, .int .i64 0, .int .i64 0, .int .i64 0, .int .i64 0, .int .i64 0, .int .i64 0, .int .i64 0, .int .i64 0, .slice A n c, .int .i64 0, .int .i64 0]
theorem zc_one (A : Option Addr) (n c : Nat) : ∀ u ∈ zc A n c, u.oneCell' = true := by
  intro u hu
  simp only [zc, List.mem_cons, List.not_mem_nil, or_false] at hu
  rcases hu with rfl | rfl | rfl | rfl | rfl | rfl | rfl | rfl | rfl | rfl | rfl | rfl <;> rfl
theorem zc_set (A B : Option Addr) (n c m d : Nat) : (zc A n c).toArray.setIfInBounds 9 (.slice B m d) = (zc B m d).toArray := rfl

set_option maxRecDepth 100000 in
set_option maxHeartbeats 4000000 in
set_option linter.unusedSimpArgs false in
theorem refNew8 (words : Int) (w : World) : Calls Tryd.prog 10 #[.int .i64 words] w (MPost w (newM words)) := by
  obtain ⟨i1, hi0, hz0, hz1, hz2⟩ := info_parts j_info
  obtain ⟨n, en⟩ : ∃ n, (min words 64).toNat = n := ⟨_, rfl⟩
  have hn : n ≤ 64 := by omega
  have HN := Lib.hid en
  clear en
  go_enter Tryd.func10, Tryd.ntmps10
  go_wp2_with fail
  have k0 := (Blk.new w 30 (zc none 0 0).toArray).alloc (.cells (zc none 0 0).toArray 30)
  have k1 := blk2 w (.cells (zc none 0 0).toArray 30) 30 (zc none 0 0).toArray
  have hz2 := below2 w (.cells (zc none 0 0).toArray 30) (.cells (zc none 0 0).toArray 30)
  have hsz : ((w.alloc (.cells (zc none 0 0).toArray 30)).alloc (.cells (zc none 0 0).toArray 30)).heap.size = w.heap.size + 1 + 1 := by simp
  obtain ⟨w2, ew2⟩ : ∃ W, (w.alloc (.cells (zc none 0 0).toArray 30)).alloc (.cells (zc none 0 0).toArray 30) = W := ⟨_, rfl⟩
  rw [ew2] at k0 k1 hz2 hsz
  have ew2' : (w.alloc (.cells #[.int .i64 0, .int .i64 0, .int .i64 0, .int .i64 0, .int .i64 0, .int .i64 0, .int .i64 0, .int .i64 0, .int .i64 0, .slice none 0 0, .int .i64 0, .int .i64 0] 30)).alloc (.cells #[.int .i64 0, .int .i64 0, .int .i64 0, .int .i64 0, .int .i64 0, .int .i64 0, .int .i64 0, .int .i64 0, .int .i64 0, .slice none 0 0, .int .i64 0, .int .i64 0] 30) = w2 := ew2
  rw [ew2']
  obtain ⟨g0, eg0⟩ : ∃ x, w.heap.size = x := ⟨_, rfl⟩
  obtain ⟨g1, eg1⟩ : ∃ x, g0 + 1 = x := ⟨_, rfl⟩
  obtain ⟨b2, eb2⟩ : ∃ x, g1 + 1 = x := ⟨_, rfl⟩
  rw [eg0] at k0 k1 hz2 hsz ⊢
  rw [eg1] at k1 hsz ⊢
  rw [eb2] at hsz
  have hg : g0 < g1 ∧ g1 < b2 ∧ g0 < b2 := by omega
  have HK := Lib.hid (And.intro hg (And.intro eg0 (And.intro hsz hz2)))
  have HB := Lib.hid (And.intro k0 k1)
  clear k0 k1 hz2 hsz ew2 ew2' eg1 eb2 hg eg0
  go_loopw [4] (fun u wz => ∃ (i : Nat) (A1 : Option Addr) (c1 : Nat), i ≤ n ∧ u = .int .i64 (i : Int) ∧ Blk wz g0 30 (zc none 0 0).toArray ∧ Blk wz g1 30 (zc A1 i c1).toArray ∧ wz.ownsRow b2 2 1 (.slice A1 i c1) i (zv (List.replicate i 0)) ∧ Below g0 w wz ∧ b2 ≤ wz.heap.size) (fun u _ => n - (intOf u).toNat)
  case atStart => exact ⟨0, none, 0, by omega, rfl, HB.out.1, HB.out.2, row_nil _ _ _ _, HK.out.2.2.2, Nat.le_of_eq HK.out.2.2.1.symm⟩
  case round =>
    obtain ⟨i, A1, c1, hin, rfl, kb0, kb1, hrow, hbel, hbs⟩ := hrel
    have m9 : wr.cell? ⟨g1, 9, none⟩ = some (.slice A1 i c1) := by rw [kb1.cell]; rfl
    by_cases hlt : i < n
    · have h1 : (i : Int) < words := by have := HN.out; omega
      have h2 : (i : Int) < 64 := by omega
      have HI := Lib.hid (And.intro kb0 (And.intro kb1 (And.intro hrow (And.intro hbel hbs))))
      clear kb0 kb1 hrow hbel hbs
      go_wp2_with (first
        | (at_builtin; refine wpList_append_row _ rfl (.tmp 16) (.tmp 17) 24 rfl b2 2 i1 _ 1 8 Tryd.underlying24 hi0 hz0 hz1 hz2 rfl (by decide) (.slice A1 i c1) i (zv (List.replicate i 0)) rfl (row_alloc HI.out.2.2.1 _) (wr.heap.size + 1) (some ⟨wr.heap.size, 0, none⟩) 1 1 [.int .i64 0] rfl (vs_of_blk (Blk.new wr 2 #[.int .i64 0]) (Nat.lt_succ_self _)) rfl (zv_one [0]) (by omega) (by unfold maxLen; omega) (by have := HI.out.2.2.2.2; rw [size_alloc1]; omega) ?_; refine fun v5 w5 hown5 hg5 _ => stopped ?_)
        | fail)
      have hne : ∀ g, g < b2 → some g ≠ (Value.slice A1 i c1).ownBlock := fun g hg e => by have := (World.ownsRow.lt HI.out.2.2.1 g e.symm).1; omega
      have k50 := (HI.out.1.alloc (.cells #[.int .i64 0] 2)).grown hg5 (hne g0 HK.out.1.2.2)
      have k51 := (HI.out.2.1.alloc (.cells #[.int .i64 0] 2)).grown hg5 (hne g1 HK.out.1.2.1)
      have hsA : b2 ≤ (wr.alloc (.cells #[.int .i64 0] 2)).heap.size := by rw [size_alloc1]; have := HI.out.2.2.2.2; omega
      have hb5 : Below g0 w w5 := (HI.out.2.2.2.1.alloc (by have := HI.out.2.2.2.2; have := HK.out.1; omega) _).grown hg5 (by have := HK.out.1; omega) (fun g e => by have := (World.ownsRow.lt HI.out.2.2.1 g e).1; have := HK.out.1; omega)
      have hs5 : b2 ≤ w5.heap.size := Nat.le_trans hsA hg5.size
      obtain ⟨A5, c5, rfl, _, _, _, _⟩ := vs_of_row hown5
      have hcl5 : w5.cell? ⟨g1, 9, none⟩ = some (.slice A1 i c1) := by rw [k51.cell]; rfl
      have hfz5 := k51.frozen 9
      have heq : zv (List.replicate i 0) ++ [.int .i64 0] = zv (List.replicate (i + 1) 0) := by rw [List.replicate_succ']; simp [zv]
      rw [heq] at hown5
      have k61 := k51.set_ 9 (.slice A5 (i + 1) c5)
      rw [zc_set] at k61
      have HJ := Lib.hid (And.intro (k50.far (p := ⟨g1, 9, none⟩) (by have := HK.out.1; show g0 ≠ g1; omega) (.slice A5 (i + 1) c5)) (And.intro k61 (And.intro (row_kept (g := g1) hown5 (only_setCell (g := g1) (p := ⟨g1, 9, none⟩) (only_refl w5 _) (.inl rfl) (.slice A5 (i + 1) c5)) HK.out.1.2.1) (And.intro (hb5.setCell (p := ⟨g1, 9, none⟩) (by have := HK.out.1; show g0 ≤ g1; omega) (.slice A5 (i + 1) c5)) hs5))))
      clear k50 k51 k61 hb5 hs5 hown5 hg5 heq hsA hne
      refine go_on ?_
      go_wp2_with fail
      go_roundw
      case rel => exact ⟨i + 1, A5, c5, by omega, by go_num, HJ.out.1, HJ.out.2.1, HJ.out.2.2.1, HJ.out.2.2.2.1, by have := HJ.out.2.2.2.2; simpa [World.setCell] using this⟩
      case measure => simp only [intOf]; omega
    · obtain rfl : i = n := by omega
      have HI := Lib.hid (And.intro kb0 (And.intro kb1 (And.intro hrow (And.intro hbel hbs))))
      clear kb0 kb1 hrow hbel hbs
      have fin : ∀ w6, Blk w6 g0 30 (zc A1 i c1).toArray → wr.grownBy w6 (some g0) → MPost w (newM words) (.returned (.agg (zc A1 i c1).toArray)) w6 := fun w6 h6 hg6 => by
        have hl : (newM words).mem.length = i := by show (List.replicate (min words 64).toNat 0).length = i; rw [List.length_replicate]; exact HN.out
        have hm : (newM words).mem = List.replicate i 0 := by show List.replicate (min words 64).toNat 0 = _; rw [HN.out]
        refine ⟨A1, c1, by rw [hl]; rfl, ?_, by rw [HK.out.2.1]; exact HI.out.2.2.2.1.grown hg6 (by have := HI.out.2.2.2.2; have := HK.out.1; omega) (fun g e => by cases e; exact Nat.le_refl _)⟩
        rw [hl, hm, HK.out.2.1]
        exact row_base (row_kept (g := g0) HI.out.2.2.1 hg6 HK.out.1.2.2) (by have := HK.out.1; omega)
      have HFin := Lib.hid fin
      clear fin
      by_cases h1 : (i : Int) < words
      · have h2 : ¬ (i : Int) < 64 := by have := HN.out; omega
        go_wp2_with (first | (with_reducible refine st_load 30 ?_; refine stopped ?_) | fail)
        refine go_on ?_
        refine wpList_load_at rfl 30 (.tmp 3) rfl g1 0 rfl (zc A1 i c1).toArray _ (Blk.cells HI.out.2.1) Tryd.underlying30 rfl rmach_size ?_
        refine wpList_store_whole rfl 30 (.tmp 2) (.tmp 20) rfl g0 (zc A1 i c1) rfl rfl 30 (zc none 0 0) HI.out.1 rmach_size rfl (zc_one _ _ _) ?_
        intro w6 hb6 hg6
        simp only [Act.put, List.setIfInBounds_toArray, List.set_cons_zero, List.set_cons_succ]
        refine wpList_nil ?_
        repeat (first | go_values | go_skip | go_guarded | go_step)
        exact bodyPost_row rfl g0 rfl 30 _ _ hb6 Tryd.underlying30 rfl rmach_size rfl (HFin.out w6 hb6 hg6)
      · go_wp2_with (first | (with_reducible refine st_load 30 ?_; refine stopped ?_) | fail)
        refine go_on ?_
        refine wpList_load_at rfl 30 (.tmp 3) rfl g1 0 rfl (zc A1 i c1).toArray _ (Blk.cells HI.out.2.1) Tryd.underlying30 rfl rmach_size ?_
        refine wpList_store_whole rfl 30 (.tmp 2) (.tmp 20) rfl g0 (zc A1 i c1) rfl rfl 30 (zc none 0 0) HI.out.1 rmach_size rfl (zc_one _ _ _) ?_
        intro w6 hb6 hg6
        simp only [Act.put, List.setIfInBounds_toArray, List.set_cons_zero, List.set_cons_succ]
        refine wpList_nil ?_
        repeat (first | go_values | go_skip | go_guarded | go_step)
        exact bodyPost_row rfl g0 rfl 30 _ _ hb6 Tryd.underlying30 rfl rmach_size rfl (HFin.out w6 hb6 hg6)

set_option maxRecDepth 100000 in
set_option maxHeartbeats 4000000 in
set_option linter.unusedSimpArgs false in
theorem pvmNames_calls (words : Int) (h1 : -9223372036854775808 ≤ words) (h2 : words ≤ 9223372036854775807) (w : World) (hG : HasErr w) : Calls Tryd.prog 3 #[.int .i64 words] w fun e w' => e = .returned (.bool true) ∧ Below w.heap.size w w' := by
  have H := Lib.hid (And.intro h1 h2)
  clear h1 h2
  obtain ⟨n, en⟩ : ∃ n, (newM words).mem.length = n := ⟨_, rfl⟩
  have hn : n ≤ 64 := by rw [← en]; exact new_len words
  have HN := Lib.hid en
  go_enter Tryd.func3, Tryd.ntmps3
  go_wp2_with fail
  refine (pvNew words H.out w).mono ?_
  rintro e w1 ⟨A1, c1, rfl, hr1, hb1⟩
  have hm1 := machAt_row hr1 (newM_ok words)
  rw [en] at hm1 ⊢
  have HA := Lib.hid (And.intro hm1 hb1)
  clear hr1 hb1 hm1
  go_wp2_with fail
  refine (refNew8 words w1).mono ?_
  rintro e w2 ⟨A2, c2, rfl, hr2, hb2⟩
  have hm2 := machAt_row hr2 (newM_ok words)
  rw [en] at hm2 ⊢
  have his := isSame (newM words) A1 A2 n c1 c2 en (by omega) w2 (HA.out.1.below hb2).vs hm2.vs
  have HI := Lib.hid (And.intro his (HA.out.2.trans (hb2.mono HA.out.2.size)))
  clear hr2 hb2 his hm2 en
  go_wp2_with fail
  refine HI.out.1.mono ?_
  rintro e w3 ⟨rfl, hb3⟩
  have HJ := Lib.hid (HI.out.2.trans (hb3.mono HI.out.2.size))
  clear hb3
  go_wp2_with fail
  refine (pvmAwake w3 (hG.below HJ.out)).mono ?_
  rintro e w4 ⟨rfl, hb4⟩
  go_wp2_with fail
  go_ret
  exact ⟨rfl, HJ.out.trans (hb4.mono HJ.out.size)⟩
end Go.Proofs.YthgiehlfmdobkaaDoor
