/-
  Package pvm's fetch and New, by their contracts. Conditions: each theorem's own premises.
-/
import Derived.Test.YthgiehlfmdobkaaDoorPvmFnD
namespace Go.Proofs.YthgiehlfmdobkaaDoor
open Go.RowKit

def fetchM (l : List Ins) (k : Int) : Ins × Int := if k < 0 ∨ (l.length : Int) ≤ k then (i0, 82) else if formedB (l.getD k.toNat i0) = false then (i0, 83) else (l.getD k.toNat i0, 0)
theorem mach_zero : (Tryd.prog.info? 27).map (·.zero) = some (some (.agg (mcells (newM 0) none 0 0).toArray)) := by kernel_rfl
theorem a4_val (op a b c : Nat) : (Ins.val ⟨op, a, b, c⟩) = .agg (a4 op a b c).toArray := rfl

set_option maxRecDepth 100000 in
set_option maxHeartbeats 4000000 in
set_option linter.unusedSimpArgs false in
theorem pvFetch (L : Option Addr) (l : List Ins) (n cp : Nat) (hl : l.length = n) (_hn : n ≤ 1000000) (k : Int) (w : World) (hL : InsAt w L l) (hG : HasErr w) :
    Calls Tryd.prog 47 #[.slice L n cp, .int .i64 k] w fun e w' => e = .returned (.tuple #[(fetchM l k).1.val, .int .i64 (fetchM l k).2]) ∧ Below w.heap.size w w' := by
  have H := Lib.hid (And.intro hl (And.intro hL hG))
  obtain ⟨f, ef⟩ : ∃ f, fetchM l k = f := ⟨_, rfl⟩
  rw [ef]
  have HF := Lib.hid ef
  clear hL hG ef
  go_enter Tryd.func47, Tryd.ntmps47
  by_cases hk : k < 0 ∨ (n : Int) ≤ k
  · obtain rfl : f = (i0, 82) := by rw [← HF.out]; unfold fetchM; rw [if_pos (by rw [hl]; exact hk)]
    have fin : ∀ w1, Blk w1 w.heap.size 61 (a4 0 0 0 0).toArray → Below w.heap.size w w1 → ∀ w6, Blk w6 w.heap.size 61 (a4 0 0 0 0).toArray → w1.grownBy w6 (some w.heap.size) → Below w.heap.size w w6 := fun w1 _ h w6 _ hg => h.grown hg h.size (fun j e => by cases e; exact Nat.le_refl _)
    by_cases h0 : k < 0
    · go_wp2_with (first
        | (refine wpList_alloc rfl 61 rfl #[.int .u8 0, .int .u8 0, .int .u8 0, .int .u8 0] instr_zero ?_; intro w1 hb1 hw1 hz1)
        | (with_reducible refine st_store 61 ?_; refine stopped ?_)
        | fail)
      refine go_on ?_
      refine wpList_store_whole rfl 61 (.tmp 4) (.tmp 14) rfl w.heap.size (a4 0 0 0 0) rfl rfl 61 (a4 0 0 0 0) hb1 instr_size rfl (a4_one 0 0 0 0) ?_
      intro w6 hb6 hg6
      have hb7 := fin w1 hb1 hw1 w6 hb6 hg6
      go_wp2_with fail
      exact bodyPost_rowv rfl w.heap.size rfl _ rfl 61 _ _ hb6 Tryd.underlying61 rfl instr_size rfl ⟨rfl, hb7⟩
    · have h1 : k ≥ (n : Int) := by omega
      go_wp2_with (first
        | (refine wpList_alloc rfl 61 rfl #[.int .u8 0, .int .u8 0, .int .u8 0, .int .u8 0] instr_zero ?_; intro w1 hb1 hw1 hz1)
        | (with_reducible refine st_store 61 ?_; refine stopped ?_)
        | fail)
      refine go_on ?_
      refine wpList_store_whole rfl 61 (.tmp 4) (.tmp 14) rfl w.heap.size (a4 0 0 0 0) rfl rfl 61 (a4 0 0 0 0) hb1 instr_size rfl (a4_one 0 0 0 0) ?_
      intro w6 hb6 hg6
      have hb7 := fin w1 hb1 hw1 w6 hb6 hg6
      go_wp2_with fail
      exact bodyPost_rowv rfl w.heap.size rfl _ rfl 61 _ _ hb6 Tryd.underlying61 rfl instr_size rfl ⟨rfl, hb7⟩
  · obtain ⟨j, rfl⟩ : ∃ j : Nat, k = (j : Int) := ⟨k.toNat, by omega⟩
    have hj : j < n := by omega
    have h0 : ¬ (j : Int) < 0 := by omega
    have h1 : ¬ (j : Int) ≥ (n : Int) := by omega
    have h2 : (0 : Int) ≤ (j : Int) := by omega
    have h3 : (j : Int) < (n : Int) := by omega
    obtain ⟨b, o, op, a, bb, c, eA, hbl, eI, hok, hce⟩ := H.out.2.1.at_ (j := j) (by rw [hl]; exact hj)
    have hfm : f = if formedB ⟨op, a, bb, c⟩ = false then (i0, 83) else (⟨op, a, bb, c⟩, 0) := by
      rw [← HF.out]; unfold fetchM; rw [if_neg (by rw [hl]; exact hk), Int.toNat_natCast, eI]
    subst eA
    have HC := Lib.hid (And.intro hce hok)
    clear hce eI hok hk
    go_wp2_with (first
      | (refine wpList_alloc rfl 61 rfl #[.int .u8 0, .int .u8 0, .int .u8 0, .int .u8 0] instr_zero ?_; intro w1 hb1 hw1 hz1)
      | (with_reducible refine st_load 61 ?_; refine stopped ?_)
      | fail)
    refine go_on ?_
    have hc4 : Cells w1 b (o + j * 4) (a4 op a bb c).toArray := fun t v ht => by
      obtain ⟨q0, q1, q2, q3⟩ := HC.out.1 w1 hw1
      match t, ht with
      | 0, ht => cases ht; exact q0
      | 1, ht => cases ht; exact q1
      | 2, ht => cases ht; exact q2
      | 3, ht => cases ht; exact q3
    refine wpList_load_at rfl 61 (.tmp 17) rfl b (o + j * 4) rfl (a4 op a bb c).toArray _ hc4 Tryd.underlying61 rfl instr_size ?_
    have hwl := pvWell op a bb c HC.out.2 w1 (H.out.2.2.below hw1)
    simp only [Act.put, List.setIfInBounds_toArray, List.set_cons_zero, List.set_cons_succ]
    unfold a4
    have HB := Lib.hid (And.intro hb1 (And.intro hw1 hbl))
    clear hc4 hb1 hw1 hz1
    cases hfo : formedB ⟨op, a, bb, c⟩
    · rw [hfo] at hwl
      rw [hfo, if_pos rfl] at hfm
      subst hfm
      have HW := Lib.hid hwl
      clear hwl hfo
      go_wp2_with (first
        | (go_at_call 59; refine HW.out.mono ?_; rintro e w2 ⟨rfl, hb2⟩)
        | (with_reducible refine st_store 61 ?_; refine stopped ?_)
        | fail)
      have hbb := HB.out.1.below hb2 HB.out.1.lt
      have hww := HB.out.2.1.trans (hb2.mono HB.out.2.1.size)
      refine go_on ?_
      refine wpList_store_whole rfl 61 (.tmp 4) (.tmp 21) rfl w.heap.size (a4 0 0 0 0) rfl rfl 61 (a4 0 0 0 0) hbb instr_size rfl (a4_one 0 0 0 0) ?_
      intro w6 hb6 hg6
      have hb7 : Below w.heap.size w w6 := hww.grown hg6 hww.size (fun j e => by cases e; exact Nat.le_refl _)
      go_wp2_with fail
      exact bodyPost_rowv rfl w.heap.size rfl _ rfl 61 _ _ hb6 Tryd.underlying61 rfl instr_size rfl ⟨rfl, hb7⟩
    · rw [hfo] at hwl
      rw [hfo, if_neg (by decide)] at hfm
      subst hfm
      have HW := Lib.hid hwl
      clear hwl hfo
      go_wp2_with (first
        | (go_at_call 59; refine HW.out.mono ?_; rintro e w2 ⟨rfl, hb2⟩)
        | (with_reducible refine st_load 61 ?_; refine stopped ?_)
        | fail)
      have hbb := HB.out.1.below hb2 HB.out.1.lt
      have hww := HB.out.2.1.trans (hb2.mono HB.out.2.1.size)
      have hc4 : Cells w2 b (o + j * 4) (a4 op a bb c).toArray := fun t v ht => by
        obtain ⟨q0, q1, q2, q3⟩ := HC.out.1 w2 hww
        match t, ht with
        | 0, ht => cases ht; exact q0
        | 1, ht => cases ht; exact q1
        | 2, ht => cases ht; exact q2
        | 3, ht => cases ht; exact q3
      refine go_on ?_
      refine wpList_load_at rfl 61 (.tmp 24) rfl b (o + j * 4) rfl (a4 op a bb c).toArray _ hc4 Tryd.underlying61 rfl instr_size ?_
      refine wpList_store_whole rfl 61 (.tmp 4) (.tmp 25) rfl w.heap.size (a4 op a bb c) rfl rfl 61 (a4 0 0 0 0) hbb instr_size rfl (a4_one op a bb c) ?_
      intro w6 hb6 hg6
      have hb7 : Below w.heap.size w w6 := hww.grown hg6 hww.size (fun j e => by cases e; exact Nat.le_refl _)
      simp only [Act.put, List.setIfInBounds_toArray, List.set_cons_zero, List.set_cons_succ]
      go_wp2_with fail
      exact bodyPost_rowv rfl w.heap.size rfl _ rfl 61 _ _ hb6 Tryd.underlying61 rfl instr_size rfl ⟨rfl, hb7⟩

theorem newRowW (W : World) (base n : Nat) (hn : n ≤ 64) (hb : base ≤ W.heap.size) : (W.alloc (.cells (madeCells #[.int .i64 0] n) 2)).ownsRow base 2 1 (.slice (some ⟨W.heap.size, 0, none⟩) n n) n (zv (List.replicate n 0)) := by
  have e : madeCells #[Value.int .i64 0] n = (zv (List.replicate n 0)).toArray := by
    apply Array.ext'
    rw [toList_madeCells_one]
    simp [zv]
  rw [e]
  exact row_of_blk (Blk.new W 2 _) hb (by simp [zv]) (by unfold maxLen; omega)
theorem makeWords (W : World) (n : Nat) (hn : n ≤ 255) (k : IntKind) : (Instr.makeSlice 24 (.int k (n : Int)) (.int k (n : Int))).run Tryd.prog W = .ok (.slice (some ⟨W.heap.size, 0, none⟩) n n) (W.alloc (.cells (madeCells #[.int .i64 0] n) 2)) := by
  obtain ⟨i1, hi0, hz0, hz1, hz2⟩ := info_parts j_info
  have h := run_make_bytes (P := Tryd.prog) 24 2 i1 _ Tryd.underlying24 hi0 hz0 k k n n (Nat.le_refl _) (by rw [hz2]; omega) (by omega) W
  rw [hz1, Nat.mul_one] at h
  exact h
theorem newM_neg {words : Int} (h : words < 0) : newM words = newM 0 := by unfold newM; rw [show (min words 64).toNat = (min (0 : Int) 64).toNat by omega]
theorem newM_big {words : Int} (h : 64 < words) : newM words = newM 64 := by unfold newM; rw [show (min words 64).toNat = (min (64 : Int) 64).toNat by omega]

set_option maxRecDepth 100000 in
set_option maxHeartbeats 4000000 in
set_option linter.unusedSimpArgs false in
theorem pvNew (words : Int) (_h : R64 words) (w : World) : Calls Tryd.prog 9 #[.int .i64 words] w (MPost w (newM words)) := by
  obtain ⟨n, en⟩ : ∃ n, (min words 64).toNat = n := ⟨_, rfl⟩
  have hn : n ≤ 64 := by omega
  have hmem : (newM words).mem = List.replicate n 0 := by unfold newM; rw [en]
  have hlen : (newM words).mem.length = n := by rw [hmem, List.length_replicate]
  have hpost : ∀ (w6 : World) (g : Nat), Blk w6 w.heap.size 27 (mcells (newM words) (some ⟨g, 0, none⟩) n n).toArray → w6.ownsRow w.heap.size 2 1 (.slice (some ⟨g, 0, none⟩) n n) n (zv (List.replicate n 0)) → Below w.heap.size w w6 →
      MPost w (newM words) (.returned (.agg (mcells (newM words) (some ⟨g, 0, none⟩) n n).toArray)) w6 := fun w6 g h1 h2 h3 => by
    refine ⟨some ⟨g, 0, none⟩, n, by rw [hlen]; rfl, ?_, h3⟩
    rw [hlen, hmem]
    exact h2
  have hmk := fun W => makeWords W n (by omega) .i64
  have HP := Lib.hid (And.intro hpost hmk)
  clear hpost hmk hlen hmem
  go_enter Tryd.func9, Tryd.ntmps9
  rcases (by omega : words < 0 ∨ (0 ≤ words ∧ words ≤ 64) ∨ 64 < words) with h | ⟨h, h'⟩ | h
  · obtain rfl : n = 0 := by omega
    have hmk : ∀ W : World, (Instr.makeSlice 24 (.int .i64 0) (.int .i64 0)).run Tryd.prog W = .ok (.slice (some ⟨W.heap.size, 0, none⟩) 0 0) (W.alloc (.cells (madeCells #[.int .i64 0] 0) 2)) := HP.out.2
    clear en
    go_wp2_with (first
      | (refine wpList_alloc rfl 27 rfl (mcells (newM 0) none 0 0).toArray mach_zero ?_; intro w1 hb1 hw1 hz1)
      | (with_reducible refine st_store 27 ?_; refine stopped ?_)
      | fail)
    have hrow := newRowW w1 w.heap.size 0 (by omega) hw1.size
    rw [hz1] at hrow
    have hbA := hb1.alloc (.cells (madeCells #[.int .i64 0] 0) 2)
    have hwA := hw1.alloc hw1.size (.cells (madeCells #[.int .i64 0] 0) 2)
    refine go_on ?_
    refine wpList_store_whole rfl 27 (.tmp 2) (.tmp 8) rfl w.heap.size (mcells (newM 0) (some ⟨w.heap.size + 1, 0, none⟩) 0 0) rfl rfl 27 (mcells (newM 0) none 0 0) hbA mach_size rfl (mcells_one _ _ _ _) ?_
    intro w6 hb6 hg6
    have hk6 : Kept (fun j => j = w.heap.size) (w1.alloc (.cells (madeCells #[.int .i64 0] 0) 2)) w6 := Kept.of_grown hg6 (fun j e => by cases e; exact .inl rfl)
    have hr6 := row_keep hrow hk6 (fun j e1 e2 => by
      cases e1
      have : w.heap.size + 1 = w.heap.size := e2
      omega)
    have hz6 : Below w.heap.size w w6 := hwA.grown hg6 hwA.size (fun j e => by cases e; exact Nat.le_refl _)
    have hfin := HP.out.1 w6 (w.heap.size + 1) hb6 hr6 hz6
    repeat (first | go_values | go_skip | go_guarded | go_step)
    exact bodyPost_row rfl w.heap.size rfl 27 _ _ hb6 Tryd.underlying27 rfl mach_size rfl hfin
  · obtain rfl : words = (n : Int) := by omega
    have hf1 : ¬ (n : Int) < 0 := by omega
    have hmk : ∀ W : World, (Instr.makeSlice 24 (.int .i64 (n : Int)) (.int .i64 (n : Int))).run Tryd.prog W = .ok (.slice (some ⟨W.heap.size, 0, none⟩) n n) (W.alloc (.cells (madeCells #[.int .i64 0] n) 2)) := HP.out.2
    clear en
    go_wp2_with (first
      | (refine wpList_alloc rfl 27 rfl (mcells (newM 0) none 0 0).toArray mach_zero ?_; intro w1 hb1 hw1 hz1)
      | (with_reducible refine st_store 27 ?_; refine stopped ?_)
      | fail)
    have hrow := newRowW w1 w.heap.size n (by omega) hw1.size
    rw [hz1] at hrow
    have hbA := hb1.alloc (.cells (madeCells #[.int .i64 0] n) 2)
    have hwA := hw1.alloc hw1.size (.cells (madeCells #[.int .i64 0] n) 2)
    refine go_on ?_
    refine wpList_store_whole rfl 27 (.tmp 2) (.tmp 8) rfl w.heap.size (mcells (newM 0) (some ⟨w.heap.size + 1, 0, none⟩) n n) rfl rfl 27 (mcells (newM 0) none 0 0) hbA mach_size rfl (mcells_one _ _ _ _) ?_
    intro w6 hb6 hg6
    have hk6 : Kept (fun j => j = w.heap.size) (w1.alloc (.cells (madeCells #[.int .i64 0] n) 2)) w6 := Kept.of_grown hg6 (fun j e => by cases e; exact .inl rfl)
    have hr6 := row_keep hrow hk6 (fun j e1 e2 => by
      cases e1
      have : w.heap.size + 1 = w.heap.size := e2
      omega)
    have hz6 : Below w.heap.size w w6 := hwA.grown hg6 hwA.size (fun j e => by cases e; exact Nat.le_refl _)
    have hfin := HP.out.1 w6 (w.heap.size + 1) hb6 hr6 hz6
    repeat (first | go_values | go_skip | go_guarded | go_step)
    exact bodyPost_row rfl w.heap.size rfl 27 _ _ hb6 Tryd.underlying27 rfl mach_size rfl hfin
  · obtain rfl : n = 64 := by omega
    have hf1 : ¬ words < 0 := by omega
    have hmk : ∀ W : World, (Instr.makeSlice 24 (.int .i64 64) (.int .i64 64)).run Tryd.prog W = .ok (.slice (some ⟨W.heap.size, 0, none⟩) 64 64) (W.alloc (.cells (madeCells #[.int .i64 0] 64) 2)) := HP.out.2
    clear en
    go_wp2_with (first
      | (refine wpList_alloc rfl 27 rfl (mcells (newM 0) none 0 0).toArray mach_zero ?_; intro w1 hb1 hw1 hz1)
      | (with_reducible refine st_store 27 ?_; refine stopped ?_)
      | fail)
    have hrow := newRowW w1 w.heap.size 64 (by omega) hw1.size
    rw [hz1] at hrow
    have hbA := hb1.alloc (.cells (madeCells #[.int .i64 0] 64) 2)
    have hwA := hw1.alloc hw1.size (.cells (madeCells #[.int .i64 0] 64) 2)
    refine go_on ?_
    refine wpList_store_whole rfl 27 (.tmp 2) (.tmp 8) rfl w.heap.size (mcells (newM 0) (some ⟨w.heap.size + 1, 0, none⟩) 64 64) rfl rfl 27 (mcells (newM 0) none 0 0) hbA mach_size rfl (mcells_one _ _ _ _) ?_
    intro w6 hb6 hg6
    have hk6 : Kept (fun j => j = w.heap.size) (w1.alloc (.cells (madeCells #[.int .i64 0] 64) 2)) w6 := Kept.of_grown hg6 (fun j e => by cases e; exact .inl rfl)
    have hr6 := row_keep hrow hk6 (fun j e1 e2 => by
      cases e1
      have : w.heap.size + 1 = w.heap.size := e2
      omega)
    have hz6 : Below w.heap.size w w6 := hwA.grown hg6 hwA.size (fun j e => by cases e; exact Nat.le_refl _)
    have hfin := HP.out.1 w6 (w.heap.size + 1) hb6 hr6 hz6
    repeat (first | go_values | go_skip | go_guarded | go_step)
    exact bodyPost_row rfl w.heap.size rfl 27 _ _ hb6 Tryd.underlying27 rfl mach_size rfl hfin
end Go.Proofs.YthgiehlfmdobkaaDoor
