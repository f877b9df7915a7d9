/-
  Package pvm's effect and step, by their contracts. Conditions: each theorem's own premises.
-/
import Derived.Test.YthgiehlfmdobkaaDoorPvmEff
import Derived.Test.YthgiehlfmdobkaaDoorPvmFnE
namespace Go.Proofs.YthgiehlfmdobkaaDoor
open Go.RowKit

theorem pvEffect {B g : Nat} {M : Mach} {A : Option Addr} {n cp : Nat} (w : World) (hv : MV B w g M A n cp) (hn : n ≤ 1000000) (op a b c : Nat) (hi : Ins.ok ⟨op, a, b, c⟩) (hf : formedB ⟨op, a, b, c⟩ = true) (hp0 : 0 ≤ M.p) (hp9 : M.p < 1000000) :
    Calls Tryd.prog 49 #[.pointer (some ⟨g, 0, none⟩), .agg #[.int .u8 (op : Int), .int .u8 (a : Int), .int .u8 (b : Int), .int .u8 (c : Int)]] w (EffPost B g A n cp w (effM ⟨op, a, b, c⟩ M)) := by
  have h17 : op ≤ 17 := by
    rcases Nat.lt_or_ge 17 op with h | h
    · rw [formed_big h] at hf; cases hf
    · exact h
  by_cases h0 : op = 0
  · exact pvEff0 w hv hn op a b c hi hf hp0 hp9 h0
  by_cases h1 : op = 1
  · exact pvEff1 w hv hn op a b c hi hf hp0 hp9 h1
  by_cases h12 : op ≤ 12
  · exact pvEffC w hv hn op a b c hi hf hp0 hp9 (by omega) h12
  by_cases h15 : op = 15
  · exact pvEffJ w hv hn op a b c hi hf hp0 hp9 h15
  by_cases h16 : op = 16
  · exact pvEffZ w hv hn op a b c hi hf hp0 hp9 h16
  by_cases h17 : op = 17
  · exact pvEffK w hv hn op a b c hi hf hp0 hp9 h17
  exact pvEffX w hv hn op a b c hi hf hp0 hp9 (by omega)
theorem fetch_ok {l : List Ins} (hl : okL l) (k : Int) : Ins.ok (fetchM l k).1 ∧ R64 (fetchM l k).2 := by
  have h0 : Ins.ok i0 := ⟨by decide, by decide, by decide, by decide⟩
  unfold fetchM
  split
  · exact ⟨h0, r64_small (by decide) (by decide)⟩
  · rename_i h
    split
    · exact ⟨h0, r64_small (by decide) (by decide)⟩
    · exact ⟨okL_get hl (by omega), r64_0⟩
theorem step_fetch {l : List Ins} {M : Mach} (hs : M.s = 0) : stepM l M = if (fetchM l M.p).2 ≠ 0 then trapM M (fetchM l M.p).2 else doM (fetchM l M.p).1 M := by
  unfold stepM fetchM
  rw [if_neg (by omega)]
  split
  · rfl
  · split
    · rename_i hf
      unfold doM
      rw [if_pos hf]
      rfl
    · rfl
theorem fetch_zero {l : List Ins} {k : Int} (h : (fetchM l k).2 = 0) : formedB (fetchM l k).1 = true ∧ 0 ≤ k ∧ k < l.length := by
  unfold fetchM at h ⊢
  split at h
  · exact absurd h (by decide : ¬ (82 : Int) = 0)
  · rename_i h1
    split at h
    · exact absurd h (by decide : ¬ (83 : Int) = 0)
    · rename_i h2
      rw [if_neg h1, if_neg h2]
      exact ⟨by simpa using h2, by omega, by omega⟩
theorem eff_same {i : Ins} {M : Mach} (h : (effM i M).2.2.2 ≠ 0) : (effM i M).1 = M := by
  unfold effM at h ⊢
  split at h
  · exact absurd rfl h
  rename_i h0
  rw [if_neg h0]
  split at h
  · exact absurd rfl h
  rename_i h1
  rw [if_neg h1]
  split at h
  · rename_i h2
    rw [if_pos h2]
    split at h
    · exact absurd rfl h
    · rename_i h3
      rw [if_neg h3]
  rename_i h2
  rw [if_neg h2]
  split at h
  · rename_i h3
    rw [if_pos h3]
    split at h
    · exact absurd rfl h
    · rename_i h4
      rw [if_neg h4]
  split at h
  · exact absurd rfl h
  split at h
  · exact absurd rfl h
  · exact absurd rfl h
theorem calc_trap (op : Nat) (a b : Int) : R64 (calcM op a b).2 := by
  unfold calcM
  split
  · exact r64_small (by decide) (by decide)
  · exact r64_0
theorem exch_trap (op a b c : Nat) (M : Mach) : R64 (exchM op a b c M).2 := by
  unfold exchM
  split
  · exact r64_small (show (-65536 : Int) ≤ 81 by decide) (show (81 : Int) ≤ 65536 by decide)
  · exact r64_0
theorem eff_trap {i : Ins} {M : Mach} (h : (effM i M).2.2.2 ≠ 0) : R64 (effM i M).2.2.2 := by
  unfold effM at h ⊢
  split at h
  · exact absurd rfl h
  rename_i h0
  rw [if_neg h0]
  split at h
  · exact absurd rfl h
  rename_i h1
  rw [if_neg h1]
  split at h
  · rename_i h2
    rw [if_pos h2]
    split at h
    · exact absurd rfl h
    · rename_i h3
      rw [if_neg h3]
      exact calc_trap _ _ _
  rename_i h2
  rw [if_neg h2]
  split at h
  · rename_i h3
    rw [if_pos h3]
    split at h
    · exact absurd rfl h
    · rename_i h4
      rw [if_neg h4]
      exact exch_trap _ _ _ _ _
  split at h
  · exact absurd rfl h
  split at h
  · exact absurd rfl h
  · exact absurd rfl h
def SPost (B g : Nat) (A : Option Addr) (n cp : Nat) (w : World) (r : Mach × Int × Int) (e : Ending) (w' : World) : Prop := e = .returned (ev r.2.1 r.2.2) ∧ MV B w' g r.1 A n cp ∧ Kept (FF g A) w w'

set_option maxRecDepth 100000 in
set_option maxHeartbeats 4000000 in
set_option linter.unusedSimpArgs false in
theorem pvStepAt (w0 : World) (L : Option Addr) (l : List Ins) (n cp : Nat) (hl : l.length = n) (hn : n ≤ 1000000) (hL : InsAt w0 L l) (hG : HasErr w0) {g : Nat} {M : Mach} {A : Option Addr} {m c : Nat} (hm : m ≤ 1000000) (w : World) (hw : Below w0.heap.size w0 w) (hv : MV w0.heap.size w g M A m c) :
    Calls Tryd.prog 28 #[.pointer (some ⟨g, 0, none⟩), .slice L n cp] w (SPost w0.heap.size g A m c w (stepM l M)) := by
  obtain ⟨r, er⟩ : ∃ r, stepM l M = r := ⟨_, rfl⟩
  obtain ⟨s, es⟩ : ∃ s, M.s = s := ⟨_, rfl⟩
  obtain ⟨p, ep⟩ : ∃ p, M.p = p := ⟨_, rfl⟩
  rw [er]
  have H := Lib.hid (And.intro hl (And.intro hn (And.intro hL (And.intro hG (And.intro hm (And.intro hw (And.intro hv (And.intro er (And.intro es ep)))))))))
  clear hl hn hL hG hm hw hv er ep
  go_enter Tryd.func28, Tryd.ntmps28
  go_wp2_with (first
    | (with_reducible refine st_alloc 38 ?_; refine stopped ?_)
    | fail)
  refine go_on ?_
  refine wpList_alloc rfl 38 rfl #[.int .i64 0, .int .i64 0] event_zero ?_
  intro w1 hb1 hw1 hz1
  simp only [Act.put, List.setIfInBounds_toArray, List.set_cons_zero, List.set_cons_succ]
  have hv1 := H.out.2.2.2.2.2.2.1.below hw1
  have hfl := H.out.2.2.2.2.2.2.1.fl
  have H1 := Lib.hid (And.intro hv1 (And.intro hb1 (And.intro hw1 hfl)))
  have hcs := hv1.cs
  rw [es] at hcs
  have hcp := hv1.cp
  rw [H.out.2.2.2.2.2.2.2.2.2] at hcp
  clear hv1 hb1 hw1 hz1 hfl
  refine wpList_nil ?_
  by_cases hs : s = 0
  · subst hs
    have hf9 := fun W (h : Below w.heap.size w W) => pvFetch L l n cp H.out.1 H.out.2.1 p W (H.out.2.2.1.below (H.out.2.2.2.2.2.1.trans (h.mono H.out.2.2.2.2.2.1.size))) (H.out.2.2.2.1.below (H.out.2.2.2.2.2.1.trans (h.mono H.out.2.2.2.2.2.1.size)))
    have hr := step_fetch (l := l) es
    rw [H.out.2.2.2.2.2.2.2.2.2, H.out.2.2.2.2.2.2.2.1] at hr
    have hfo := fetch_ok (l := l) H.out.2.2.1.ok p
    have hfz := fun h => fetch_zero (l := l) (k := p) h
    obtain ⟨⟨⟨op, a, b, c'⟩, ft⟩, ef⟩ : ∃ f, fetchM l p = f := ⟨_, rfl⟩
    rw [ef] at hf9 hr hfo hfz
    rw [a4_val] at hf9
    have HF := Lib.hid (And.intro hf9 (And.intro hr (And.intro hfo hfz)))
    clear hf9 hr hfo hfz ef
    go_wp2_with (first
      | (go_at_call 47; refine (HF.out.1 _ H1.out.2.2.1).mono ?_; rintro e w2 ⟨rfl, hb2⟩)
      | (with_reducible refine st_alloc 61 ?_; refine stopped ?_)
      | fail)
    have hv2 := H1.out.1.below hb2
    have hr2 := H1.out.2.1.below hb2 H1.out.2.1.lt
    have hk2 : Kept (FF g A) w w2 := Kept.of_below (H1.out.2.2.1.trans (hb2.mono H1.out.2.2.1.size))
    have hsz : w.heap.size < w2.heap.size := hr2.lt
    refine go_on ?_
    refine wpList_alloc rfl 61 rfl #[.int .u8 0, .int .u8 0, .int .u8 0, .int .u8 0] instr_zero ?_
    intro w3 hb3 hw3 hz3
    have H3 := Lib.hid (And.intro (hv2.below hw3) (And.intro (hr2.below hw3 hr2.lt) (And.intro hb3 (And.intro (hk2.trans (Kept.of_below (F := FF g A) hw3) (fun _ => .inl)) hsz))))
    clear hv2 hr2 hk2 hb3 hw3 hz3 hb2 hcs hcp
    obtain ⟨g2, eg2⟩ : ∃ x, w2.heap.size = x := ⟨_, rfl⟩
    rw [eg2] at H3
    simp only [Act.put, List.setIfInBounds_toArray, List.set_cons_zero, List.set_cons_succ]
    rw [eg2]
    clear eg2
    go_wp2_with (first
      | (with_reducible refine st_store 61 ?_; refine stopped ?_)
      | fail)
    refine go_on ?_
    refine wpList_store_whole rfl 61 (.tmp 5) (.tmp 21) rfl g2 (a4 op a b c') rfl rfl 61 (a4 0 0 0 0) H3.out.2.2.1 instr_size rfl (a4_one _ _ _ _) ?_
    intro w4 hb4 hg4
    have hkk : Kept (fun j => j = g2) w3 w4 := Kept.of_grown hg4 (fun j e => by cases e; exact .inl rfl)
    have hng : ∀ k, FF g A k → ¬ k = g2 := fun k hk e => by have := H1.out.2.2.2 k hk; have := H3.out.2.2.2.2; omega
    have H4 := Lib.hid (And.intro (H3.out.1.keep hkk hng) (And.intro (hkk.blk H3.out.2.1 (by have := H3.out.2.2.2.2; omega)) (And.intro hb4 (H3.out.2.2.2.1.trans hkk (fun j e => .inr (by have := H3.out.2.2.2.2; omega))))))
    clear hb4 hg4 hkk hng
    simp only [Act.put, List.setIfInBounds_toArray, List.set_cons_zero, List.set_cons_succ]
    by_cases hft : ft = 0
    · subst hft
      have hr := HF.out.2.1
      rw [if_neg (by simp), eff_do (HF.out.2.2.2 rfl).1] at hr
      have hp9 := (HF.out.2.2.2 rfl).2
      have hef := pvEffect w4 H4.out.1 H.out.2.2.2.2.1 op a b c' HF.out.2.2.1.1 (HF.out.2.2.2 rfl).1 (by rw [H.out.2.2.2.2.2.2.2.2.2]; exact hp9.1) (by rw [H.out.2.2.2.2.2.2.2.2.2]; have := H.out.1; have := H.out.2.1; omega)
      obtain ⟨X, kd, nm, t, ee⟩ : ∃ X kd nm t, effM ⟨op, a, b, c'⟩ M = (X, kd, nm, t) := ⟨_, _, _, _, rfl⟩
      rw [ee] at hr hef
      dsimp only at hr
      have hXm : t ≠ 0 → X = M := fun h => by
        by_cases h9 : (effM ⟨op, a, b, c'⟩ M).2.2.2 = 0
        · rw [ee] at h9; exact absurd h9 h
        · have := eff_same h9; rw [ee] at this; exact this
      have htr : t ≠ 0 → R64 t := fun h => by
        by_cases h9 : (effM ⟨op, a, b, c'⟩ M).2.2.2 = 0
        · rw [ee] at h9; exact absurd h9 h
        · have := eff_trap h9; rw [ee] at this; exact this
      have HE := Lib.hid (And.intro hef (And.intro hr (And.intro hXm htr)))
      clear hef hr hXm htr ee hp9
      go_wp2_with (first
        | (with_reducible refine st_load 61 ?_; refine stopped ?_)
        | fail)
      refine go_on ?_
      refine wpList_load_at rfl 61 (.tmp 5) rfl g2 0 rfl (a4 op a b c').toArray _ (Blk.cells H4.out.2.2.1) Tryd.underlying61 rfl instr_size ?_
      simp only [Act.put, List.setIfInBounds_toArray, List.set_cons_zero, List.set_cons_succ]
      go_wp2_with (first
        | (go_at_call 49; refine HE.out.1.mono ?_; rintro e w5 ⟨rfl, hv5, hk5⟩)
        | (with_reducible refine st_alloc 38 ?_; refine stopped ?_)
        | fail)
      have hnr : ∀ k, FF g A k → ¬ k = w.heap.size := fun k hk e => by have := H1.out.2.2.2 k hk; omega
      have hr5 := hk5.blk H4.out.2.1 (fun h => hnr _ h rfl)
      have hkw5 : Kept (FF g A) w w5 := H4.out.2.2.2.trans hk5 (fun _ => .inl)
      refine go_on ?_
      refine wpList_alloc rfl 38 rfl #[.int .i64 0, .int .i64 0] event_zero ?_
      intro w6 hb6 hw6 hz6
      have H6 := Lib.hid (And.intro (hv5.below hw6) (And.intro (hr5.below hw6 hr5.lt) (And.intro hb6 (And.intro (hkw5.trans (Kept.of_below (F := FF g A) hw6) (fun _ => .inl)) (And.intro hr5.lt hv5.fl)))))
      clear hv5 hr5 hkw5 hb6 hw6 hz6 hk5
      obtain ⟨g3, eg3⟩ : ∃ x, w5.heap.size = x := ⟨_, rfl⟩
      rw [eg3] at H6
      simp only [Act.put, List.setIfInBounds_toArray, List.set_cons_zero, List.set_cons_succ]
      rw [eg3]
      clear eg3
      go_wp2_with (first
        | (with_reducible refine st_store 38 ?_; refine stopped ?_)
        | fail)
      refine go_on ?_
      refine wpList_store_whole rfl 38 (.tmp 7) (.tmp 32) rfl g3 [.int .i64 kd, .int .i64 nm] rfl rfl 38 [.int .i64 0, .int .i64 0] H6.out.2.2.1 event_size rfl (ev_one _ _) ?_
      intro w7 hb7 hg7
      have hkk : Kept (fun j => j = g3) w6 w7 := Kept.of_grown hg7 (fun j e => by cases e; exact .inl rfl)
      have hng : ∀ k, FF g A k → ¬ k = g3 := fun k hk e => by have := H6.out.2.2.2.2.2 k hk; omega
      have H7 := Lib.hid (And.intro (H6.out.1.keep hkk hng) (And.intro (hkk.blk H6.out.2.1 (by have := H6.out.2.2.2.2.1; omega)) (And.intro hb7 (H6.out.2.2.2.1.trans hkk (fun j e => .inr (by have := H6.out.2.2.2.2.1; omega))))))
      clear hb7 hg7 hkk hng
      simp only [Act.put, List.setIfInBounds_toArray, List.set_cons_zero, List.set_cons_succ]
      by_cases ht : t = 0
      · subst ht
        have hr := HE.out.2.1
        rw [if_pos rfl] at hr
        subst hr
        go_wp2_with (first
          | (with_reducible refine st_load 38 ?_; refine stopped ?_)
          | fail)
        refine go_on ?_
        refine wpList_load_at rfl 38 (.tmp 7) rfl g3 0 rfl #[.int .i64 kd, .int .i64 nm] _ (Blk.cells H7.out.2.2.1) Tryd.underlying38 rfl event_size ?_
        refine wpList_store_whole rfl 38 (.tmp 4) (.tmp 39) rfl w.heap.size [.int .i64 kd, .int .i64 nm] rfl rfl 38 [.int .i64 0, .int .i64 0] H7.out.2.1 event_size rfl (ev_one _ _) ?_
        intro w9 hb9 hg9
        have hkk : Kept (fun j => j = w.heap.size) w7 w9 := Kept.of_grown hg9 (fun j e => by cases e; exact .inl rfl)
        have hfin := And.intro (H7.out.1.keep hkk hnr) (H7.out.2.2.2.trans hkk (fun j e => .inr (by omega)))
        simp only [Act.put, List.setIfInBounds_toArray, List.set_cons_zero, List.set_cons_succ]
        refine wpList_nil ?_
        repeat (first | go_values | go_skip | go_guarded | go_step)
        exact bodyPost_row rfl w.heap.size rfl 38 _ _ hb9 Tryd.underlying38 rfl event_size rfl ⟨rfl, hfin⟩
      · have htb : (t != 0) = true := by rw [bne_iff_ne]; exact ht
        have hr := HE.out.2.1
        rw [if_neg ht] at hr
        subst hr
        obtain rfl := HE.out.2.2.1 ht
        have htp := pvTrap w7 H7.out.1 t (HE.out.2.2.2 ht)
        have HT := Lib.hid htp
        clear htp
        go_wp2_with (first
          | (go_at_call 48; refine HT.out.mono ?_; rintro e w8 ⟨rfl, hv8, hk8⟩)
          | (with_reducible refine st_store 38 ?_; refine stopped ?_)
          | fail)
        have hr8 := hk8.blk H7.out.2.1 (fun h => hnr _ h rfl)
        refine go_on ?_
        refine wpList_store_whole rfl 38 (.tmp 4) (.tmp 38) rfl w.heap.size [.int .i64 3, .int .i64 t] rfl rfl 38 [.int .i64 0, .int .i64 0] hr8 event_size rfl (ev_one _ _) ?_
        intro w9 hb9 hg9
        have hkk : Kept (fun j => j = w.heap.size) w8 w9 := Kept.of_grown hg9 (fun j e => by cases e; exact .inl rfl)
        have hfin := And.intro (hv8.keep hkk hnr) ((H7.out.2.2.2.trans hk8 (fun _ => .inl)).trans hkk (fun j e => .inr (by omega)))
        simp only [Act.put, List.setIfInBounds_toArray, List.set_cons_zero, List.set_cons_succ]
        refine wpList_nil ?_
        repeat (first | go_values | go_skip | go_guarded | go_step)
        exact bodyPost_row rfl w.heap.size rfl 38 _ _ hb9 Tryd.underlying38 rfl event_size rfl ⟨rfl, hfin⟩
    · have htb : (ft != 0) = true := by rw [bne_iff_ne]; exact hft
      have hr := HF.out.2.1
      rw [if_pos hft] at hr
      subst hr
      have hnr : ∀ k, FF g A k → ¬ k = w.heap.size := fun k hk e => by have := H1.out.2.2.2 k hk; omega
      have htp := pvTrap w4 H4.out.1 ft HF.out.2.2.1.2
      have HT := Lib.hid htp
      clear htp
      go_wp2_with (first
        | (go_at_call 48; refine HT.out.mono ?_; rintro e w8 ⟨rfl, hv8, hk8⟩)
        | (with_reducible refine st_store 38 ?_; refine stopped ?_)
        | fail)
      have hr8 := hk8.blk H4.out.2.1 (fun h => hnr _ h rfl)
      refine go_on ?_
      refine wpList_store_whole rfl 38 (.tmp 4) (.tmp 27) rfl w.heap.size [.int .i64 3, .int .i64 ft] rfl rfl 38 [.int .i64 0, .int .i64 0] hr8 event_size rfl (ev_one _ _) ?_
      intro w9 hb9 hg9
      have hkk : Kept (fun j => j = w.heap.size) w8 w9 := Kept.of_grown hg9 (fun j e => by cases e; exact .inl rfl)
      have hfin := And.intro (hv8.keep hkk hnr) ((H4.out.2.2.2.trans hk8 (fun _ => .inl)).trans hkk (fun j e => .inr (by omega)))
      simp only [Act.put, List.setIfInBounds_toArray, List.set_cons_zero, List.set_cons_succ]
      refine wpList_nil ?_
      repeat (first | go_values | go_skip | go_guarded | go_step)
      exact bodyPost_row rfl w.heap.size rfl 38 _ _ hb9 Tryd.underlying38 rfl event_size rfl ⟨rfl, hfin⟩
  · have hsb : (s != 0) = true := by rw [bne_iff_ne]; exact hs
    have hr : (M, (0 : Int), (0 : Int)) = r := by
      rw [← H.out.2.2.2.2.2.2.2.1]
      unfold stepM
      rw [if_pos (by rw [es]; exact hs)]
    subst hr
    have hnr : ∀ k, FF g A k → ¬ k = w.heap.size := fun k hk e => by have := H1.out.2.2.2 k hk; omega
    go_wp2_with (first
      | (with_reducible refine st_store 38 ?_; refine stopped ?_)
      | fail)
    refine go_on ?_
    refine wpList_store_whole rfl 38 (.tmp 4) (.tmp 13) rfl w.heap.size [.int .i64 0, .int .i64 0] rfl rfl 38 [.int .i64 0, .int .i64 0] H1.out.2.1 event_size rfl (ev_one _ _) ?_
    intro w9 hb9 hg9
    have hkk : Kept (fun j => j = w.heap.size) w1 w9 := Kept.of_grown hg9 (fun j e => by cases e; exact .inl rfl)
    have hfin := And.intro (H1.out.1.keep hkk hnr) ((Kept.of_below (F := FF g A) H1.out.2.2.1).trans hkk (fun j e => .inr (by omega)))
    simp only [Act.put, List.setIfInBounds_toArray, List.set_cons_zero, List.set_cons_succ]
    refine wpList_nil ?_
    repeat (first | go_values | go_skip | go_guarded | go_step)
    exact bodyPost_row rfl w.heap.size rfl 38 _ _ hb9 Tryd.underlying38 rfl event_size rfl ⟨rfl, hfin⟩
end Go.Proofs.YthgiehlfmdobkaaDoor
