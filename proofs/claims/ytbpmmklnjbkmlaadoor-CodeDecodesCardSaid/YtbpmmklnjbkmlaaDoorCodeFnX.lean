/-
  Package code's places and Next, by their contracts. Conditions: each theorem's own premises.
-/
import Derived.Test.YtbpmmklnjbkmlaaDoorCodeFnC
namespace Go.Proofs.YtbpmmklnjbkmlaaDoor
open Go.RowKit

def placesL (n : Nat) (N : List Int) : List Int := N.filter fun x => decide (0 ≤ x ∧ x < (n : Int))
def RowPost (w : World) (l : List Int) (e : Ending) (w' : World) : Prop := ∃ v, e = .returned v ∧ w'.ownsRow w.heap.size 3 1 v l.length (zv l) ∧ Below w.heap.size w w'

set_option maxRecDepth 100000 in
set_option maxHeartbeats 4000000 in
set_option linter.unusedSimpArgs false in
theorem coPlaces (A : Option Addr) (n cp : Nat) (B : Option Addr) (N : List Int) (m c : Nat) (hN : N.length = m) (hm : m ≤ 1000) (w : World) (hB : Vs w w.heap.size B (zv N)) :
    Calls Tryd.prog 31 #[.slice A n cp, .slice B m c] w (RowPost w (placesL n N)) := by
  obtain ⟨i1, hi0, hz0, hz1, hz2⟩ := info_parts i_info
  have H := Lib.hid (And.intro hN hB)
  clear hN hB
  go_enter Tryd.func31, Tryd.ntmps31
  go_wp2_with fail
  go_loopw [5, 10] (fun v u wz => ∃ (i q : Nat) (A1 : Option Addr) (c1 : Nat), i ≤ m ∧ q ≤ i ∧ u = .int .i64 (i : Int) ∧ v = .slice A1 q c1 ∧ q = (placesL n (N.take i)).length ∧ wz.ownsRow w.heap.size 3 1 (.slice A1 q c1) q (zv (placesL n (N.take i))) ∧ Below w.heap.size w wz) (fun _ u _ => m - (intOf u).toNat)
  case atStart => exact ⟨0, 0, none, 0, by omega, by omega, rfl, rfl, rfl, row_nil _ _ _ _, Below.refl _ _⟩
  case round =>
    obtain ⟨i, q, A1, c1, him, hqi, rfl, rfl, hq, hrow, hbel⟩ := hrel
    have HI := Lib.hid (And.intro hrow (And.intro hbel hq))
    clear hrow hq
    by_cases hlt : i < m
    · have hii : (i : Int) < (m : Int) := by omega
      have hige : (0 : Int) ≤ (i : Int) := by omega
      obtain ⟨x, ex⟩ : ∃ x, N.getD i 0 = x := ⟨_, rfl⟩
      obtain ⟨bb, o, eB, hbb, hcell⟩ := H.out.2 (by rw [zv_length, H.out.1]; omega)
      have d0 : wr.cell? ⟨bb, o + i, none⟩ = some (.int .i64 x) := (hbel.cell (p := ⟨bb, o + i, none⟩) hbb).trans (by rw [← ex]; exact hcell i _ (zv_get (by rw [H.out.1]; exact hlt)))
      have hpl := fun W => coPlace A n cp x W
      have htk : N.take (i + 1) = N.take i ++ [x] := by
        rw [List.take_add_one, ← ex]
        simp [List.getD, show i < N.length by rw [H.out.1]; exact hlt]
      subst eB
      clear hcell ex
      by_cases hp : 0 ≤ x ∧ x < (n : Int)
      · rw [decide_eq_true hp] at hpl
        have hpt : placesL n (N.take (i + 1)) = placesL n (N.take i) ++ [x] := by
          rw [htk]
          unfold placesL
          rw [List.filter_append, List.filter_cons_of_pos (by exact decide_eq_true hp), List.filter_nil]
        have HF := Lib.hid (And.intro hpl hpt)
        clear hpl hpt htk
        go_wp2_with (first
          | (go_at_call 25; refine (HF.out.1 _).mono ?_; rintro e w4 ⟨rfl, hb4⟩; have hz4 := HI.out.2.1.trans (hb4.mono HI.out.2.1.size); have HK := Lib.hid (And.intro hb4 hz4); clear hb4 hz4)
          | (at_builtin; refine wpList_append_row _ rfl (.tmp 17) (.tmp 19) 33 rfl w.heap.size 3 i1 _ 1 8 Tryd.underlying33 hi0 hz0 hz1 hz2 rfl (by decide) (.slice A1 q c1) q (zv (placesL n (N.take i))) rfl (row_alloc (row_below HI.out.1 HK.out.1) _) (w4.heap.size + 1) (some ⟨w4.heap.size, 0, none⟩) 1 1 [.int .i64 x] rfl (vs_of_blk (Blk.new w4 3 #[.int .i64 x]) (Nat.lt_succ_self _)) rfl (zv_one [x]) (by omega) (by unfold maxLen; omega) (by have := HK.out.2.size; simp; omega) ?_; refine fun v5 w5 hown5 hg5 _ => stopped ?_)
          | fail)
        obtain ⟨A5, c5, rfl, _, _, _, _⟩ := vs_of_row hown5
        have hbA : Below w.heap.size w (w4.alloc (.cells #[.int .i64 x] 3)) := HK.out.2.trans ((below_alloc w4 _).mono HK.out.2.size)
        have hb5 : Below w.heap.size w w5 := hbA.trans (only_below hg5 hbA.size (fun g' e => (World.ownsRow.lt HI.out.1 g' e).1))
        have heq : zv (placesL n (N.take i)) ++ [.int .i64 x] = zv (placesL n (N.take (i + 1))) := by rw [HF.out.2]; simp [zv]
        rw [heq] at hown5
        have hq5 : q + 1 = (placesL n (N.take (i + 1))).length := by rw [HF.out.2, List.length_append, HI.out.2.2]; rfl
        have HJ := Lib.hid (And.intro hown5 (And.intro hb5 hq5))
        clear hbA hb5 hown5 hg5 heq hq5
        refine go_on ?_
        go_wp2_with fail
        go_roundw
        case rel => exact ⟨i + 1, q + 1, A5, c5, by omega, by omega, by go_num, rfl, HJ.out.2.2, HJ.out.1, HJ.out.2.1⟩
        case measure => simp [intOf]; omega
      · rw [decide_eq_false hp] at hpl
        have hpt : placesL n (N.take (i + 1)) = placesL n (N.take i) := by
          rw [htk]
          unfold placesL
          rw [List.filter_append, List.filter_cons_of_neg (by simpa using hp), List.filter_nil, List.append_nil]
        have HF := Lib.hid (And.intro hpl hpt)
        clear hpl hpt htk
        go_wp2_with (first
          | (go_at_call 25; refine (HF.out.1 _).mono ?_; rintro e w4 ⟨rfl, hb4⟩; have hz4 := HI.out.2.1.trans (hb4.mono HI.out.2.1.size); have HK := Lib.hid (And.intro hb4 hz4); clear hb4 hz4)
          | fail)
        go_roundw
        case rel => exact ⟨i + 1, q, A1, c1, by omega, by omega, by go_num, rfl, by rw [HF.out.2]; exact HI.out.2.2, by rw [HF.out.2]; exact row_below HI.out.1 HK.out.1, HK.out.2⟩
        case measure => simp [intOf]; omega
    · obtain rfl : i = m := by omega
      have hii : ¬ (i : Int) < (i : Int) := by omega
      go_wp2_with fail
      go_ret
      have hr := HI.out.1
      have hq := HI.out.2.2
      rw [List.take_of_length_le (by rw [H.out.1]; exact Nat.le_refl _)] at hr hq
      exact ⟨_, rfl, by rw [← hq]; exact hr, hbel⟩
theorem placesL_nat (n : Nat) : ∀ L : List Nat, placesL n (L.map fun (k : Nat) => (k : Int)) = (L.filter fun m => decide (m < n)).map fun (k : Nat) => (k : Int)
  | [] => rfl
  | k :: r => by
    have ih := placesL_nat n r
    unfold placesL at ih ⊢
    by_cases h : k < n
    · rw [List.map_cons, List.filter_cons_of_pos (by exact decide_eq_true (by omega)), List.filter_cons_of_pos (by exact decide_eq_true h), List.map_cons, ih]
    · rw [List.map_cons, List.filter_cons_of_neg (by simp; omega), List.filter_cons_of_neg (by simpa using h), ih]
theorem nextL_in {l : List Ins} {n a : Nat} (hl : l.length = n) (ha : a < n) : nextL l (a : Int) = (cands (l.getD a i0) a).filter fun m => decide (m < n) := by
  unfold nextL
  rw [if_neg (by omega), Int.toNat_natCast, hl]
theorem vsNew (W0 : World) (g : Nat) (hg : W0.heap.size = g) (N : List Int) : Vs (W0.alloc (.cells (zv N).toArray 3)) (W0.alloc (.cells (zv N).toArray 3)).heap.size (some ⟨g, 0, none⟩) (zv N) := by
  subst hg
  exact vs_of_blk (Blk.new W0 3 (zv N).toArray) (by simp)
theorem row_mono {w : World} {base base' n size : Nat} {e : TypeId} {v : Value} {vs : List Value} (h : w.ownsRow base e size v n vs) (hb : base' ≤ base) : w.ownsRow base' e size v n vs := by
  refine ⟨h.1, ?_⟩
  rcases h.2 with h2 | ⟨g, cap, cur, hv, hg, hr⟩
  · exact .inl h2
  · exact .inr ⟨g, cap, cur, hv, by omega, hr⟩
def natI (l : List Nat) : List Int := l.map fun (k : Nat) => (k : Int)

set_option maxRecDepth 100000 in
set_option maxHeartbeats 4000000 in
set_option linter.unusedSimpArgs false in
theorem coNextOwn (A : Option Addr) (l : List Ins) (n cp : Nat) (hl : l.length = n) (hn : n ≤ 1000000) (w : World) (hA : InsAt w A l) (at_ : Int) : Calls Tryd.prog 18 #[.slice A n cp, .int .i64 at_] w (RowPost w (natI (nextL l at_))) := by
  have H := Lib.hid (And.intro hl hA)
  clear hl hA
  have hpl := fun W => coPlace A n cp at_ W
  by_cases hp : 0 ≤ at_ ∧ at_ < (n : Int)
  · rw [decide_eq_true hp] at hpl
    obtain ⟨hp0, hpn⟩ := hp
    obtain ⟨a, ea⟩ : ∃ a : Nat, at_ = (a : Int) := ⟨at_.toNat, by omega⟩
    subst ea
    have han : a < n := by omega
    rw [nextL_in H.out.1 han]
    obtain ⟨b, o, op, x, bb, c, eA, hbl, eI, hok, hce⟩ := H.out.2.at_ (j := a) (by rw [H.out.1]; exact han)
    rw [eI]
    have d0 : ∀ W, Below w.heap.size w W → W.cell? ⟨b, o + a * 4, none⟩ = some (.int .u8 (op : Int)) := fun W h => (hce W h).1
    have d1 : ∀ W, Below w.heap.size w W → W.cell? ⟨b, o + a * 4 + 1, none⟩ = some (.int .u8 (x : Int)) := fun W h => (hce W h).2.1
    have d2 : ∀ W, Below w.heap.size w W → W.cell? ⟨b, o + a * 4 + 2, none⟩ = some (.int .u8 (bb : Int)) := fun W h => (hce W h).2.2.1
    have d3 : ∀ W, Below w.heap.size w W → W.cell? ⟨b, o + a * 4 + 3, none⟩ = some (.int .u8 (c : Int)) := fun W h => (hce W h).2.2.2
    have hrn := fun W => coNumber op x bb c hok W
    obtain ⟨z, ez⟩ : ∃ z, bb + 256 * c = z := ⟨_, rfl⟩
    have hzn : (⟨op, x, bb, c⟩ : Ins).num = z := ez
    have hz0 : z ≤ 65535 := by have h1 : bb < 256 := hok.2.2.1; have h2 : c < 256 := hok.2.2.2; omega
    subst eA
    clear hce eI hok
    have HP := Lib.hid hpl
    clear hpl
    by_cases h0 : op = 0
    · subst h0
      rw [show cands ⟨0, x, bb, c⟩ a = [] from rfl]
      go_enter Tryd.func18, Tryd.ntmps18
      go_wp2_with (first
        | (go_at_call 25; refine (HP.out _).mono ?_; rintro e w1 ⟨rfl, hb1⟩; have hz1 : Below w.heap.size w w1 := hb1; have hzA := hz1.alloc hz1.size (.cells #[.int .u8 (0 : Int), .int .u8 (x : Int), .int .u8 (bb : Int), .int .u8 (c : Int)] 46))
        | fail)
      go_ret
      exact ⟨_, rfl, row_nil _ _ _ _, hzA⟩
    · by_cases h15 : op = 15
      · subst h15
        rw [show cands ⟨15, x, bb, c⟩ a = [z] by rw [← hzn]; rfl, natI, ← placesL_nat]
        rw [numS_place (.inl rfl), ez] at hrn
        have HQ := Lib.hid hrn
        clear hrn ez hzn
        go_enter Tryd.func18, Tryd.ntmps18
        go_wp2_with (first
          | (go_at_call 25; refine (HP.out _).mono ?_; rintro e w1 ⟨rfl, hb1⟩; have hz1 : Below w.heap.size w w1 := hb1; have hzA := hz1.alloc hz1.size (.cells #[.int .u8 (15 : Int), .int .u8 (x : Int), .int .u8 (bb : Int), .int .u8 (c : Int)] 46))
          | (go_at_call 21; refine (HQ.out _).mono ?_; rintro e w2 ⟨rfl, hb2⟩; have hz2 := hzA.trans (hb2.mono hzA.size))
          | (go_at_call 31; refine (coPlaces _ n cp _ [(z : Int)] 1 1 rfl (by decide) _ (vsNew _ _ (by simp) [(z : Int)])).mono ?_; rintro e w9 ⟨v9, rfl, hr9, hb9⟩; have hzB := hz2.alloc hz2.size (.cells (zv [(z : Int)]).toArray 3))
          | fail)
        go_ret
        exact ⟨_, rfl, row_mono hr9 hzB.size, hzB.trans (hb9.mono hzB.size)⟩
      · by_cases h16 : op = 16
        · subst h16
          rw [numS_place (.inr rfl), ez] at hrn
          have HQ := Lib.hid hrn
          have hcd : cands ⟨16, x, bb, c⟩ a = if a + 1 < z then [a + 1, z] else if z < a + 1 then [z, a + 1] else [a + 1] := by rw [← hzn]; rfl
          obtain ⟨a1, ea1⟩ : ∃ y, a + 1 = y := ⟨_, rfl⟩
          rw [ea1] at hcd
          have ea2 : (a : Int) + 1 = (a1 : Int) := by omega
          have ha1 : a1 ≤ 1000000 := by omega
          clear hrn ez hzn
          rcases Nat.lt_trichotomy a1 z with hc | hc | hc
          · skip
            rw [hcd, if_pos hc, natI, ← placesL_nat]
            have hne : ((z : Int) == (a1 : Int)) = false := by rw [beq_eq_false_iff_ne]; omega
            have hmin : min (z : Int) (a1 : Int) = (a1 : Int) := by omega
            have hmax : max (z : Int) (a1 : Int) = (z : Int) := by omega
            have hc1 : (a1 : Int) < (z : Int) := by omega
            have hc2 : ¬ (z : Int) < (a1 : Int) := by omega
            go_enter Tryd.func18, Tryd.ntmps18
            go_wp2_with (first
              | (go_at_call 25; refine (HP.out _).mono ?_; rintro e w1 ⟨rfl, hb1⟩; have hz1 : Below w.heap.size w w1 := hb1; have hzA := hz1.alloc hz1.size (.cells #[.int .u8 (16 : Int), .int .u8 (x : Int), .int .u8 (bb : Int), .int .u8 (c : Int)] 46))
              | (go_at_call 21; refine (HQ.out _).mono ?_; rintro e w2 ⟨rfl, hb2⟩; have hz2 := hzA.trans (hb2.mono hzA.size))
              | (go_at_call 31; refine (coPlaces _ n cp _ [(a1 : Int), (z : Int)] 2 2 rfl (by decide) _ (vsNew _ _ (by simp) [(a1 : Int), (z : Int)])).mono ?_; rintro e w9 ⟨v9, rfl, hr9, hb9⟩; have hzB := hz2.alloc hz2.size (.cells (zv [(a1 : Int), (z : Int)]).toArray 3))
              | fail)
            go_ret
            exact ⟨_, rfl, row_mono hr9 hzB.size, hzB.trans (hb9.mono hzB.size)⟩
          · subst hc
            rw [hcd, if_neg (Nat.lt_irrefl _), if_neg (Nat.lt_irrefl _), natI, ← placesL_nat]
            go_enter Tryd.func18, Tryd.ntmps18
            go_wp2_with (first
              | (go_at_call 25; refine (HP.out _).mono ?_; rintro e w1 ⟨rfl, hb1⟩; have hz1 : Below w.heap.size w w1 := hb1; have hzA := hz1.alloc hz1.size (.cells #[.int .u8 (16 : Int), .int .u8 (x : Int), .int .u8 (bb : Int), .int .u8 (c : Int)] 46))
              | (go_at_call 21; refine (HQ.out _).mono ?_; rintro e w2 ⟨rfl, hb2⟩; have hz2 := hzA.trans (hb2.mono hzA.size))
              | (go_at_call 31; refine (coPlaces _ n cp _ [(a1 : Int)] 1 1 rfl (by decide) _ (vsNew _ _ (by simp) [(a1 : Int)])).mono ?_; rintro e w9 ⟨v9, rfl, hr9, hb9⟩; have hzB := hz2.alloc hz2.size (.cells (zv [(a1 : Int)]).toArray 3))
              | fail)
            go_ret
            exact ⟨_, rfl, row_mono hr9 hzB.size, hzB.trans (hb9.mono hzB.size)⟩
          · skip
            rw [hcd, if_neg (by omega), if_pos hc, natI, ← placesL_nat]
            have hne : ((z : Int) == (a1 : Int)) = false := by rw [beq_eq_false_iff_ne]; omega
            have hmin : min (z : Int) (a1 : Int) = (z : Int) := by omega
            have hmax : max (z : Int) (a1 : Int) = (a1 : Int) := by omega
            have hc1 : (z : Int) < (a1 : Int) := by omega
            have hc2 : ¬ (a1 : Int) < (z : Int) := by omega
            go_enter Tryd.func18, Tryd.ntmps18
            go_wp2_with (first
              | (go_at_call 25; refine (HP.out _).mono ?_; rintro e w1 ⟨rfl, hb1⟩; have hz1 : Below w.heap.size w w1 := hb1; have hzA := hz1.alloc hz1.size (.cells #[.int .u8 (16 : Int), .int .u8 (x : Int), .int .u8 (bb : Int), .int .u8 (c : Int)] 46))
              | (go_at_call 21; refine (HQ.out _).mono ?_; rintro e w2 ⟨rfl, hb2⟩; have hz2 := hzA.trans (hb2.mono hzA.size))
              | (go_at_call 31; refine (coPlaces _ n cp _ [(z : Int), (a1 : Int)] 2 2 rfl (by decide) _ (vsNew _ _ (by simp) [(z : Int), (a1 : Int)])).mono ?_; rintro e w9 ⟨v9, rfl, hr9, hb9⟩; have hzB := hz2.alloc hz2.size (.cells (zv [(z : Int), (a1 : Int)]).toArray 3))
              | fail)
            go_ret
            exact ⟨_, rfl, row_mono hr9 hzB.size, hzB.trans (hb9.mono hzB.size)⟩
        · have n0 : ((op : Int) == 0) = false := by rw [beq_eq_false_iff_ne]; omega
          have n15 : ((op : Int) == 15) = false := by rw [beq_eq_false_iff_ne]; omega
          have n16 : ((op : Int) == 16) = false := by rw [beq_eq_false_iff_ne]; omega
          rw [show cands ⟨op, x, bb, c⟩ a = [a + 1] by unfold cands; rw [if_neg h0, if_neg h15, if_neg h16], natI, ← placesL_nat]
          obtain ⟨a1, ea1⟩ : ∃ y, a + 1 = y := ⟨_, rfl⟩
          have ea2 : (a : Int) + 1 = (a1 : Int) := by omega
          rw [ea1]
          clear hrn ez hzn
          go_enter Tryd.func18, Tryd.ntmps18
          go_wp2_with (first
            | (go_at_call 25; refine (HP.out _).mono ?_; rintro e w1 ⟨rfl, hb1⟩; have hz1 : Below w.heap.size w w1 := hb1; have hzA := hz1.alloc hz1.size (.cells #[.int .u8 (op : Int), .int .u8 (x : Int), .int .u8 (bb : Int), .int .u8 (c : Int)] 46))
            | (go_at_call 31; refine (coPlaces _ n cp _ [(a1 : Int)] 1 1 rfl (by decide) _ (vsNew _ _ (by simp) [(a1 : Int)])).mono ?_; rintro e w9 ⟨v9, rfl, hr9, hb9⟩; have hzB := hzA.alloc hzA.size (.cells (zv [(a1 : Int)]).toArray 3))
            | fail)
          go_ret
          exact ⟨_, rfl, row_mono hr9 hzB.size, hzB.trans (hb9.mono hzB.size)⟩
  · rw [decide_eq_false hp] at hpl
    have hnx : nextL l at_ = [] := by unfold nextL; rw [if_pos (by rw [H.out.1]; omega)]
    rw [hnx]
    have HP := Lib.hid hpl
    clear hpl
    go_enter Tryd.func18, Tryd.ntmps18
    go_wp2_with (first
      | (go_at_call 25; refine (HP.out _).mono ?_; rintro e w1 ⟨rfl, hb1⟩)
      | fail)
    go_ret
    exact ⟨_, rfl, row_nil _ _ _ _, hb1⟩
theorem coNext (A : Option Addr) (l : List Ins) (n cp : Nat) (hl : l.length = n) (hn : n ≤ 1000000) (w : World) (hA : InsAt w A l) (at_ : Int) (_ : -9223372036854775808 ≤ at_) (_ : at_ ≤ 9223372036854775807) : Calls Tryd.prog 18 #[.slice A n cp, .int .i64 at_] w (NextPost w (nextL l at_)) := by
  refine (coNextOwn A l n cp hl hn w hA at_).mono ?_
  rintro e w1 ⟨v, rfl, hr, hb⟩
  obtain ⟨A1, c1, rfl, _, _, hvs, _⟩ := vs_of_row hr
  exact ⟨A1, c1, by simp [natI], hvs, hb⟩
end Go.Proofs.YtbpmmklnjbkmlaaDoor
