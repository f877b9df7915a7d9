/-
  Package extent's Apart, by its contract. Conditions: each theorem's own premises.
-/
import Derived.Test.YtdhaikcmgegfoaaExtSort
namespace Go.Proofs.Ytdhaikcmgegfoaa
open Go.RowKit

/-- the extents that have a sector -/
def posL (l : List (Int × Int)) : List (Int × Int) := l.filter (fun p => decide (1 ≤ p.2))
theorem posL_yes (l : List (Int × Int)) (k : Nat) (hk : k < l.length) (h : 1 ≤ (l.getD k (0, 0)).2) : posL (l.take (k + 1)) = posL (l.take k) ++ [l.getD k (0, 0)] := by
  have e : l.take (k + 1) = l.take k ++ [l.getD k (0, 0)] := by
    rw [List.take_add_one]
    simp [List.getD, hk]
  rw [e]
  unfold posL
  rw [List.filter_append, List.filter_cons_of_pos (by simpa using h)]
  rfl
theorem posL_no (l : List (Int × Int)) (k : Nat) (hk : k < l.length) (h : ¬ 1 ≤ (l.getD k (0, 0)).2) : posL (l.take (k + 1)) = posL (l.take k) := by
  have e : l.take (k + 1) = l.take k ++ [l.getD k (0, 0)] := by
    rw [List.take_add_one]
    simp [List.getD, hk]
  rw [e]
  unfold posL
  rw [List.filter_append, List.filter_cons_of_neg (by simpa using h)]
  simp
theorem all_posL (x : Int × Int) : ∀ r : List (Int × Int), r.all (fun y => !meetB x.1 x.2 y.1 y.2) = (posL r).all (fun y => !meetB x.1 x.2 y.1 y.2)
  | [] => rfl
  | y :: r => by
    unfold posL
    by_cases h : 1 ≤ y.2
    · rw [List.filter_cons_of_pos (by simpa using h), List.all_cons, List.all_cons, all_posL x r]
      rfl
    · rw [List.filter_cons_of_neg (by simpa using h), List.all_cons, all_posL x r, meetB_no (.inr (.inl (by omega)))]
      rfl
theorem apart_posL : ∀ l : List (Int × Int), apartB l = apartB (posL l)
  | [] => rfl
  | x :: r => by
    have ih := apart_posL r
    by_cases h : 1 ≤ x.2
    · have e : posL (x :: r) = x :: posL r := List.filter_cons_of_pos (by simpa using h)
      rw [e, apartB, apartB, all_posL x r, ih]
    · have e : posL (x :: r) = posL r := List.filter_cons_of_neg (by simpa using h)
      rw [e, apartB, ih]
      have : r.all (fun y => !meetB x.1 x.2 y.1 y.2) = true := by
        rw [List.all_eq_true]
        intro y _
        rw [meetB_no (.inl (by omega))]
        rfl
      rw [this, Bool.true_and]
theorem apart_pair : ∀ l : List (Int × Int), apartB l = true ↔ l.Pairwise (fun x y => meetB x.1 x.2 y.1 y.2 = false)
  | [] => by simp [apartB]
  | x :: r => by
    rw [apartB, Bool.and_eq_true, apart_pair r, List.pairwise_cons, List.all_eq_true]
    simp
theorem apart_perm {l l' : List (Int × Int)} (h : l'.Perm l) : apartB l' = apartB l := by
  have e : apartB l' = true ↔ apartB l = true := by
    rw [apart_pair, apart_pair]
    exact h.pairwise_iff (fun {x y} hxy => by rw [meetB_comm]; exact hxy)
  cases h1 : apartB l' <;> cases h2 : apartB l <;> simp_all
theorem apart_end {l : List (Int × Int)} (hr : risesB l) (h : ∀ j, j + 1 < l.length → ¬ (l.getD (j + 1) (0, 0)).1 - (l.getD j (0, 0)).1 < (l.getD j (0, 0)).2) : apartB l = true := by
  refine apartB_true.2 fun i k hik hk => meetB_no (.inr (.inr (.inr ?_)))
  have h1 := h i (by omega)
  rcases Nat.lt_or_ge (i + 1) k with h2 | h2
  · have := hr (i + 1) k h2 hk
    omega
  · obtain rfl : k = i + 1 := by omega
    omega
theorem apart_found {l : List (Int × Int)} (hr : risesB l) (hp : ∀ x ∈ l, 1 ≤ x.2) {j : Nat} (hj : j + 1 < l.length) (h : (l.getD (j + 1) (0, 0)).1 - (l.getD j (0, 0)).1 < (l.getD j (0, 0)).2) : apartB l = false := by
  have h1 : ∀ k, k < l.length → 1 ≤ (l.getD k (0, 0)).2 := fun k hk => hp _ (by simp [List.getD, hk])
  have h2 := h1 j (by omega)
  have h3 := h1 (j + 1) hj
  have h4 := hr j (j + 1) (by omega) hj
  exact apartB_false (i := j) (k := j + 1) (by omega) hj (meetB_yes ⟨h2, h3, by omega, by omega⟩)

set_option linter.unusedSimpArgs false in
theorem exReaches (f c s : Int) (hf : isI f) (hc : isI c) (hc1 : 1 ≤ c) (hs : isI s) (hfs : f ≤ s) (w : World) : Calls Try.prog 40 #[.agg #[.int .i64 f, .int .i64 c], .int .i64 s] w fun e w' => e = .returned (.bool (decide (s - f < c))) ∧ Below w.heap.size w w' := by
  obtain ⟨hf1, hf2⟩ := hf
  obtain ⟨_, hc2⟩ := hc
  obtain ⟨hs1, hs2⟩ := hs
  obtain ⟨us, hus⟩ : ∃ u, IntKind.u64.wrap s = u := ⟨_, rfl⟩
  obtain ⟨uf, huf⟩ : ∃ u, IntKind.u64.wrap f = u := ⟨_, rfl⟩
  have huc : IntKind.u64.wrap c = c := by simp [IntKind.wrap, IntKind.bits, IntKind.signed]; omega
  have hsub : IntKind.u64.wrap (us - uf) = s - f := by rw [← hus, ← huf]; simp [IntKind.wrap, IntKind.bits, IntKind.signed]; omega
  go_enter Try.func40, Try.ntmps40
  go_wp2_with fail
  go_ret
  exact ⟨rfl, below_alloc w _⟩

theorem keepR {w w' : World} {b i j k : Nat} {x y z : Option Value} (h : w.cell? ⟨b, i, none⟩ = x ∧ w.cell? ⟨b, j, none⟩ = y ∧ w.cell? ⟨b, k, none⟩ = z) (hb : Below w.heap.size w w') (ha : b < w.heap.size) :
    w'.cell? ⟨b, i, none⟩ = x ∧ w'.cell? ⟨b, j, none⟩ = y ∧ w'.cell? ⟨b, k, none⟩ = z :=
  ⟨(hb.cell (p := ⟨b, i, none⟩) ha).trans h.1, (hb.cell (p := ⟨b, j, none⟩) ha).trans h.2.1, (hb.cell (p := ⟨b, k, none⟩) ha).trans h.2.2⟩
theorem ext_info : (Try.prog.info? 25).map (fun i => (i.zero, i.size, i.bytes)) = some (some (.agg #[.int .i64 0, .int .i64 0]), 2, 16) := by kernel_rfl
theorem ext_size : (Try.prog.info? 25).map (·.size) = some 2 := by kernel_rfl
theorem ext_zero : (Try.prog.info? 25).map (·.zero) = some (some (.agg #[.int .i64 0, .int .i64 0])) := by kernel_rfl
theorem fill_ext (a : Act) (x : Operand) (X : Array Value) (z : Value) (hx : a.eval x = .agg X) (h : X.size = 2) : Instr.fill (fun i => some (i * 2, 2)) ((Array.range (1 * 2)).map (z.cells[· % z.cells.size]!)) ((#[(0, x)] : Array (Nat × Operand)).map fun (i, x) => (i, a.eval x)).toList = some X := by
  have e : ((#[(0, x)] : Array (Nat × Operand)).map fun (i, x) => (i, a.eval x)).toList = [(0, .agg X)] := by simp [hx]
  rw [e]
  exact fill_one (by decide) X _ h (by simp)
theorem one_ext (x y : Int) : ∀ u ∈ ([.int .i64 x, .int .i64 y] : List Value), u.oneCell' = true := by
  intro u hu
  simp only [List.mem_cons, List.not_mem_nil, or_false] at hu
  rcases hu with rfl | rfl <;> rfl

theorem st_bslice {P : Program} {w : World} {ops : Array Oper} {rest : List Oper} {d : Option Tmp} (ty : TypeId) {n : Nat} {x : Array (Nat × Operand)} {t : TypeId} {p : String} {af : Array Edge} {g : Option (Nat × Bool)} {a : Act} {Q : Exit → Act → World → Prop}
    (h : wpList P ops Q (⟨d, .buildSlice ty n x, t, p, af, g⟩ :: rest) a w) : wpList P ops Q (⟨d, .buildSlice ty n x, t, p, af, g⟩ :: rest) a w := h
set_option maxRecDepth 100000 in
set_option maxHeartbeats 4000000 in
set_option linter.unusedSimpArgs false in
theorem exApart (A : Option Addr) (l : List (Int × Int)) (n c : Nat) (hl : l.length = n) (hn : n ≤ 1000000) (w : World) (hA : Vs w w.heap.size A (evs l)) (hI : allI l) : Calls Try.prog 8 #[.slice A n c] w fun e w' => e = .returned (.bool (apartB l)) ∧ Below w.heap.size w w' := by
  obtain ⟨i0, hi0, hz0, hz1, hz2⟩ := info_parts ext_info
  obtain ⟨res, eres⟩ : ∃ r, apartB l = r := ⟨_, rfl⟩
  rw [eres]
  have H := Lib.hid (And.intro hl (And.intro hA (And.intro hI eres)))
  clear hl hA hI eres
  go_enter Try.func8, Try.ntmps8
  go_wp2_with fail
  go_loopw [3, 9] (fun v u wz => ∃ (i k : Nat) (A1 : Option Addr) (c1 : Nat), i ≤ n ∧ k ≤ i ∧ u = .int .i64 (i : Int) ∧ v = .slice A1 k c1 ∧ (posL (l.take i)).length = k ∧ wz.ownsRow w.heap.size 25 2 (.slice A1 k c1) k (evs (posL (l.take i))) ∧ Below w.heap.size w wz) (fun _ u _ => n - (intOf u).toNat)
  case atStart => exact ⟨0, 0, none, 0, by omega, by omega, rfl, rfl, rfl, row_nil _ _ _ _, Below.refl _ _⟩
  case round =>
    obtain ⟨i, k, A1, c1, hin, hki, rfl, rfl, hlen, hrow, hbel⟩ := hrel
    have HI := Lib.hid (And.intro hrow (And.intro hbel hlen))
    clear hrow hbel hlen
    by_cases hlt : i < n
    · have hii : (i : Int) < (n : Int) := by omega
      have hi00 : (0 : Int) ≤ (i : Int) := by omega
      obtain ⟨b, o, eA, hbb, hc1, hc2⟩ := evs_at (H.out.2.1) (j := i) (by rw [H.out.1]; exact hlt)
      obtain ⟨xf, exf⟩ : ∃ x, (l.getD i (0, 0)).1 = x := ⟨_, rfl⟩
      obtain ⟨xc, exc⟩ : ∃ x, (l.getD i (0, 0)).2 = x := ⟨_, rfl⟩
      rw [exf] at hc1
      rw [exc] at hc2
      have hd1 := (HI.out.2.1.cell (p := ⟨b, o + i * 2, none⟩) hbb).trans hc1
      have hd2 := (HI.out.2.1.cell (p := ⟨b, o + i * 2 + 1, none⟩) hbb).trans hc2
      have HX := Lib.hid (And.intro exf exc)
      subst eA
      clear hc1 hc2 exf exc hbb
      go_wp2_with (first | (with_reducible refine st_alloc 25 ?_; refine stopped ?_) | fail)
      refine go_on ?_
      refine wpList_alloc rfl 25 rfl _ ext_zero ?_
      intro w1 hb1 hw1 hz1'
      obtain ⟨gx, ex⟩ : ∃ g, wr.heap.size = g := ⟨_, rfl⟩
      rw [ex] at hb1 ⊢
      refine wpList_store_whole rfl 25 (.tmp 5) (.tmp 12) rfl gx [.int .i64 xf, .int .i64 xc] rfl rfl 25 [.int .i64 0, .int .i64 0] hb1 ext_size rfl (one_ext _ _) ?_
      intro w2 hb2 hg2
      simp only [Act.put, List.setIfInBounds_toArray, List.set_cons_zero, List.set_cons_succ]
      have hbel2 : Below wr.heap.size wr w2 := hw1.trans (only_below hg2 hw1.size (fun g e => by cases e; omega))
      have e0 : w2.cell? ⟨gx, 0, none⟩ = some (.int .i64 xf) := by rw [hb2.cell]; rfl
      have e1 : w2.cell? ⟨gx, 1, none⟩ = some (.int .i64 xc) := by rw [hb2.cell]; rfl
      have HB := Lib.hid (And.intro hb2 (And.intro hbel2 ex))
      clear hb1 hw1 hz1' hb2 hg2 hbel2 ex hd1 hd2
      by_cases hpos : 1 ≤ xc
      · have hposg : xc ≥ 1 := hpos
        have hstep := posL_yes l i (by rw [H.out.1]; exact hlt) (by rw [HX.out.2]; exact hpos)
        have HS := Lib.hid hstep
        clear hstep
        go_wp2_with (first | (with_reducible refine st_bslice 22 ?_; refine stopped ?_) | fail)
        refine go_on ?_
        refine wpList_buildSlice rfl 22 25 1 _ rfl #[.int .i64 xf, .int .i64 xc] i0 _ Try.underlying22 hi0 hz0 (by rw [hz1]; decide) (by rw [hz1]; decide) (by rw [hz1]; exact fill_ext _ _ _ _ rfl rfl) ?_
        simp only [Act.put, List.setIfInBounds_toArray, List.set_cons_zero, List.set_cons_succ]
        have hbA : Below w.heap.size w (w2.alloc (.cells #[.int .i64 xf, .int .i64 xc] 25)) := (HI.out.2.1.trans (HB.out.2.1.mono HI.out.2.1.size)).trans ((below_alloc _ _).mono (Nat.le_trans HI.out.2.1.size HB.out.2.1.size))
        refine wpList_append_row _ rfl (.tmp 16) (.tmp 18) 22 rfl w.heap.size 25 i0 _ 2 16 Try.underlying22 hi0 hz0 hz1 hz2 rfl (by decide) (.slice A1 k c1) k (evs (posL (l.take i))) rfl (row_alloc (row_below HI.out.1 HB.out.2.1) _) (w2.heap.size + 1) (some ⟨w2.heap.size, 0, none⟩) 1 1 [.int .i64 xf, .int .i64 xc] rfl (vs_of_blk (Blk.new w2 25 #[.int .i64 xf, .int .i64 xc]) (Nat.lt_succ_self _)) rfl (one_ext _ _) (by omega) (by unfold maxLen; omega) hbA.size ?_
        intro v5 w5 hown5 hg5 _
        obtain ⟨A5, c5, rfl, _, _, _, _⟩ := vs_of_row hown5
        have hb5 : Below w.heap.size w w5 := hbA.trans (only_below hg5 hbA.size (fun g' e => (World.ownsRow.lt HI.out.1 g' e).1))
        simp only [Act.put, List.setIfInBounds_toArray, List.set_cons_zero, List.set_cons_succ]
        have HW := Lib.hid (And.intro hown5 hb5)
        clear hown5 hg5 hb5 hbA
        go_wp2_with fail
        go_roundw
        case rel =>
          refine ⟨i + 1, k + 1, A5, c5, by omega, by omega, by go_num, rfl, by rw [HS.out, List.length_append, HI.out.2.2]; rfl, ?_, HW.out.2⟩
          have e : evs (posL (l.take (i + 1))) = evs (posL (l.take i)) ++ [.int .i64 xf, .int .i64 xc] := by rw [HS.out, evs_append, ← HX.out.1, ← HX.out.2]; rfl
          rw [e]
          exact HW.out.1
        case measure => simp [intOf]; omega
      · have hposg : ¬ xc ≥ 1 := hpos
        have hstep := posL_no l i (by rw [H.out.1]; exact hlt) (by rw [HX.out.2]; exact hpos)
        have HS := Lib.hid hstep
        clear hstep
        go_wp2_with fail
        go_roundw
        case rel => exact ⟨i + 1, k, A1, c1, by omega, by omega, by go_num, rfl, by rw [HS.out]; exact HI.out.2.2, by rw [HS.out]; exact row_below HI.out.1 HB.out.2.1, HI.out.2.1.trans (HB.out.2.1.mono HI.out.2.1.size)⟩
        case measure => simp [intOf]; omega
    · obtain rfl : i = n := by omega
      have hnl : ¬ (i : Int) < (i : Int) := by omega
      have hrow := HI.out.1
      have hlen := HI.out.2.2
      rw [List.take_of_length_le (by rw [H.out.1]; exact Nat.le_refl _)] at hrow hlen
      have hsort := Lib.hid (sortX_any wr w.heap.size k A1 c1 (posL l) hlen (by omega) hrow HI.out.2.1.size)
      have HL := Lib.hid hlen
      clear hrow hlen
      go_wp2_with fail
      refine hsort.out.mono ?_
      rintro e w3 ⟨rfl, hb3, l', hperm, hrise, hvs⟩
      have hlen' : l'.length = k := hperm.length_eq.trans HL.out
      have hmem : ∀ x ∈ l', isI x.1 ∧ isI x.2 ∧ 1 ≤ x.2 := fun x hx => by
        have h1 := List.mem_filter.1 (hperm.mem_iff.1 hx)
        have h2 := H.out.2.2.1 x h1.1
        exact ⟨h2.1, h2.2, of_decide_eq_true h1.2⟩
      have hres : apartB l' = res := by rw [apart_perm hperm, ← apart_posL, H.out.2.2.2]
      have HP := Lib.hid (And.intro hlen' (And.intro hmem (And.intro hres (And.intro hrise (And.intro hvs (HI.out.2.1.trans (hb3.mono (Nat.le_refl _))))))))
      have hkn : k ≤ 1000000 := by omega
      clear hlen' hmem hres hrise hvs hb3 hperm hsort HL HI hnl
      go_wp2_with fail
      go_loopw [6] (fun u wz => ∃ q : Nat, 1 ≤ q ∧ (q = 1 ∨ q ≤ k) ∧ u = .int .i64 (q : Int) ∧ Below w3.heap.size w3 wz ∧ ∀ j, j + 1 < q → ¬ (l'.getD (j + 1) (0, 0)).1 - (l'.getD j (0, 0)).1 < (l'.getD j (0, 0)).2) (fun u _ => k + 1 - (intOf u).toNat)
      case atStart => exact ⟨1, by omega, .inl rfl, rfl, Below.refl _ _, fun j hj => by omega⟩
      case round =>
        obtain ⟨q, hq1, hqk, rfl, hbz, hno⟩ := hrel
        have HQ := Lib.hid (And.intro hbz hno)
        clear hbz hno
        by_cases hlt : q < k
        · obtain ⟨p, ep⟩ : ∃ p, q = p + 1 := ⟨q - 1, by omega⟩
          have hp1 : p < l'.length := by rw [HP.out.1]; omega
          have hq2 : q < l'.length := by rw [HP.out.1]; omega
          obtain ⟨b, o, eA, hbl, hc⟩ := HP.out.2.2.2.2.1 (by rw [evs_length]; omega)
          have c1 := hc _ _ (evs_get hp1).1
          have c2 := hc _ _ (evs_get hp1).2
          have c3 := hc _ _ (evs_get hq2).1
          obtain ⟨m1, m2, m3⟩ := HP.out.2.1 (l'.getD p (0, 0)) (by simp [List.getD, hp1])
          obtain ⟨m4, _, _⟩ := HP.out.2.1 (l'.getD q (0, 0)) (by simp [List.getD, hq2])
          have hle := HP.out.2.2.2.1 p q (by omega) hq2
          obtain ⟨xf, exf⟩ : ∃ x, (l'.getD p (0, 0)).1 = x := ⟨_, rfl⟩
          obtain ⟨xc, exc⟩ : ∃ x, (l'.getD p (0, 0)).2 = x := ⟨_, rfl⟩
          obtain ⟨yf, eyf⟩ : ∃ x, (l'.getD q (0, 0)).1 = x := ⟨_, rfl⟩
          rw [← Nat.add_assoc] at c2
          rw [exf] at c1 m1 hle
          rw [exc] at c2 m2 m3
          rw [eyf] at c3 m4 hle
          have hx := fun W => exReaches xf xc yf m1 m2 m3 m4 hle W
          have hd1 := (HQ.out.1.cell (p := ⟨b, o + p * 2, none⟩) hbl).trans c1
          have hd2 := (HQ.out.1.cell (p := ⟨b, o + p * 2 + 1, none⟩) hbl).trans c2
          have hd3 := (HQ.out.1.cell (p := ⟨b, o + q * 2, none⟩) hbl).trans c3
          have hbl : b < wr.drew.heap.size := Nat.lt_of_lt_of_le hbl HQ.out.1.size
          have hs1 : IntKind.i64.wrap ((q : Int) - 1) = (p : Int) := by rw [show (q : Int) - 1 = (p : Int) by omega]; exact IntWalk.i64_in _ (by omega)
          have hqi : (q : Int) < (k : Int) := by omega
          have hpi : (p : Int) < (k : Int) := by omega
          have hq0 : (0 : Int) ≤ (q : Int) := by omega
          have hp0 : (0 : Int) ≤ (p : Int) := by omega
          have HE := Lib.hid (And.intro exf (And.intro exc (And.intro eyf ep)))
          subst eA
          have hS0 : (fun w' => w'.cell? ⟨b, o + p * 2, none⟩ = some (.int .i64 xf) ∧ w'.cell? ⟨b, o + p * 2 + 1, none⟩ = some (.int .i64 xc) ∧ w'.cell? ⟨b, o + q * 2, none⟩ = some (.int .i64 yf)) wr.drew := ⟨hd1, hd2, hd3⟩
          clear c1 c2 c3 hc m1 m2 m3 m4 hle exf exc eyf ep hd1 hd2 hd3 hp1 hq2
          by_cases hre : yf - xf < xc
          · have HX := Lib.hid (fun W => by have := hx W; rw [decide_eq_true hre] at this; exact this)
            clear hx
            go_wp2_with fail
            refine wp_region_held_drew (S := fun w' => w'.cell? ⟨b, o + p * 2, none⟩ = some (.int .i64 xf) ∧ w'.cell? ⟨b, o + p * 2 + 1, none⟩ = some (.int .i64 xc) ∧ w'.cell? ⟨b, o + q * 2, none⟩ = some (.int .i64 yf)) (by kernel_rfl) hS0 (fun hHeld => ?_)
            refine wpAnyH_take (i := 0) (v := ?_) (List.getElem?_toArray.trans (List.getElem?_cons_zero)) (by kernel_rfl) (by kernel_rfl) (by kernel_rfl) (fun _ _ _ h => h) (Or.inl ⟨by rfl, ?_⟩) (by assumption) ?_
            rotate_left
            · intro w' hSw; (try dsimp only at hSw); go_simp; try with_reducible rfl
            try simp only [Act.put, List.setIfInBounds_toArray, List.set_cons_zero, List.set_cons_succ]
            refine wpAnyH_take (i := 1) (v := ?_) (List.getElem?_toArray.trans (List.getElem?_cons_succ.trans (List.getElem?_cons_zero))) (by kernel_rfl) (by kernel_rfl) (by kernel_rfl) (fun _ _ _ h => h) (Or.inl ⟨by rfl, ?_⟩) (by assumption) ?_
            rotate_left
            · intro w' hSw; (try dsimp only at hSw); go_simp; try with_reducible rfl
            try simp only [Act.put, List.setIfInBounds_toArray, List.set_cons_zero, List.set_cons_succ]
            refine wpAnyH_take (i := 2) (v := ?_) (List.getElem?_toArray.trans (List.getElem?_cons_succ.trans (List.getElem?_cons_succ.trans (List.getElem?_cons_zero)))) (by kernel_rfl) (by kernel_rfl) (by kernel_rfl) (fun _ _ _ h => h) (Or.inl ⟨by rfl, ?_⟩) (by assumption) ?_
            rotate_left
            · intro w' hSw; (try dsimp only at hSw); go_simp; try with_reducible rfl
            try simp only [Act.put, List.setIfInBounds_toArray, List.set_cons_zero, List.set_cons_succ]
            refine wpAnyH_take (i := 3) (v := ?_) (List.getElem?_toArray.trans (List.getElem?_cons_succ.trans (List.getElem?_cons_succ.trans (List.getElem?_cons_succ.trans (List.getElem?_cons_zero))))) (by kernel_rfl) (by kernel_rfl) (by kernel_rfl) (fun _ _ _ h => h) (Or.inl ⟨by rfl, ?_⟩) (by assumption) ?_
            rotate_left
            · intro w' hSw; (try dsimp only at hSw); go_simp; try with_reducible rfl
            try simp only [Act.put, List.setIfInBounds_toArray, List.set_cons_zero, List.set_cons_succ]
            refine wpAnyH_take (i := 4) (v := ?_) (List.getElem?_toArray.trans (List.getElem?_cons_succ.trans (List.getElem?_cons_succ.trans (List.getElem?_cons_succ.trans (List.getElem?_cons_succ.trans (List.getElem?_cons_zero)))))) (by kernel_rfl) (by kernel_rfl) (by kernel_rfl) (fun _ _ _ h => h) (Or.inl ⟨by rfl, ?_⟩) (by assumption) ?_
            rotate_left
            · intro w' hSw; (try dsimp only at hSw); go_simp; try with_reducible rfl
            try simp only [Act.put, List.setIfInBounds_toArray, List.set_cons_zero, List.set_cons_succ]
            refine wpAnyH_take (i := 5) (v := ?_) (List.getElem?_toArray.trans (List.getElem?_cons_succ.trans (List.getElem?_cons_succ.trans (List.getElem?_cons_succ.trans (List.getElem?_cons_succ.trans (List.getElem?_cons_succ.trans (List.getElem?_cons_zero))))))) (by kernel_rfl) (by kernel_rfl) (by kernel_rfl) (fun _ _ _ h => h) (Or.inl ⟨by rfl, ?_⟩) (by assumption) ?_
            rotate_left
            · intro w' hSw; (try dsimp only at hSw); go_simp; try with_reducible rfl
            try simp only [Act.put, List.setIfInBounds_toArray, List.set_cons_zero, List.set_cons_succ]
            refine wpAnyH_take (i := 6) (v := ?_) (List.getElem?_toArray.trans (List.getElem?_cons_succ.trans (List.getElem?_cons_succ.trans (List.getElem?_cons_succ.trans (List.getElem?_cons_succ.trans (List.getElem?_cons_succ.trans (List.getElem?_cons_succ.trans (List.getElem?_cons_zero)))))))) (by kernel_rfl) (by kernel_rfl) (by kernel_rfl) (fun _ _ _ h => h) (Or.inl ⟨by rfl, ?_⟩) (by assumption) ?_
            rotate_left
            · intro w' hSw; (try dsimp only at hSw); go_simp; try with_reducible rfl
            try simp only [Act.put, List.setIfInBounds_toArray, List.set_cons_zero, List.set_cons_succ]
            refine wpAnyH_take (i := 7) (v := ?_) (List.getElem?_toArray.trans (List.getElem?_cons_succ.trans (List.getElem?_cons_succ.trans (List.getElem?_cons_succ.trans (List.getElem?_cons_succ.trans (List.getElem?_cons_succ.trans (List.getElem?_cons_succ.trans (List.getElem?_cons_succ.trans (List.getElem?_cons_zero))))))))) (by kernel_rfl) (by kernel_rfl) (by kernel_rfl) (fun _ _ _ h => h) (Or.inl ⟨by rfl, ?_⟩) (by assumption) ?_
            rotate_left
            · intro w' hSw; (try dsimp only at hSw); go_simp; try with_reducible rfl
            try simp only [Act.put, List.setIfInBounds_toArray, List.set_cons_zero, List.set_cons_succ]
            refine wpAnyH_take (i := 8) (v := ?_) (List.getElem?_toArray.trans (List.getElem?_cons_succ.trans (List.getElem?_cons_succ.trans (List.getElem?_cons_succ.trans (List.getElem?_cons_succ.trans (List.getElem?_cons_succ.trans (List.getElem?_cons_succ.trans (List.getElem?_cons_succ.trans (List.getElem?_cons_succ.trans (List.getElem?_cons_zero)))))))))) (by kernel_rfl) (by kernel_rfl) (by kernel_rfl) (fun _ _ _ h => h) (Or.inl ⟨by rfl, ?_⟩) (by assumption) ?_
            rotate_left
            · intro w' hSw; (try dsimp only at hSw); go_simp; try with_reducible rfl
            try simp only [Act.put, List.setIfInBounds_toArray, List.set_cons_zero, List.set_cons_succ]
            refine wpAnyH_take (i := 9) (v := ?_) (List.getElem?_toArray.trans (List.getElem?_cons_succ.trans (List.getElem?_cons_succ.trans (List.getElem?_cons_succ.trans (List.getElem?_cons_succ.trans (List.getElem?_cons_succ.trans (List.getElem?_cons_succ.trans (List.getElem?_cons_succ.trans (List.getElem?_cons_succ.trans (List.getElem?_cons_succ.trans (List.getElem?_cons_zero))))))))))) (by kernel_rfl) (by kernel_rfl) (by kernel_rfl) (fun _ _ _ h => h) (Or.inl ⟨by rfl, ?_⟩) (by assumption) ?_
            rotate_left
            · intro w' hSw; (try dsimp only at hSw); go_simp; try with_reducible rfl
            try simp only [Act.put, List.setIfInBounds_toArray, List.set_cons_zero, List.set_cons_succ]
            refine wpAnyH_ready (rs := [10]) (by kernel_rfl) (by simp) ?_
            refine AllReadyH.cons (List.getElem?_toArray.trans (List.getElem?_cons_succ.trans (List.getElem?_cons_succ.trans (List.getElem?_cons_succ.trans (List.getElem?_cons_succ.trans (List.getElem?_cons_succ.trans (List.getElem?_cons_succ.trans (List.getElem?_cons_succ.trans (List.getElem?_cons_succ.trans (List.getElem?_cons_succ.trans (List.getElem?_cons_succ.trans (List.getElem?_cons_zero)))))))))))) (fun K hK => ?_) AllReadyH.nil
            go_simp
            go_at_call 40
            refine (HX.out wr.drew).mono ?_
            rintro e w5 ⟨rfl, hb5⟩
            have hS5 := keepR hS0 hb5 hbl
            refine hK.out _ _ hS5 (fun hHeld => ?_)
            clear hK K
            try simp only [Act.put, List.setIfInBounds_toArray, List.set_cons_zero, List.set_cons_succ]
            refine wpAnyH_done (by kernel_rfl) ?_ _
            go_wp2_with fail
            go_ret
            refine ⟨?_, HP.out.2.2.2.2.2.trans ((HQ.out.1.trans ((below_undr hb5).mono HQ.out.1.size)).mono HP.out.2.2.2.2.2.size)⟩
            have h9 := apart_found HP.out.2.2.2.1 (fun x hx => (HP.out.2.1 x hx).2.2) (j := p) (by rw [HP.out.1, ← HE.out.2.2.2]; exact hlt) (by rw [← HE.out.2.2.2, HE.out.1, HE.out.2.1, HE.out.2.2.1]; exact hre)
            rw [← HP.out.2.2.1, h9]
            rfl
          · have HX := Lib.hid (fun W => by have := hx W; rw [decide_eq_false hre] at this; exact this)
            clear hx
            go_wp2_with fail
            refine wp_region_held_drew (S := fun w' => w'.cell? ⟨b, o + p * 2, none⟩ = some (.int .i64 xf) ∧ w'.cell? ⟨b, o + p * 2 + 1, none⟩ = some (.int .i64 xc) ∧ w'.cell? ⟨b, o + q * 2, none⟩ = some (.int .i64 yf)) (by kernel_rfl) hS0 (fun hHeld => ?_)
            refine wpAnyH_take (i := 0) (v := ?_) (List.getElem?_toArray.trans (List.getElem?_cons_zero)) (by kernel_rfl) (by kernel_rfl) (by kernel_rfl) (fun _ _ _ h => h) (Or.inl ⟨by rfl, ?_⟩) (by assumption) ?_
            rotate_left
            · intro w' hSw; (try dsimp only at hSw); go_simp; try with_reducible rfl
            try simp only [Act.put, List.setIfInBounds_toArray, List.set_cons_zero, List.set_cons_succ]
            refine wpAnyH_take (i := 1) (v := ?_) (List.getElem?_toArray.trans (List.getElem?_cons_succ.trans (List.getElem?_cons_zero))) (by kernel_rfl) (by kernel_rfl) (by kernel_rfl) (fun _ _ _ h => h) (Or.inl ⟨by rfl, ?_⟩) (by assumption) ?_
            rotate_left
            · intro w' hSw; (try dsimp only at hSw); go_simp; try with_reducible rfl
            try simp only [Act.put, List.setIfInBounds_toArray, List.set_cons_zero, List.set_cons_succ]
            refine wpAnyH_take (i := 2) (v := ?_) (List.getElem?_toArray.trans (List.getElem?_cons_succ.trans (List.getElem?_cons_succ.trans (List.getElem?_cons_zero)))) (by kernel_rfl) (by kernel_rfl) (by kernel_rfl) (fun _ _ _ h => h) (Or.inl ⟨by rfl, ?_⟩) (by assumption) ?_
            rotate_left
            · intro w' hSw; (try dsimp only at hSw); go_simp; try with_reducible rfl
            try simp only [Act.put, List.setIfInBounds_toArray, List.set_cons_zero, List.set_cons_succ]
            refine wpAnyH_take (i := 3) (v := ?_) (List.getElem?_toArray.trans (List.getElem?_cons_succ.trans (List.getElem?_cons_succ.trans (List.getElem?_cons_succ.trans (List.getElem?_cons_zero))))) (by kernel_rfl) (by kernel_rfl) (by kernel_rfl) (fun _ _ _ h => h) (Or.inl ⟨by rfl, ?_⟩) (by assumption) ?_
            rotate_left
            · intro w' hSw; (try dsimp only at hSw); go_simp; try with_reducible rfl
            try simp only [Act.put, List.setIfInBounds_toArray, List.set_cons_zero, List.set_cons_succ]
            refine wpAnyH_take (i := 4) (v := ?_) (List.getElem?_toArray.trans (List.getElem?_cons_succ.trans (List.getElem?_cons_succ.trans (List.getElem?_cons_succ.trans (List.getElem?_cons_succ.trans (List.getElem?_cons_zero)))))) (by kernel_rfl) (by kernel_rfl) (by kernel_rfl) (fun _ _ _ h => h) (Or.inl ⟨by rfl, ?_⟩) (by assumption) ?_
            rotate_left
            · intro w' hSw; (try dsimp only at hSw); go_simp; try with_reducible rfl
            try simp only [Act.put, List.setIfInBounds_toArray, List.set_cons_zero, List.set_cons_succ]
            refine wpAnyH_take (i := 5) (v := ?_) (List.getElem?_toArray.trans (List.getElem?_cons_succ.trans (List.getElem?_cons_succ.trans (List.getElem?_cons_succ.trans (List.getElem?_cons_succ.trans (List.getElem?_cons_succ.trans (List.getElem?_cons_zero))))))) (by kernel_rfl) (by kernel_rfl) (by kernel_rfl) (fun _ _ _ h => h) (Or.inl ⟨by rfl, ?_⟩) (by assumption) ?_
            rotate_left
            · intro w' hSw; (try dsimp only at hSw); go_simp; try with_reducible rfl
            try simp only [Act.put, List.setIfInBounds_toArray, List.set_cons_zero, List.set_cons_succ]
            refine wpAnyH_take (i := 6) (v := ?_) (List.getElem?_toArray.trans (List.getElem?_cons_succ.trans (List.getElem?_cons_succ.trans (List.getElem?_cons_succ.trans (List.getElem?_cons_succ.trans (List.getElem?_cons_succ.trans (List.getElem?_cons_succ.trans (List.getElem?_cons_zero)))))))) (by kernel_rfl) (by kernel_rfl) (by kernel_rfl) (fun _ _ _ h => h) (Or.inl ⟨by rfl, ?_⟩) (by assumption) ?_
            rotate_left
            · intro w' hSw; (try dsimp only at hSw); go_simp; try with_reducible rfl
            try simp only [Act.put, List.setIfInBounds_toArray, List.set_cons_zero, List.set_cons_succ]
            refine wpAnyH_take (i := 7) (v := ?_) (List.getElem?_toArray.trans (List.getElem?_cons_succ.trans (List.getElem?_cons_succ.trans (List.getElem?_cons_succ.trans (List.getElem?_cons_succ.trans (List.getElem?_cons_succ.trans (List.getElem?_cons_succ.trans (List.getElem?_cons_succ.trans (List.getElem?_cons_zero))))))))) (by kernel_rfl) (by kernel_rfl) (by kernel_rfl) (fun _ _ _ h => h) (Or.inl ⟨by rfl, ?_⟩) (by assumption) ?_
            rotate_left
            · intro w' hSw; (try dsimp only at hSw); go_simp; try with_reducible rfl
            try simp only [Act.put, List.setIfInBounds_toArray, List.set_cons_zero, List.set_cons_succ]
            refine wpAnyH_take (i := 8) (v := ?_) (List.getElem?_toArray.trans (List.getElem?_cons_succ.trans (List.getElem?_cons_succ.trans (List.getElem?_cons_succ.trans (List.getElem?_cons_succ.trans (List.getElem?_cons_succ.trans (List.getElem?_cons_succ.trans (List.getElem?_cons_succ.trans (List.getElem?_cons_succ.trans (List.getElem?_cons_zero)))))))))) (by kernel_rfl) (by kernel_rfl) (by kernel_rfl) (fun _ _ _ h => h) (Or.inl ⟨by rfl, ?_⟩) (by assumption) ?_
            rotate_left
            · intro w' hSw; (try dsimp only at hSw); go_simp; try with_reducible rfl
            try simp only [Act.put, List.setIfInBounds_toArray, List.set_cons_zero, List.set_cons_succ]
            refine wpAnyH_take (i := 9) (v := ?_) (List.getElem?_toArray.trans (List.getElem?_cons_succ.trans (List.getElem?_cons_succ.trans (List.getElem?_cons_succ.trans (List.getElem?_cons_succ.trans (List.getElem?_cons_succ.trans (List.getElem?_cons_succ.trans (List.getElem?_cons_succ.trans (List.getElem?_cons_succ.trans (List.getElem?_cons_succ.trans (List.getElem?_cons_zero))))))))))) (by kernel_rfl) (by kernel_rfl) (by kernel_rfl) (fun _ _ _ h => h) (Or.inl ⟨by rfl, ?_⟩) (by assumption) ?_
            rotate_left
            · intro w' hSw; (try dsimp only at hSw); go_simp; try with_reducible rfl
            try simp only [Act.put, List.setIfInBounds_toArray, List.set_cons_zero, List.set_cons_succ]
            refine wpAnyH_ready (rs := [10]) (by kernel_rfl) (by simp) ?_
            refine AllReadyH.cons (List.getElem?_toArray.trans (List.getElem?_cons_succ.trans (List.getElem?_cons_succ.trans (List.getElem?_cons_succ.trans (List.getElem?_cons_succ.trans (List.getElem?_cons_succ.trans (List.getElem?_cons_succ.trans (List.getElem?_cons_succ.trans (List.getElem?_cons_succ.trans (List.getElem?_cons_succ.trans (List.getElem?_cons_succ.trans (List.getElem?_cons_zero)))))))))))) (fun K hK => ?_) AllReadyH.nil
            go_simp
            go_at_call 40
            refine (HX.out wr.drew).mono ?_
            rintro e w5 ⟨rfl, hb5⟩
            have hS5 := keepR hS0 hb5 hbl
            refine hK.out _ _ hS5 (fun hHeld => ?_)
            clear hK K
            try simp only [Act.put, List.setIfInBounds_toArray, List.set_cons_zero, List.set_cons_succ]
            refine wpAnyH_done (by kernel_rfl) ?_ _
            go_wp2_with fail
            go_roundw
            case rel =>
              refine ⟨q + 1, by omega, .inr (by omega), by go_num, HQ.out.1.trans ((below_undr hb5).mono HQ.out.1.size), fun j hj => ?_⟩
              rcases Nat.lt_or_ge (j + 1) q with h8 | h8
              · exact Int.not_lt.2 (HQ.out.2 j h8)
              · have ej : j = p := by have := HE.out.2.2.2; omega
                rw [ej, ← HE.out.2.2.2, HE.out.1, HE.out.2.1, HE.out.2.2.1]
                exact Int.not_lt.2 hre
            case measure => simp [intOf]; omega
        · have hnq : ¬ (q : Int) < (k : Int) := by omega
          go_wp2_with fail
          go_ret
          refine ⟨?_, HP.out.2.2.2.2.2.trans (HQ.out.1.mono HP.out.2.2.2.2.2.size)⟩
          rw [← HP.out.2.2.1, apart_end HP.out.2.2.2.1 (fun j hj => Int.not_lt.2 (HQ.out.2 j (by rw [HP.out.1] at hj; omega)))]
          rfl
end Go.Proofs.Ytdhaikcmgegfoaa
