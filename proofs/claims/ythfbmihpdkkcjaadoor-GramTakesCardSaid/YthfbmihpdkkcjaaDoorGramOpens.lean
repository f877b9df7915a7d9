/-
  Arguments opened: a grammar. No conditions.
-/
import Derived.Test.YthfbmihpdkkcjaaDoorFields
import Derived.Test.YthfbmihpdkkcjaaDoorGramSpec
namespace Go.Proofs.YthfbmihpdkkcjaaDoor
open Go.ChangeShapes Go.WideShapes Go.RowKit Go.Deep

theorem gmByte_wf {n : Int} (h : (Lit.int .u8 n).wf = true) : ∃ k : Nat, n = (k : Int) ∧ k < 256 := by
  simp only [Lit.wf, Bool.and_eq_true, decide_eq_true_eq] at h
  have h1 : IntKind.u8.min = 0 := rfl
  have h2 : IntKind.u8.max = 255 := rfl
  rw [h1, h2] at h
  exact ⟨n.toNat, by omega, by omega⟩
theorem gmInt_wf {n : Int} (h : (Lit.int .i64 n).wf = true) : -9223372036854775808 ≤ n ∧ n ≤ 9223372036854775807 := by
  simp only [Lit.wf, Bool.and_eq_true, decide_eq_true_eq] at h
  have h1 : IntKind.i64.min = -9223372036854775808 := rfl
  have h2 : IntKind.i64.max = 9223372036854775807 := rfl
  rw [h1, h2] at h
  exact h
theorem gmSignFields : ∃ f0 f1 f2 : Field, Tryd.prog.underlying 42 = some (.struct #[f0, f1, f2]) ∧ oneCellFields Tryd.prog #[f0, f1, f2] = true ∧ Tryd.prog.cellsOf 42 = 3 ∧ f0.type = 3 ∧ f1.type = 5 ∧ f2.type = 5 :=
  ⟨_, _, _, Tryd.underlying42, by kernel_rfl, by kernel_rfl, rfl, rfl, rfl⟩
theorem gmFormFields : ∃ f0 f1 : Field, Tryd.prog.underlying 46 = some (.struct #[f0, f1]) ∧ oneCellFields Tryd.prog #[f0, f1] = true ∧ Tryd.prog.cellsOf 46 = 2 ∧ f0.type = 3 ∧ f1.type = 44 :=
  ⟨_, _, Tryd.underlying46, by kernel_rfl, by kernel_rfl, rfl, rfl⟩
theorem gmGramFields : ∃ f0 f1 : Field, Tryd.prog.underlying 25 = some (.struct #[f0, f1]) ∧ Tryd.prog.cellsOf 25 = 2 ∧ (f0.type = 3 ∧ f0.offset = 0) ∧ (f1.type = 23 ∧ f1.offset = 1) :=
  ⟨_, _, Tryd.underlying25, by kernel_rfl, ⟨rfl, rfl⟩, ⟨rfl, rfl⟩⟩
theorem gmcInt : Tryd.prog.cellsOf 3 = 1 := by kernel_rfl
theorem gmcForms : Tryd.prog.cellsOf 23 = 1 := by kernel_rfl
/-- choosing, for every index -/
theorem gmChoose {α : Type} (x0 : α) {n : Nat} {P : Nat → α → Prop} (h : ∀ i, i < n → ∃ x, P i x) : ∃ f : Nat → α, ∀ i, i < n → P i (f i) := by
  classical
  refine ⟨fun i => if hi : i < n then Classical.choose (h i hi) else x0, fun i hi => ?_⟩
  simp only [hi, dite_true]
  exact Classical.choose_spec (h i hi)
set_option maxRecDepth 100000 in
theorem open_body {H : Type} {enc : TypeId × Value → H} {W : World} {fuel : Nat} {x : DataW H × List MemPlace} {a : Value} (hf : DataW.trod enc Tryd.prog W 0 (fun _ => true) true fuel 44 [a] = some x) :
    ∃ (A : Option Addr) (l : List Sg) (c : Nat), a = .slice A l.length c ∧ Vs W W.heap.size A (svs l) ∧ l.length ≤ c ∧ ∀ s ∈ l, SgOk s := by
  obtain ⟨f0, f1, f2, hu, hone, hC, e0, e1, e2⟩ := gmSignFields
  rcases open_slice_fields Tryd.underlying44 hu hone hC hf with ⟨hcs, _⟩ | ⟨a1, len, cap, m, D, Pl, hcs, _, hl, hm, hmm, _, hi⟩
  · injection hcs with hcs _
    exact ⟨none, [], 0, hcs, Vs.nil_, Nat.le_refl _, fun s hs => by cases hs⟩
  · injection hcs with hcs _
    simp only [if_true] at hmm
    have key : ∀ i, i < len → ∃ q : Sg, SgOk q ∧ ∀ t v, q.cells[t]? = some v → W.cell? (a1.add (i * 3 + t)) = some v := fun i him => by
      obtain ⟨ys, n, _, _, _, hfs⟩ := hi i (by omega)
      obtain ⟨v0, y0, c0, _, t0⟩ := hfs 0 f0 rfl
      obtain ⟨v1, y1, c1, _, t1⟩ := hfs 1 f1 rfl
      obtain ⟨v2, y2, c2, _, t2⟩ := hfs 2 f2 rfl
      rw [e0] at t0
      rw [e1] at t1
      rw [e2] at t2
      obtain ⟨n0, q0, _, w0⟩ := DataW.trod_int Tryd.underlying3 t0
      obtain ⟨n1, q1, _, w1⟩ := DataW.trod_int Tryd.underlying5 t1
      obtain ⟨n2, q2, _, w2⟩ := DataW.trod_int Tryd.underlying5 t2
      injection q0 with q0 _
      injection q1 with q1 _
      injection q2 with q2 _
      subst q0 q1 q2
      obtain ⟨k1, rfl, l1⟩ := gmByte_wf w1
      obtain ⟨k2, rfl, l2⟩ := gmByte_wf w2
      refine ⟨⟨n0, k1, k2⟩, ⟨gmInt_wf w0, l1, l2⟩, fun t v ht => ?_⟩
      match t, ht with
      | 0, ht => cases ht; exact c0
      | 1, ht => cases ht; exact c1
      | 2, ht => cases ht; exact c2
      | t + 3, ht => simp [Sg.cells] at ht
    obtain ⟨V, hV⟩ := gmChoose ⟨0, 0, 0⟩ key
    have hlen : ((List.range len).map V).length = len := by simp
    have hget : ∀ j, j < len → ((List.range len).map V).getD j ⟨0, 0, 0⟩ = V j := fun j hj => by simp [List.getD, hj]
    refine ⟨some a1, (List.range len).map V, cap, by rw [hlen]; exact hcs, fun h0 => ?_, by rw [hlen]; exact hl, fun q hq => ?_⟩
    · rw [svs_length, hlen] at h0
      obtain ⟨ab, ao, spot⟩ := a1
      have hfirst := (hV 0 (by omega)).2 0 _ rfl
      have hspot : spot = none := by simpa [Addr.add] using World.cell?_spot hfirst
      subst hspot
      refine ⟨ab, ao, rfl, ?_, fun j v hj => ?_⟩
      · have := World.block_lt_of_cell? _ _ hfirst
        rw [Addr.add_lit] at this
        exact this
      · have hj' : j < len * 3 := by
          have := (List.getElem?_eq_some_iff.1 hj).1
          rwa [svs_length, hlen] at this
        have hq : ((List.range len).map V).getD (j / 3) ⟨0, 0, 0⟩ = V (j / 3) := hget _ (by omega)
        obtain ⟨u, hu⟩ : ∃ u, (V (j / 3)).cells[j % 3]? = some u := by
          have : j % 3 < (V (j / 3)).cells.length := by simp [Sg.cells]; omega
          exact ⟨_, List.getElem?_eq_getElem this⟩
        have h1 := (hV (j / 3) (by omega)).2 (j % 3) u hu
        have h2 := svs_get (l := (List.range len).map V) (j := j / 3) (t := j % 3) (v := u) (by rw [hlen]; omega) (by rw [hq]; exact hu)
        have e : j / 3 * 3 + j % 3 = j := by omega
        rw [e] at h1 h2
        rw [Addr.add_lit] at h1
        rw [h1, ← h2, hj]
    · obtain ⟨i, hi', rfl⟩ := List.mem_map.1 hq
      exact (hV i (List.mem_range.1 hi')).1
set_option maxRecDepth 100000 in
theorem open_forms {H : Type} {enc : TypeId × Value → H} {W : World} {fuel : Nat} {x : DataW H × List MemPlace} {a : Value} (hf : DataW.trod enc Tryd.prog W 0 (fun _ => true) true fuel 23 [a] = some x) :
    ∃ (A : Option Addr) (L : List FmV) (c : Nat), a = .slice A L.length c ∧ Vs W W.heap.size A (fvs L) ∧ L.length ≤ c ∧ c ≤ maxLen ∧ ∀ x ∈ L, BodyAt W W.heap.size x := by
  obtain ⟨f0, f1, hu, hone, hC, e0, e1⟩ := gmFormFields
  rcases open_slice_fields Tryd.underlying23 hu hone hC hf with ⟨hcs, _⟩ | ⟨a1, len, cap, m, D, Pl, hcs, _, hl, hm, hmm, _, hi⟩
  · injection hcs with hcs _
    exact ⟨none, [], 0, hcs, Vs.nil_, Nat.le_refl _, Nat.zero_le _, fun s hs => by cases hs⟩
  · injection hcs with hcs _
    simp only [if_true] at hmm
    have key : ∀ i, i < len → ∃ q : FmV, BodyAt W W.heap.size q ∧ ∀ t v, q.cells[t]? = some v → W.cell? (a1.add (i * 2 + t)) = some v := fun i him => by
      obtain ⟨ys, n, _, _, _, hfs⟩ := hi i (by omega)
      obtain ⟨v0, y0, c0, _, t0⟩ := hfs 0 f0 rfl
      obtain ⟨v1, y1, c1, _, t1⟩ := hfs 1 f1 rfl
      rw [e0] at t0
      rw [e1] at t1
      obtain ⟨n0, q0, _, w0⟩ := DataW.trod_int Tryd.underlying3 t0
      obtain ⟨B, l, c, rfl, hvs, hlc, hok⟩ := open_body t1
      injection q0 with q0 _
      subst q0
      refine ⟨⟨⟨n0, l⟩, B, c⟩, ⟨hvs, hlc, gmInt_wf w0, hok⟩, fun t v ht => ?_⟩
      match t, ht with
      | 0, ht => cases ht; exact c0
      | 1, ht => cases ht; exact c1
      | t + 2, ht => simp [FmV.cells] at ht
    obtain ⟨V, hV⟩ := gmChoose ⟨⟨0, []⟩, none, 0⟩ key
    have hlen : ((List.range len).map V).length = len := by simp
    have hget : ∀ j, j < len → ((List.range len).map V)[j]? = some (V j) := fun j hj => by simp [hj]
    refine ⟨some a1, (List.range len).map V, cap, by rw [hlen]; exact hcs, fun h0 => ?_, by rw [hlen]; exact hl, hm, fun q hq => ?_⟩
    · rw [fvs_length, hlen] at h0
      obtain ⟨ab, ao, spot⟩ := a1
      have hfirst := (hV 0 (by omega)).2 0 _ rfl
      have hspot : spot = none := by simpa [Addr.add] using World.cell?_spot hfirst
      subst hspot
      refine ⟨ab, ao, rfl, ?_, fun j v hj => ?_⟩
      · have := World.block_lt_of_cell? _ _ hfirst
        rw [Addr.add_lit] at this
        exact this
      · have hj' : j < len * 2 := by
          have := (List.getElem?_eq_some_iff.1 hj).1
          rwa [fvs_length, hlen] at this
        obtain ⟨u, hu⟩ : ∃ u, (V (j / 2)).cells[j % 2]? = some u := by
          have : j % 2 < (V (j / 2)).cells.length := by simp [FmV.cells]; omega
          exact ⟨_, List.getElem?_eq_getElem this⟩
        have h1 := (hV (j / 2) (by omega)).2 (j % 2) u hu
        have h2 := fvs_get (l := (List.range len).map V) (j := j / 2) (t := j % 2) (v := u) (hget _ (by omega)) hu
        have e : j / 2 * 2 + j % 2 = j := by omega
        rw [e] at h1 h2
        rw [Addr.add_lit] at h1
        rw [h1, ← h2, hj]
    · obtain ⟨i, hi', rfl⟩ := List.mem_map.1 hq
      exact (hV i (List.mem_range.1 hi')).1
set_option maxRecDepth 100000 in
theorem open_gram {H : Type} {enc : TypeId × Value → H} {W : World} {base : Nat} {v : Value} {d : DataW H} {p : List MemPlace}
    (hval : Value.okWide Tryd.prog W .any base 25 v) (h : DataW.Trod enc Tryd.prog W 0 (fun _ => true) true 25 v d p) :
    ∃ (G : Gm) (A : Option Addr) (L : List FmV) (n c : Nat), v = gmv G.k A n c ∧ GmAt W W.heap.size A L G ∧ L.length = n ∧ n ≤ c ∧ c ≤ maxLen := by
  obtain ⟨cs, rfl, _⟩ := okWide_struct Tryd.underlying25 hval
  obtain ⟨fuel, hf⟩ := h
  obtain ⟨f0, f1, hu, hC, ⟨e0, o0⟩, ⟨e1, o1⟩⟩ := gmGramFields
  obtain ⟨ys, n, _, _, hl, hyl, hfs⟩ := DataW.trod_struct hu hf
  have g0 := hfs 0 f0 rfl
  have g1 := hfs 1 f1 rfl
  rw [e0, o0, gmcInt] at g0
  rw [e1, o1, gmcForms] at g1
  rw [hC] at hl
  have hcs : (Value.agg cs).cells.toList = cs.toList := by simp [Value.cells]
  rw [hcs] at hl g0 g1
  match hq : cs.toList, hl, ys, hyl with
  | [a0, a1], _, [y0, y1], _ =>
    rw [hq] at g0 g1
    obtain ⟨zk, q0, _, w0⟩ := DataW.trod_int (x := y0) Tryd.underlying3 (by simpa using g0)
    obtain ⟨A, L, c, q1, hvs, hlc, hcm, hbs⟩ := open_forms (x := y1) (by simpa using g1)
    simp only [List.cons.injEq, and_true] at q0
    subst q0 q1
    refine ⟨⟨zk, L.map (·.f)⟩, A, L, L.length, c, ?_, ⟨rfl, hvs, hbs, gmInt_wf w0⟩, rfl, hlc, hcm⟩
    rw [← Array.toArray_toList (xs := cs), hq]
    rfl
end Go.Proofs.YthfbmihpdkkcjaaDoor
