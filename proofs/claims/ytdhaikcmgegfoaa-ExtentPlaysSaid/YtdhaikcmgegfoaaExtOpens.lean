/-
  Arguments opened: extents, a slice of them, two with their sectors, acts. No conditions.
-/
import Derived.Test.YtdhaikcmgegfoaaActOpens
import Derived.Test.YtdhaikcmgegfoaaExtRef2
namespace Go.Proofs.Ytdhaikcmgegfoaa
open Go.ChangeShapes Go.WideShapes Go.RowKit Go.Deep

theorem extFields : ∃ f0 f1 : Field, Try.prog.underlying 25 = some (.struct #[f0, f1]) ∧ oneCellFields Try.prog #[f0, f1] = true ∧ Try.prog.cellsOf 25 = 2 ∧ f0.type = 3 ∧ f1.type = 3 :=
  ⟨_, _, Try.underlying25, by kernel_rfl, by kernel_rfl, rfl, rfl⟩
theorem intcells : Try.prog.cellsOf 3 = 1 := by kernel_rfl
theorem trod_ext {H : Type} {enc : TypeId × Value → H} {W : World} {base : Nat} {spare : Nat → Bool} {held : Bool} {fuel : Nat} {cs : List Value} {x : DataW H × List MemPlace} (h : DataW.trod enc Try.prog W base spare held fuel 25 cs = some x) :
    ∃ f c, cs = [.int .i64 f, .int .i64 c] ∧ isI f ∧ isI c := by
  obtain ⟨f0, f1, hu, hone, hC, e0, e1⟩ := extFields
  obtain ⟨y0, y1, n, _, hl, h0, h1⟩ := trod_struct2 hu h
  obtain ⟨o0, _⟩ := hone_of hone 0 f0 rfl
  obtain ⟨o1, _⟩ := hone_of hone 1 f1 rfl
  rw [hC] at hl
  rw [e0, o0, intcells] at h0
  rw [e1, o1, intcells] at h1
  match cs, hl with
  | [a, b], _ =>
    obtain ⟨n0, q0, _, w0⟩ := DataW.trod_int Try.underlying3 h0
    obtain ⟨n1, q1, _, w1⟩ := DataW.trod_int Try.underlying3 h1
    simp only [List.drop_zero, List.take_succ_cons, List.take_zero, List.cons.injEq, and_true] at q0
    simp only [List.drop_succ_cons, List.drop_zero, List.take_succ_cons, List.take_zero, List.cons.injEq, and_true] at q1
    subst q0 q1
    exact ⟨n0, n1, rfl, i64_wf w0, i64_wf w1⟩
set_option maxRecDepth 100000 in
theorem open_ext {H : Type} {enc : TypeId × Value → H} {W : World} {base : Nat} {v : Value} {d : DataW H} {p : List MemPlace}
    (hval : Value.okWide Try.prog W .any base 25 v) (h : DataW.Trod enc Try.prog W 0 (fun _ => true) true 25 v d p) :
    ∃ f c, v = .agg #[.int .i64 f, .int .i64 c] ∧ isI f ∧ isI c := by
  obtain ⟨cs, rfl, _⟩ := okWide_struct Try.underlying25 hval
  obtain ⟨fuel, hf⟩ := h
  obtain ⟨f, c, hcs, hi⟩ := trod_ext hf
  refine ⟨f, c, ?_, hi⟩
  have : cs.toList = [.int .i64 f, .int .i64 c] := by simpa [Value.cells] using hcs
  rw [← Array.toArray_toList (xs := cs), this]

set_option maxRecDepth 100000 in
theorem open_exts {H : Type} {enc : TypeId × Value → H} {W : World} {base : Nat} {v : Value} {d : DataW H} {p : List MemPlace}
    (hval : Value.okWide Try.prog W .any base 22 v) (h : DataW.Trod enc Try.prog W 0 (fun _ => true) true 22 v d p) :
    ∃ A l n c, v = .slice A n c ∧ (l : List (Int × Int)).length = n ∧ n ≤ c ∧ c ≤ maxLen ∧ Vs W W.heap.size A (evs l) ∧ allI l := by
  obtain ⟨a1, len, cap, rfl⟩ := okWide_slice Try.underlying22 hval
  obtain ⟨fuel, hf⟩ := h
  obtain ⟨f0, f1, hu, hone, hC, e0, e1⟩ := extFields
  rcases open_slice_fields Try.underlying22 hu hone hC hf with ⟨hcs, _⟩ | ⟨a, len', cap', m, D, Pl, hcs, _, hl, hm, hmm, _, hi⟩
  · simp [Value.cells] at hcs
    obtain ⟨rfl, rfl, rfl⟩ := hcs
    exact ⟨none, [], 0, 0, rfl, rfl, Nat.le_refl _, Nat.zero_le _, Vs.nil_, fun p hp => by cases hp⟩
  · simp [Value.cells] at hcs
    obtain ⟨rfl, rfl, rfl⟩ := hcs
    simp only [if_true] at hmm
    have key : ∀ i, i < len → ∃ q : Int × Int, W.cell? (a.add (i * 2)) = some (.int .i64 q.1) ∧ W.cell? (a.add (i * 2 + 1)) = some (.int .i64 q.2) ∧ isI q.1 ∧ isI q.2 := fun i him => by
      obtain ⟨ys, n, _, _, _, hfs⟩ := hi i (by omega)
      obtain ⟨v0, y0, c0, _, t0⟩ := hfs 0 f0 rfl
      obtain ⟨v1, y1, c1, _, t1⟩ := hfs 1 f1 rfl
      rw [e0] at t0
      rw [e1] at t1
      obtain ⟨n0, q0, _, w0⟩ := DataW.trod_int Try.underlying3 t0
      obtain ⟨n1, q1, _, w1⟩ := DataW.trod_int Try.underlying3 t1
      injection q0 with q0 _
      injection q1 with q1 _
      subst q0 q1
      exact ⟨(n0, n1), c0, c1, i64_wf w0, i64_wf w1⟩
    obtain ⟨V, hV⟩ := choose_lt key
    have hlen : ((List.range len).map V).length = len := by simp
    have hget : ∀ j, j < len → ((List.range len).map V).getD j (0, 0) = V j := fun j hj => by simp [List.getD, hj]
    refine ⟨some a, (List.range len).map V, len, cap, rfl, hlen, hl, hm, fun h0 => ?_, fun q hq => ?_⟩
    · rw [evs_length, hlen] at h0
      obtain ⟨ab, ao, spot⟩ := a
      have hfirst := (hV 0 (by omega)).1
      have hspot : spot = none := by simpa [Addr.add] using World.cell?_spot hfirst
      subst hspot
      refine ⟨ab, ao, rfl, ?_, fun j v hj => ?_⟩
      · have := World.block_lt_of_cell? _ _ hfirst
        rw [Addr.add_lit] at this
        exact this
      · have hj' : j < len * 2 := by
          have := (List.getElem?_eq_some_iff.1 hj).1
          rwa [evs_length, hlen] at this
        obtain ⟨g1, g2⟩ := evs_get (l := (List.range len).map V) (j := j / 2) (by rw [hlen]; omega)
        obtain ⟨h1, h2, _⟩ := hV (j / 2) (by omega)
        rw [Addr.add_lit] at h1 h2
        rw [hget _ (by omega)] at g1 g2
        rcases Nat.mod_two_eq_zero_or_one j with h9 | h9
        · have e : j / 2 * 2 = j := by omega
          rw [e] at g1 h1
          rw [h1, ← g1, hj]
        · have e : j / 2 * 2 + 1 = j := by omega
          rw [e] at g2 h2
          rw [h2, ← g2, hj]
    · obtain ⟨i, hi', rfl⟩ := List.mem_map.1 hq
      obtain ⟨_, _, h3, h4⟩ := hV i (List.mem_range.1 hi')
      exact ⟨h3, h4⟩

theorem placesFields : ∃ f0 f1 f2 f3 f4 : Field, Try.prog.underlying 31 = some (.struct #[f0, f1, f2, f3, f4]) ∧ Try.prog.cellsOf 31 = 7 ∧ Try.prog.cellsOf 25 = 2 ∧
    (f0.type = 25 ∧ f0.offset = 0) ∧ (f1.type = 25 ∧ f1.offset = 2) ∧ (f2.type = 3 ∧ f2.offset = 4) ∧ (f3.type = 3 ∧ f3.offset = 5) ∧ (f4.type = 3 ∧ f4.offset = 6) :=
  ⟨_, _, _, _, _, Try.underlying31, by kernel_rfl, by kernel_rfl, ⟨rfl, rfl⟩, ⟨rfl, rfl⟩, ⟨rfl, rfl⟩, ⟨rfl, rfl⟩, ⟨rfl, rfl⟩⟩
set_option maxRecDepth 100000 in
theorem open_places {H : Type} {enc : TypeId × Value → H} {W : World} {base : Nat} {v : Value} {d : DataW H} {p : List MemPlace}
    (hval : Value.okWide Try.prog W .any base 31 v) (h : DataW.Trod enc Try.prog W 0 (fun _ => true) true 31 v d p) :
    ∃ xf xc yf yc a b n, v = .agg #[.int .i64 xf, .int .i64 xc, .int .i64 yf, .int .i64 yc, .int .i64 a, .int .i64 b, .int .i64 n] ∧ isI xf ∧ isI xc ∧ isI yf ∧ isI yc ∧ isI a ∧ isI b ∧ isI n := by
  obtain ⟨cs, rfl, _⟩ := okWide_struct Try.underlying31 hval
  obtain ⟨fuel, hf⟩ := h
  obtain ⟨f0, f1, f2, f3, f4, hu, hC, hE, ⟨e0, o0⟩, ⟨e1, o1⟩, ⟨e2, o2⟩, ⟨e3, o3⟩, ⟨e4, o4⟩⟩ := placesFields
  obtain ⟨ys, n, _, _, hl, hyl, hfs⟩ := DataW.trod_struct hu hf
  have g0 := hfs 0 f0 rfl
  have g1 := hfs 1 f1 rfl
  have g2 := hfs 2 f2 rfl
  have g3 := hfs 3 f3 rfl
  have g4 := hfs 4 f4 rfl
  rw [e0, o0, hE] at g0
  rw [e1, o1, hE] at g1
  rw [e2, o2, intcells] at g2
  rw [e3, o3, intcells] at g3
  rw [e4, o4, intcells] at g4
  rw [hC] at hl
  have hcs : (Value.agg cs).cells.toList = cs.toList := by simp [Value.cells]
  rw [hcs] at hl g0 g1 g2 g3 g4
  match hq : cs.toList, hl, ys, hyl with
  | [a0, a1, a2, a3, a4, a5, a6], _, [y0, y1, y2, y3, y4], _ =>
    rw [hq] at g0 g1 g2 g3 g4
    obtain ⟨xf, xc, q0, hxf, hxc⟩ := trod_ext (x := y0) (by simpa using g0)
    obtain ⟨yf, yc, q1, hyf, hyc⟩ := trod_ext (x := y1) (by simpa using g1)
    obtain ⟨a, q2, _, w2⟩ := DataW.trod_int (x := y2) Try.underlying3 (by simpa using g2)
    obtain ⟨b, q3, _, w3⟩ := DataW.trod_int (x := y3) Try.underlying3 (by simpa using g3)
    obtain ⟨c, q4, _, w4⟩ := DataW.trod_int (x := y4) Try.underlying3 (by simpa using g4)
    simp only [List.cons.injEq, and_true] at q0 q1 q2 q3 q4
    obtain ⟨rfl, rfl⟩ := q0
    obtain ⟨rfl, rfl⟩ := q1
    subst q2 q3 q4
    refine ⟨xf, xc, yf, yc, a, b, c, ?_, hxf, hxc, hyf, hyc, i64_wf w2, i64_wf w3, i64_wf w4⟩
    rw [← Array.toArray_toList (xs := cs), hq]

theorem xactFields : ∃ f0 f1 f2 f3 f4 : Field, Try.prog.underlying 54 = some (.struct #[f0, f1, f2, f3, f4]) ∧ oneCellFields Try.prog #[f0, f1, f2, f3, f4] = true ∧ Try.prog.cellsOf 54 = 5 ∧
    f0.type = 3 ∧ f1.type = 3 ∧ f2.type = 3 ∧ f3.type = 5 ∧ f4.type = 43 :=
  ⟨_, _, _, _, _, Try.underlying54, by kernel_rfl, by kernel_rfl, rfl, rfl, rfl, rfl, rfl⟩
set_option maxRecDepth 100000 in
theorem open_xacts {H : Type} {enc : TypeId × Value → H} {W : World} {base : Nat} {v : Value} {d : DataW H} {p : List MemPlace} (hw : ∀ n ∈ d.weights Try.prog 37, n ≤ reachBytes)
    (hval : Value.okWide Try.prog W .any base 37 v) (h : DataW.Trod enc Try.prog W 0 (fun _ => true) true 37 v d p) :
    ∃ A n c, v = .slice A n c ∧ n ≤ maxLen ∧ Acts W A n := by
  obtain ⟨a1, len, cap, rfl⟩ := okWide_slice Try.underlying37 hval
  obtain ⟨fuel, hf⟩ := h
  obtain ⟨f0, f1, f2, f3, f4, hu, hone, hC, e0, e1, e2, e3, e4⟩ := xactFields
  rcases open_slice_fields Try.underlying37 hu hone hC hf with ⟨hcs, hx⟩ | ⟨a, len', cap', m, D, Pl, hcs, _, hl, hm, hmm, hx, hi⟩
  · simp [Value.cells] at hcs
    obtain ⟨rfl, rfl, rfl⟩ := hcs
    exact ⟨none, 0, 0, rfl, Nat.zero_le _, fun h => absurd h (by simp)⟩
  · simp [Value.cells] at hcs
    obtain ⟨rfl, rfl, rfl⟩ := hcs
    simp only [if_true] at hmm
    have key : ∀ i, i < len → ∃ (q : ActV) (S : Option Addr) (c : Nat), q.ok ∧ (∀ j v, (actCells q S c)[j]? = some v → W.cell? (a.add (i * 5 + j)) = some v) ∧ Vs W W.heap.size S (bvs q.keep) := fun i him => by
      obtain ⟨ys, n, hDi, _, hyl, hfs⟩ := hi i (by omega)
      obtain ⟨v0, y0, c0, _, t0⟩ := hfs 0 f0 rfl
      obtain ⟨v1, y1, c1, _, t1⟩ := hfs 1 f1 rfl
      obtain ⟨v2, y2, c2, _, t2⟩ := hfs 2 f2 rfl
      obtain ⟨v3, y3, c3, _, t3⟩ := hfs 3 f3 rfl
      obtain ⟨v4, y4, c4, hy4, t4⟩ := hfs 4 f4 rfl
      rw [e0] at t0
      rw [e1] at t1
      rw [e2] at t2
      rw [e3] at t3
      rw [e4] at t4
      obtain ⟨n0, q0, _, w0⟩ := DataW.trod_int Try.underlying3 t0
      obtain ⟨n1, q1, _, w1⟩ := DataW.trod_int Try.underlying3 t1
      obtain ⟨n2, q2, _, w2⟩ := DataW.trod_int Try.underlying3 t2
      obtain ⟨n3, q3, _, w3⟩ := DataW.trod_int Try.underlying5 t3
      obtain ⟨S, keep, c, q4, hS, hk⟩ := open_flags t4
      injection q0 with q0 _
      injection q1 with q1 _
      injection q2 with q2 _
      injection q3 with q3 _
      injection q4 with q4 _
      subst q0 q1 q2 q3 q4
      obtain ⟨f, rfl⟩ := u8_wf w3
      have hkl : keep.length ≤ 140737488355328 := keep_fits hk (fun z hz => by
        refine hw z ?_
        have h1 : z ∈ (D i).weights Try.prog 54 := by
          rw [hDi]
          refine weights_field (j := 4) (f := f4) hu rfl (d := y4.1) (by rw [List.getElem?_map, hy4]; rfl) z ?_
          rw [e4]
          exact hz
        simp only [Prod.mk.injEq] at hx
        rw [hx.1]
        exact weights_elem Try.underlying37 (List.mem_map.2 ⟨i, List.mem_range.2 him, rfl⟩) z h1)
      refine ⟨⟨n0, n1, n2, f, keep⟩, S, c, ⟨i64_wf w1, i64_wf w2, hkl⟩, fun j v hj => ?_, hS⟩
      match j, hj with
      | 0, hj => simp only [actCells, List.getElem?_cons_zero, Option.some.injEq] at hj; subst hj; exact c0
      | 1, hj => simp only [actCells, List.getElem?_cons_succ, List.getElem?_cons_zero, Option.some.injEq] at hj; subst hj; exact c1
      | 2, hj => simp only [actCells, List.getElem?_cons_succ, List.getElem?_cons_zero, Option.some.injEq] at hj; subst hj; exact c2
      | 3, hj => simp only [actCells, List.getElem?_cons_succ, List.getElem?_cons_zero, Option.some.injEq] at hj; subst hj; exact c3
      | 4, hj => simp only [actCells, List.getElem?_cons_succ, List.getElem?_cons_zero, Option.some.injEq] at hj; subst hj; exact c4
      | j + 5, hj => simp [actCells] at hj
    refine ⟨some a, len, cap, rfl, Nat.le_trans hl hm, fun h0 => ?_⟩
    obtain ⟨q0, S0, k0, _, hc0, _⟩ := key 0 h0
    have hfirst := hc0 0 _ rfl
    obtain ⟨ab, ao, spot⟩ := a
    have hspot : spot = none := by simpa [Addr.add] using World.cell?_spot hfirst
    subst hspot
    refine ⟨ab, ao, rfl, ?_, fun i hi' => ?_⟩
    · have := World.block_lt_of_cell? _ _ hfirst
      rw [Addr.add_lit] at this
      exact this
    · obtain ⟨q, S, c, hq, hc, hS⟩ := key i hi'
      refine ⟨q, S, c, hq, fun j v hj => ?_, hS⟩
      have := hc j v (by simpa using hj)
      rw [Addr.add_lit] at this
      rw [Nat.add_assoc]
      exact this
end Go.Proofs.Ytdhaikcmgegfoaa
