/-
  Arguments opened: a slice of instructions. No conditions.
-/
import Derived.Test.YthgiehlfmdobkaaDoorFields
import Derived.Test.YthgiehlfmdobkaaDoorCodeRef2
namespace Go.Proofs.YthgiehlfmdobkaaDoor
open Go.ChangeShapes Go.WideShapes Go.RowKit Go.Deep

theorem byte_wf {n : Int} (h : (Lit.int .u8 n).wf = true) : ∃ k : Nat, n = (k : Int) ∧ k < 256 := by
  simp only [Lit.wf, Bool.and_eq_true, decide_eq_true_eq] at h
  have h1 : IntKind.u8.min = 0 := rfl
  have h2 : IntKind.u8.max = 255 := rfl
  rw [h1, h2] at h
  exact ⟨n.toNat, by omega, by omega⟩
theorem int_wf {n : Int} (h : (Lit.int .i64 n).wf = true) : -9223372036854775808 ≤ n ∧ n ≤ 9223372036854775807 := by
  simp only [Lit.wf, Bool.and_eq_true, decide_eq_true_eq] at h
  have h1 : IntKind.i64.min = -9223372036854775808 := rfl
  have h2 : IntKind.i64.max = 9223372036854775807 := rfl
  rw [h1, h2] at h
  exact h
theorem insFields : ∃ f0 f1 f2 f3 : Field, Tryd.prog.underlying 61 = some (.struct #[f0, f1, f2, f3]) ∧ oneCellFields Tryd.prog #[f0, f1, f2, f3] = true ∧ Tryd.prog.cellsOf 61 = 4 ∧ f0.type = 5 ∧ f1.type = 5 ∧ f2.type = 5 ∧ f3.type = 5 :=
  ⟨_, _, _, _, Tryd.underlying61, by kernel_rfl, by kernel_rfl, rfl, rfl, rfl, rfl⟩
set_option maxRecDepth 100000 in
theorem open_inss {H : Type} {enc : TypeId × Value → H} {W : World} {base : Nat} {v : Value} {d : DataW H} {p : List MemPlace}
    (hval : Value.okWide Tryd.prog W .any base 34 v) (h : DataW.Trod enc Tryd.prog W 0 (fun _ => true) true 34 v d p) :
    ∃ A l n c, v = .slice A n c ∧ (l : List Ins).length = n ∧ n ≤ c ∧ c ≤ maxLen ∧ InsAt W A l := by
  obtain ⟨a1, len, cap, rfl⟩ := okWide_slice Tryd.underlying34 hval
  obtain ⟨fuel, hf⟩ := h
  obtain ⟨f0, f1, f2, f3, hu, hone, hC, e0, e1, e2, e3⟩ := insFields
  rcases open_slice_fields Tryd.underlying34 hu hone hC hf with ⟨hcs, _⟩ | ⟨a, len', cap', m, D, Pl, hcs, _, hl, hm, hmm, _, hi⟩
  · simp [Value.cells] at hcs
    obtain ⟨rfl, rfl, rfl⟩ := hcs
    exact ⟨none, [], 0, 0, rfl, rfl, Nat.le_refl _, Nat.zero_le _, Vs.nil_, fun i hi => by cases hi⟩
  · simp [Value.cells] at hcs
    obtain ⟨rfl, rfl, rfl⟩ := hcs
    simp only [if_true] at hmm
    have key : ∀ i, i < len → ∃ q : Ins, q.ok ∧ ∀ t v, q.cells[t]? = some v → W.cell? (a.add (i * 4 + t)) = some v := fun i him => by
      obtain ⟨ys, n, _, _, _, hfs⟩ := hi i (by omega)
      obtain ⟨v0, y0, c0, _, t0⟩ := hfs 0 f0 rfl
      obtain ⟨v1, y1, c1, _, t1⟩ := hfs 1 f1 rfl
      obtain ⟨v2, y2, c2, _, t2⟩ := hfs 2 f2 rfl
      obtain ⟨v3, y3, c3, _, t3⟩ := hfs 3 f3 rfl
      rw [e0] at t0
      rw [e1] at t1
      rw [e2] at t2
      rw [e3] at t3
      obtain ⟨n0, q0, _, w0⟩ := DataW.trod_int Tryd.underlying5 t0
      obtain ⟨n1, q1, _, w1⟩ := DataW.trod_int Tryd.underlying5 t1
      obtain ⟨n2, q2, _, w2⟩ := DataW.trod_int Tryd.underlying5 t2
      obtain ⟨n3, q3, _, w3⟩ := DataW.trod_int Tryd.underlying5 t3
      injection q0 with q0 _
      injection q1 with q1 _
      injection q2 with q2 _
      injection q3 with q3 _
      subst q0 q1 q2 q3
      obtain ⟨k0, rfl, l0⟩ := byte_wf w0
      obtain ⟨k1, rfl, l1⟩ := byte_wf w1
      obtain ⟨k2, rfl, l2⟩ := byte_wf w2
      obtain ⟨k3, rfl, l3⟩ := byte_wf w3
      refine ⟨⟨k0, k1, k2, k3⟩, ⟨l0, l1, l2, l3⟩, fun t v ht => ?_⟩
      match t, ht with
      | 0, ht => cases ht; exact c0
      | 1, ht => cases ht; exact c1
      | 2, ht => cases ht; exact c2
      | 3, ht => cases ht; exact c3
      | t + 4, ht => simp [Ins.cells] at ht
    obtain ⟨V, hV⟩ := choose_lt key
    have hlen : ((List.range len).map V).length = len := by simp
    have hget : ∀ j, j < len → ((List.range len).map V).getD j i0 = V j := fun j hj => by simp [List.getD, hj]
    refine ⟨some a, (List.range len).map V, len, cap, rfl, hlen, hl, hm, fun h0 => ?_, fun q hq => ?_⟩
    · rw [ivs_length, hlen] at h0
      obtain ⟨ab, ao, spot⟩ := a
      have hfirst := (hV 0 (by omega)).2 0 _ rfl
      have hspot : spot = none := by simpa [Addr.add] using World.cell?_spot hfirst
      subst hspot
      refine ⟨ab, ao, rfl, ?_, fun j v hj => ?_⟩
      · have := World.block_lt_of_cell? _ _ hfirst
        rw [Addr.add_lit] at this
        exact this
      · have hj' : j < len * 4 := by
          have := (List.getElem?_eq_some_iff.1 hj).1
          rwa [ivs_length, hlen] at this
        have hq : ((List.range len).map V).getD (j / 4) i0 = V (j / 4) := hget _ (by omega)
        obtain ⟨u, hu⟩ : ∃ u, (V (j / 4)).cells[j % 4]? = some u := by
          have : j % 4 < (V (j / 4)).cells.length := by simp [Ins.cells]; omega
          exact ⟨_, List.getElem?_eq_getElem this⟩
        have h1 := (hV (j / 4) (by omega)).2 (j % 4) u hu
        have h2 := ivs_get (l := (List.range len).map V) (j := j / 4) (t := j % 4) (v := u) (by rw [hlen]; omega) (by rw [hq]; exact hu)
        have e : j / 4 * 4 + j % 4 = j := by omega
        rw [e] at h1 h2
        rw [Addr.add_lit] at h1
        rw [h1, ← h2, hj]
    · obtain ⟨i, hi', rfl⟩ := List.mem_map.1 hq
      exact (hV i (List.mem_range.1 hi')).1
end Go.Proofs.YthgiehlfmdobkaaDoor
