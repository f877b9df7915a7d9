/-
  Arguments opened: flags, acts. No conditions.
-/
import Derived.Test.YtnnjneijdfibnaaDiskArmed
import Derived.Test.YtnnjneijdfibnaaFields
namespace Go.Proofs.Ytnnjneijdfibnaa
open Go.ChangeShapes Go.WideShapes Go.RowKit Go.Deep

theorem boolcells : Try.prog.cellsOf 4 = 1 := by kernel_rfl
theorem boolbytes : Try.prog.bytesOf 4 = 1 := by kernel_rfl
theorem open_flags {H : Type} {enc : TypeId × Value → H} {W : World} {fuel : Nat} {cs : List Value} {x : DataW H × List MemPlace} (hf : DataW.trod enc Try.prog W 0 (fun _ => true) true fuel 35 cs = some x) :
    ∃ A l c, cs = [.slice A (l : List Bool).length c] ∧ Vs W W.heap.size A (bvs l) ∧ (l = [] ∨ ∃ elems spare, x.1 = .slice elems spare ∧ elems.length = l.length) := by
  rcases open_slice Try.underlying35 hf with ⟨hcs, _⟩ | ⟨a, len, cap, m, n, D, Pl, hcs, hb, hl, hm, hmm, hx, hi⟩
  · exact ⟨none, [], 0, hcs, Vs.nil_, .inl rfl⟩
  · simp only [if_true] at hmm
    have hcell : ∀ i, i < len → ∃ b : Bool, W.cell? (a.add i) = some (.bool b) := by
      intro i hi'
      obtain ⟨cs', hc, ht⟩ := hi i (by omega)
      rw [boolcells, Nat.mul_one] at hc
      obtain ⟨b, e, _⟩ := DataW.trod_bool Try.underlying4 ht
      subst e
      obtain ⟨_, hcl, hat⟩ := World.cells?_some hc
      have := hat 0 (by omega)
      rw [add_add, Nat.add_zero] at this
      exact ⟨b, this⟩
    obtain ⟨V, hV⟩ := choose_lt hcell
    have hlen : ((List.range len).map V).length = len := by simp
    refine ⟨some a, (List.range len).map V, cap, by rw [hlen]; exact hcs, fun h0 => ?_, .inr ⟨_, _, by rw [hx], by simp⟩⟩
    rw [bvs_length, hlen] at h0
    obtain ⟨ab, ao, spot⟩ := a
    have hspot : spot = none := by simpa [Addr.add] using World.cell?_spot (hV 0 h0)
    subst hspot
    refine ⟨ab, ao, rfl, ?_, fun j v hj => ?_⟩
    · have := World.block_lt_of_cell? _ _ (hV 0 h0)
      rw [Addr.add_lit] at this
      exact this
    · have hj' : j < len := by
        have := (List.getElem?_eq_some_iff.1 hj).1
        rwa [bvs_length, hlen] at this
      have h1 := hV j hj'
      rw [Addr.add_lit] at h1
      rw [h1]
      have := bvs_get (l := (List.range len).map V) (j := j) (by rw [hlen]; exact hj')
      rw [this] at hj
      rw [← hj]
      simp [List.getD, hj']

instance : Inhabited ActV := ⟨act0⟩
theorem actFields : ∃ f0 f1 f2 f3 f4 : Field, Try.prog.underlying 44 = some (.struct #[f0, f1, f2, f3, f4]) ∧ oneCellFields Try.prog #[f0, f1, f2, f3, f4] = true ∧ Try.prog.cellsOf 44 = 5 ∧
    f0.type = 3 ∧ f1.type = 3 ∧ f2.type = 3 ∧ f3.type = 5 ∧ f4.type = 35 :=
  ⟨_, _, _, _, _, Try.underlying44, by kernel_rfl, by kernel_rfl, rfl, rfl, rfl, rfl, rfl⟩
theorem i64_wf {n : Int} (h : (Lit.int .i64 n).wf = true) : -9223372036854775808 ≤ n ∧ n ≤ 9223372036854775807 := by
  simp only [Lit.wf, Bool.and_eq_true, decide_eq_true_eq] at h
  have h1 : IntKind.i64.min = -9223372036854775808 := rfl
  have h2 : IntKind.i64.max = 9223372036854775807 := rfl
  rw [h1, h2] at h
  exact h
theorem u8_wf {n : Int} (h : (Lit.int .u8 n).wf = true) : ∃ f : UInt8, n = (f.toNat : Int) := by
  simp only [Lit.wf, Bool.and_eq_true, decide_eq_true_eq] at h
  have h1 : IntKind.u8.min = 0 := rfl
  have h2 : IntKind.u8.max = 255 := rfl
  rw [h1, h2] at h
  refine ⟨UInt8.ofNat n.toNat, ?_⟩
  simp only [UInt8.toNat_ofNat']
  omega
theorem keep_fits {H : Type} {l : List Bool} {x : DataW H} (hd : l = [] ∨ ∃ elems spare, x = .slice elems spare ∧ elems.length = l.length) (hw : ∀ n ∈ x.weights Try.prog 35, n ≤ reachBytes) : l.length ≤ 140737488355328 := by
  rcases hd with rfl | ⟨elems, spare, rfl, he⟩
  · simp
  · have h := hw ((elems.length + spare.length) * Try.prog.bytesOf 4) (by simp [DataW.weights, Try.underlying35])
    rw [boolbytes, reach_is] at h
    omega
theorem open_acts {H : Type} {enc : TypeId × Value → H} {W : World} {base : Nat} {v : Value} {d : DataW H} {p : List MemPlace} (hw : ∀ n ∈ d.weights Try.prog 34, n ≤ reachBytes)
    (hval : Value.okWide Try.prog W .any base 34 v) (h : DataW.Trod enc Try.prog W 0 (fun _ => true) true 34 v d p) :
    ∃ A n c, v = .slice A n c ∧ n ≤ maxLen ∧ Acts W A n := by
  obtain ⟨a1, len, cap, rfl⟩ := okWide_slice Try.underlying34 hval
  obtain ⟨fuel, hf⟩ := h
  obtain ⟨f0, f1, f2, f3, f4, hu, hone, hC, e0, e1, e2, e3, e4⟩ := actFields
  rcases open_slice_fields Try.underlying34 hu hone hC hf with ⟨hcs, hx⟩ | ⟨a, len', cap', m, D, Pl, hcs, _, hl, hm, hmm, hx, hi⟩
  · simp [Value.cells] at hcs
    obtain ⟨rfl, rfl, rfl⟩ := hcs
    exact ⟨none, 0, 0, rfl, Nat.zero_le _, fun h => absurd h (by simp)⟩
  · simp [Value.cells] at hcs
    obtain ⟨rfl, rfl, rfl⟩ := hcs
    simp only [if_true] at hmm
    have key : ∀ i, i < len → ∃ (q : ActV) (S : Option Addr) (c : Nat), q.ok ∧ (∀ j v, (actCells q S c)[j]? = some v → W.cell? (a.add (i * 5 + j)) = some v) ∧ Vs W W.heap.size S (bvs q.keep) := fun i him => by
      obtain ⟨ys, n, hDi, _, hyl, hfs⟩ := hi i (by omega)
      obtain ⟨v0, y0, c0, _, t0⟩ := hfs 0 f0 rfl
      obtain ⟨v1, y1, c1, _, t1⟩ := hfs 1 f1 rfl
      obtain ⟨v2, y2, c2, _, t2⟩ := hfs 2 f2 rfl
      obtain ⟨v3, y3, c3, _, t3⟩ := hfs 3 f3 rfl
      obtain ⟨v4, y4, c4, hy4, t4⟩ := hfs 4 f4 rfl
      rw [e0] at t0
      rw [e1] at t1
      rw [e2] at t2
      rw [e3] at t3
      rw [e4] at t4
      obtain ⟨n0, q0, _, w0⟩ := DataW.trod_int Try.underlying3 t0
      obtain ⟨n1, q1, _, w1⟩ := DataW.trod_int Try.underlying3 t1
      obtain ⟨n2, q2, _, w2⟩ := DataW.trod_int Try.underlying3 t2
      obtain ⟨n3, q3, _, w3⟩ := DataW.trod_int Try.underlying5 t3
      obtain ⟨S, keep, c, q4, hS, hk⟩ := open_flags t4
      injection q0 with q0 _
      injection q1 with q1 _
      injection q2 with q2 _
      injection q3 with q3 _
      injection q4 with q4 _
      subst q0 q1 q2 q3 q4
      obtain ⟨f, rfl⟩ := u8_wf w3
      have hkl : keep.length ≤ 140737488355328 := keep_fits hk (fun z hz => by
        refine hw z ?_
        have h1 : z ∈ (D i).weights Try.prog 44 := by
          rw [hDi]
          refine weights_field (j := 4) (f := f4) hu rfl (d := y4.1) (by rw [List.getElem?_map, hy4]; rfl) z ?_
          rw [e4]
          exact hz
        simp only [Prod.mk.injEq] at hx
        rw [hx.1]
        exact weights_elem Try.underlying34 (List.mem_map.2 ⟨i, List.mem_range.2 him, rfl⟩) z h1)
      refine ⟨⟨n0, n1, n2, f, keep⟩, S, c, ⟨i64_wf w1, i64_wf w2, hkl⟩, fun j v hj => ?_, hS⟩
      match j, hj with
      | 0, hj => simp only [actCells, List.getElem?_cons_zero, Option.some.injEq] at hj; subst hj; exact c0
      | 1, hj => simp only [actCells, List.getElem?_cons_succ, List.getElem?_cons_zero, Option.some.injEq] at hj; subst hj; exact c1
      | 2, hj => simp only [actCells, List.getElem?_cons_succ, List.getElem?_cons_zero, Option.some.injEq] at hj; subst hj; exact c2
      | 3, hj => simp only [actCells, List.getElem?_cons_succ, List.getElem?_cons_zero, Option.some.injEq] at hj; subst hj; exact c3
      | 4, hj => simp only [actCells, List.getElem?_cons_succ, List.getElem?_cons_zero, Option.some.injEq] at hj; subst hj; exact c4
      | j + 5, hj => simp [actCells] at hj
    refine ⟨some a, len, cap, rfl, Nat.le_trans hl hm, fun h0 => ?_⟩
    obtain ⟨q0, S0, k0, _, hc0, _⟩ := key 0 h0
    have hfirst := hc0 0 _ rfl
    obtain ⟨ab, ao, spot⟩ := a
    have hspot : spot = none := by simpa [Addr.add] using World.cell?_spot hfirst
    subst hspot
    refine ⟨ab, ao, rfl, ?_, fun i hi' => ?_⟩
    · have := World.block_lt_of_cell? _ _ hfirst
      rw [Addr.add_lit] at this
      exact this
    · obtain ⟨q, S, c, hq, hc, hS⟩ := key i hi'
      refine ⟨q, S, c, hq, fun j v hj => ?_, hS⟩
      have := hc j v (by simpa using hj)
      rw [Addr.add_lit] at this
      rw [Nat.add_assoc]
      exact this
theorem open_keep {H : Type} {enc : TypeId × Value → H} {W : World} {base : Nat} {v : Value} {d : DataW H} {p : List MemPlace} (hw : ∀ n ∈ d.weights Try.prog 35, n ≤ reachBytes)
    (hval : Value.okWide Try.prog W .any base 35 v) (h : DataW.Trod enc Try.prog W 0 (fun _ => true) true 35 v d p) :
    ∃ A l c, v = .slice A (l : List Bool).length c ∧ Vs W W.heap.size A (bvs l) ∧ l.length ≤ 140737488355328 := by
  obtain ⟨a1, len, cap, rfl⟩ := okWide_slice Try.underlying35 hval
  obtain ⟨fuel, hf⟩ := h
  obtain ⟨A, l, c, hcs, hv, hk⟩ := open_flags hf
  simp [Value.cells] at hcs
  obtain ⟨rfl, rfl, rfl⟩ := hcs
  exact ⟨_, l, _, rfl, hv, keep_fits hk hw⟩
theorem sized_at {H : Type} {P : Program} {ts : List TypeId} {ds : List (DataW H)} (h : (DataW.weightsEach P ts ds).all (· ≤ reachBytes) = true) {j : Nat} {t : TypeId} {d : DataW H} (ht : ts[j]? = some t) (hd : ds[j]? = some d) : ∀ n ∈ d.weights P t, n ≤ reachBytes := fun n hn => by
  have := List.all_eq_true.1 h _ (DataW.weights_mem_each ht hd n hn)
  simpa using this
end Go.Proofs.Ytnnjneijdfibnaa
