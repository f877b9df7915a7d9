/-
  A slice of puts that came in reads as a list of puts. No conditions.
-/
import Derived.Test.YthfmacmchiidlaaDoorOctetBack
import Derived.Test.YthfmacmchiidlaaDoorTied
import Derived.Deep.Slices
import Derived.Deep.Fields
namespace Go.Proofs.YthfmacmchiidlaaDoor
open Go.ChangeShapes Go.WideShapes Go.RowKit Go.Deep

section
variable {H : Type} {enc : TypeId × Value → H} {P : Program} {w : World} {base : Nat} {spare : Nat → Bool} {held : Bool}
theorem open_slice_fields {t e : TypeId} {fs : Array Field} {fuel : Nat} {cs : List Value} {x : DataW H × List MemPlace} (ht : P.underlying t = some (.slice e)) (he : P.underlying e = some (.struct fs))
    (hone : oneCellFields P fs = true) (hC : P.cellsOf e = fs.size) (h : DataW.trod enc P w base spare held fuel t cs = some x) :
    (cs = [.slice none 0 0] ∧ x = (.nil, [])) ∨
    ∃ (a : Addr) (len cap m : Nat) (D : Nat → DataW H) (Pl : Nat → List MemPlace), cs = [.slice (some a) len cap] ∧ base ≤ a.block ∧ len ≤ cap ∧ cap ≤ maxLen ∧ m = (if spare a.block then cap else len) ∧
      x = (.slice ((List.range len).map D) ((List.range (m - len)).map fun j => D (len + j)), MemPlace.row a (m * fs.size) ++ (List.range m).flatMap Pl) ∧
      ∀ i, i < m → ∃ (ys : List (DataW H × List MemPlace)) (n : Nat), D i = .agg (ys.map (·.1)) ∧ Pl i = ys.flatMap (·.2) ∧ ys.length = fs.size ∧
        ∀ (j : Nat) (f : Field), fs[j]? = some f → ∃ (v : Value) (y : DataW H × List MemPlace), w.cell? (a.add (i * fs.size + j)) = some v ∧ ys[j]? = some y ∧ DataW.trod enc P w base spare held n f.type [v] = some y := by
  rcases open_slice ht h with h0 | ⟨a, len, cap, m, n, D, Pl, hcs, hb, hl, hm, hmm, hx, hi⟩
  · exact .inl h0
  · refine .inr ⟨a, len, cap, m, D, Pl, hcs, hb, hl, hm, hmm, by rw [hC] at hx; exact hx, fun i him => ?_⟩
    obtain ⟨cs', hc, ht'⟩ := hi i him
    rw [hC] at hc
    obtain ⟨ys, n', hn', hy, hlen, hyl, hf⟩ := DataW.trod_struct he ht'
    obtain ⟨_, hcl, hat⟩ := World.cells?_some hc
    simp only [Prod.mk.injEq] at hy
    refine ⟨ys, n', hy.1, hy.2, hyl, fun j f hj => ?_⟩
    obtain ⟨ho, hk⟩ := hone_of hone j f hj
    have hjl : j < fs.size := (Array.getElem?_eq_some_iff.1 hj).1
    have hcell := hat j hjl
    have hv : cs'[j]? = some (cs'[j]'(by omega)) := List.getElem?_eq_getElem (by omega)
    have h1 := hf j f hj
    rw [ho, hk] at h1
    have hone' : (cs'.drop j).take 1 = [cs'[j]'(by omega)] := by
      rw [List.drop_eq_getElem_cons (by omega)]
      rfl
    rw [hone'] at h1
    have hys : ys[j]? = some (ys[j]'(by omega)) := List.getElem?_eq_getElem (by omega)
    refine ⟨_, _, ?_, hys, h1.trans hys⟩
    rw [← Go.Deep.add_add, hcell, hv]
end

instance : Inhabited PutV := ⟨⟨0, 0, ⟨#[]⟩, false⟩⟩
theorem putFields : ∃ f0 f1 f2 f3 : Field, Tryd.prog.underlying 36 = some (.struct #[f0, f1, f2, f3]) ∧ oneCellFields Tryd.prog #[f0, f1, f2, f3] = true ∧ Tryd.prog.cellsOf 36 = 4 ∧
    f0.type = 22 ∧ f1.type = 3 ∧ f2.type = 9 ∧ f3.type = 4 :=
  ⟨_, _, _, _, Tryd.underlying36, by kernel_rfl, by kernel_rfl, rfl, rfl, rfl, rfl⟩

theorem open_puts {H : Type} {enc : TypeId × Value → H} {W : World} {base : Nat} {v : Value} {d : DataW H} {p : List MemPlace}
    (hval : Value.okWide Tryd.prog W .any base 34 v) (h : DataW.Trod enc Tryd.prog W 0 (fun _ => true) true 34 v d p) :
    ∃ A ps c, v = .slice A (List.length ps) c ∧ Puts W W.heap.size A ps := by
  obtain ⟨a1, len, cap, rfl⟩ := okWide_slice Tryd.underlying34 hval
  obtain ⟨fuel, hf⟩ := h
  obtain ⟨f0, f1, f2, f3, hu, hone, hC, e0, e1, e2, e3⟩ := putFields
  rcases open_slice_fields Tryd.underlying34 hu hone hC hf with ⟨hcs, hx⟩ | ⟨a, len', cap', m, D, Pl, hcs, _, hl, hm, hmm, hx, hi⟩
  · simp [Value.cells] at hcs
    obtain ⟨rfl, rfl, rfl⟩ := hcs
    exact ⟨none, [], 0, rfl, fun i h => by simp at h⟩
  · simp [Value.cells] at hcs
    obtain ⟨rfl, rfl, rfl⟩ := hcs
    simp only [if_true] at hmm
    have key : ∀ i, i < len → ∃ q : PutV, W.cell? (a.add (i * 4)) = some (.int .u64 (q.n : Int)) ∧ W.cell? (a.add (i * 4 + 1)) = some (.int .i64 q.size) ∧
        W.cell? (a.add (i * 4 + 2)) = some (.string q.s) ∧ W.cell? (a.add (i * 4 + 3)) = some (.bool q.text) ∧ q.n < 18446744073709551616 := fun i him => by
      obtain ⟨ys, n, _, _, _, hfs⟩ := hi i (by omega)
      obtain ⟨v0, y0, c0, _, t0⟩ := hfs 0 f0 rfl
      obtain ⟨v1, y1, c1, _, t1⟩ := hfs 1 f1 rfl
      obtain ⟨v2, y2, c2, _, t2⟩ := hfs 2 f2 rfl
      obtain ⟨v3, y3, c3, _, t3⟩ := hfs 3 f3 rfl
      rw [e0] at t0
      rw [e1] at t1
      rw [e2] at t2
      rw [e3] at t3
      obtain ⟨n0, q0, _, w0⟩ := DataW.trod_int Tryd.underlying22 t0
      obtain ⟨n1, q1, _, _⟩ := DataW.trod_int Tryd.underlying3 t1
      obtain ⟨n2, q2, _, _⟩ := DataW.trod_string Tryd.underlying9 t2
      obtain ⟨n3, q3, _⟩ := DataW.trod_bool Tryd.underlying4 t3
      injection q0 with q0 _
      injection q1 with q1 _
      injection q2 with q2 _
      injection q3 with q3 _
      subst q0 q1 q2 q3
      obtain ⟨k, rfl, hk⟩ := nat_u64 w0
      exact ⟨⟨k, n1, n2, n3⟩, c0, c1, c2, c3, hk⟩
    obtain ⟨V, hV⟩ := choose_lt key
    have hlen : ((List.range len).map V).length = len := by simp
    refine ⟨some a, (List.range len).map V, cap, by rw [hlen], fun i hi' => ?_⟩
    rw [hlen] at hi'
    obtain ⟨ab, ao, spot⟩ := a
    have hspot : spot = none := by simpa [Addr.add] using World.cell?_spot (hV 0 (by omega)).1
    subst hspot
    obtain ⟨h0, h1, h2, h3, h4⟩ := hV i hi'
    have hg : ((List.range len).map V)[i]'(by simpa using hi') = V i := by simp
    rw [hg]
    rw [Addr.add_lit] at h0 h1 h2 h3
    rw [← Nat.add_assoc] at h1 h2 h3
    refine ⟨ab, ao, rfl, cell_size h0, h0, h1, h2, h3, h4⟩
end Go.Proofs.YthfmacmchiidlaaDoor
