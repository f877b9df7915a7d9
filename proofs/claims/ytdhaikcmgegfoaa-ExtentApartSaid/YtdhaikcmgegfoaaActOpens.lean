/-
  Arguments opened: flags, acts. No conditions.
-/
import Derived.Test.YtdhaikcmgegfoaaDiskArmed
import Derived.Test.YtdhaikcmgegfoaaFields
namespace Go.Proofs.Ytdhaikcmgegfoaa
open Go.ChangeShapes Go.WideShapes Go.RowKit Go.Deep

theorem boolcells : Try.prog.cellsOf 4 = 1 := by kernel_rfl
theorem boolbytes : Try.prog.bytesOf 4 = 1 := by kernel_rfl
theorem open_flags {H : Type} {enc : TypeId × Value → H} {W : World} {fuel : Nat} {cs : List Value} {x : DataW H × List MemPlace} (hf : DataW.trod enc Try.prog W 0 (fun _ => true) true fuel 43 cs = some x) :
    ∃ A l c, cs = [.slice A (l : List Bool).length c] ∧ Vs W W.heap.size A (bvs l) ∧ (l = [] ∨ ∃ elems spare, x.1 = .slice elems spare ∧ elems.length = l.length) := by
  rcases open_slice Try.underlying43 hf with ⟨hcs, _⟩ | ⟨a, len, cap, m, n, D, Pl, hcs, hb, hl, hm, hmm, hx, hi⟩
  · exact ⟨none, [], 0, hcs, Vs.nil_, .inl rfl⟩
  · simp only [if_true] at hmm
    have hcell : ∀ i, i < len → ∃ b : Bool, W.cell? (a.add i) = some (.bool b) := by
      intro i hi'
      obtain ⟨cs', hc, ht⟩ := hi i (by omega)
      rw [boolcells, Nat.mul_one] at hc
      obtain ⟨b, e, _⟩ := DataW.trod_bool Try.underlying4 ht
      subst e
      obtain ⟨_, hcl, hat⟩ := World.cells?_some hc
      have := hat 0 (by omega)
      rw [add_add, Nat.add_zero] at this
      exact ⟨b, this⟩
    obtain ⟨V, hV⟩ := choose_lt hcell
    have hlen : ((List.range len).map V).length = len := by simp
    refine ⟨some a, (List.range len).map V, cap, by rw [hlen]; exact hcs, fun h0 => ?_, .inr ⟨_, _, by rw [hx], by simp⟩⟩
    rw [bvs_length, hlen] at h0
    obtain ⟨ab, ao, spot⟩ := a
    have hspot : spot = none := by simpa [Addr.add] using World.cell?_spot (hV 0 h0)
    subst hspot
    refine ⟨ab, ao, rfl, ?_, fun j v hj => ?_⟩
    · have := World.block_lt_of_cell? _ _ (hV 0 h0)
      rw [Addr.add_lit] at this
      exact this
    · have hj' : j < len := by
        have := (List.getElem?_eq_some_iff.1 hj).1
        rwa [bvs_length, hlen] at this
      have h1 := hV j hj'
      rw [Addr.add_lit] at h1
      rw [h1]
      have := bvs_get (l := (List.range len).map V) (j := j) (by rw [hlen]; exact hj')
      rw [this] at hj
      rw [← hj]
      simp [List.getD, hj']

instance : Inhabited ActV := ⟨act0⟩
theorem i64_wf {n : Int} (h : (Lit.int .i64 n).wf = true) : -9223372036854775808 ≤ n ∧ n ≤ 9223372036854775807 := by
  simp only [Lit.wf, Bool.and_eq_true, decide_eq_true_eq] at h
  have h1 : IntKind.i64.min = -9223372036854775808 := rfl
  have h2 : IntKind.i64.max = 9223372036854775807 := rfl
  rw [h1, h2] at h
  exact h
theorem u8_wf {n : Int} (h : (Lit.int .u8 n).wf = true) : ∃ f : UInt8, n = (f.toNat : Int) := by
  simp only [Lit.wf, Bool.and_eq_true, decide_eq_true_eq] at h
  have h1 : IntKind.u8.min = 0 := rfl
  have h2 : IntKind.u8.max = 255 := rfl
  rw [h1, h2] at h
  refine ⟨UInt8.ofNat n.toNat, ?_⟩
  simp only [UInt8.toNat_ofNat']
  omega
theorem keep_fits {H : Type} {l : List Bool} {x : DataW H} (hd : l = [] ∨ ∃ elems spare, x = .slice elems spare ∧ elems.length = l.length) (hw : ∀ n ∈ x.weights Try.prog 43, n ≤ reachBytes) : l.length ≤ 140737488355328 := by
  rcases hd with rfl | ⟨elems, spare, rfl, he⟩
  · simp
  · have h := hw ((elems.length + spare.length) * Try.prog.bytesOf 4) (by simp [DataW.weights, Try.underlying43])
    rw [boolbytes, reach_is] at h
    omega
set_option maxRecDepth 100000 in
theorem open_keep {H : Type} {enc : TypeId × Value → H} {W : World} {base : Nat} {v : Value} {d : DataW H} {p : List MemPlace} (hw : ∀ n ∈ d.weights Try.prog 43, n ≤ reachBytes)
    (hval : Value.okWide Try.prog W .any base 43 v) (h : DataW.Trod enc Try.prog W 0 (fun _ => true) true 43 v d p) :
    ∃ A l c, v = .slice A (l : List Bool).length c ∧ Vs W W.heap.size A (bvs l) ∧ l.length ≤ 140737488355328 := by
  obtain ⟨a1, len, cap, rfl⟩ := okWide_slice Try.underlying43 hval
  obtain ⟨fuel, hf⟩ := h
  obtain ⟨A, l, c, hcs, hv, hk⟩ := open_flags hf
  simp [Value.cells] at hcs
  obtain ⟨rfl, rfl, rfl⟩ := hcs
  exact ⟨_, l, _, rfl, hv, keep_fits hk hw⟩
theorem sized_at {H : Type} {P : Program} {ts : List TypeId} {ds : List (DataW H)} (h : (DataW.weightsEach P ts ds).all (· ≤ reachBytes) = true) {j : Nat} {t : TypeId} {d : DataW H} (ht : ts[j]? = some t) (hd : ds[j]? = some d) : ∀ n ∈ d.weights P t, n ≤ reachBytes := fun n hn => by
  have := List.all_eq_true.1 h _ (DataW.weights_mem_each ht hd n hn)
  simpa using this
end Go.Proofs.Ytdhaikcmgegfoaa
