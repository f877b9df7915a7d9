/-
  Arguments opened: a machine. No conditions.
-/
import Derived.Test.YthgiehlfmdobkaaDoorInsOpens
import Derived.Test.YthgiehlfmdobkaaDoorPvmData
import Derived.OpenShut
namespace Go.Proofs.YthgiehlfmdobkaaDoor
open Go.ChangeShapes Go.WideShapes Go.RowKit Go.Deep

theorem machFields : ∃ f0 f1 f2 f3 f4 : Field, Tryd.prog.underlying 27 = some (.struct #[f0, f1, f2, f3, f4]) ∧ Tryd.prog.cellsOf 27 = 12 ∧
    (f0.type = 3 ∧ f0.offset = 0) ∧ (f1.type = 23 ∧ f1.offset = 1) ∧ (f2.type = 24 ∧ f2.offset = 9) ∧ (f3.type = 3 ∧ f3.offset = 10) ∧ (f4.type = 25 ∧ f4.offset = 11) :=
  ⟨_, _, _, _, _, Tryd.underlying27, by kernel_rfl, ⟨rfl, rfl⟩, ⟨rfl, rfl⟩, ⟨rfl, rfl⟩, ⟨rfl, rfl⟩, ⟨rfl, rfl⟩⟩
theorem mcInt : Tryd.prog.cellsOf 3 = 1 := by kernel_rfl
theorem mcI64 : Tryd.prog.cellsOf 2 = 1 := by kernel_rfl
theorem mcArr : Tryd.prog.cellsOf 23 = 8 := by kernel_rfl
theorem mcSl : Tryd.prog.cellsOf 24 = 1 := by kernel_rfl
theorem mcErr : Tryd.prog.cellsOf 25 = 1 := by kernel_rfl
theorem open_regs {H : Type} {enc : TypeId × Value → H} {W : World} {fuel : Nat} {x : DataW H × List MemPlace} {a0 a1 a2 a3 a4 a5 a6 a7 : Value} (h : DataW.trod enc Tryd.prog W 0 (fun _ => true) true fuel 23 [a0, a1, a2, a3, a4, a5, a6, a7] = some x) :
    ∃ z0 z1 z2 z3 z4 z5 z6 z7, [a0, a1, a2, a3, a4, a5, a6, a7] = [.int .i64 z0, .int .i64 z1, .int .i64 z2, .int .i64 z3, .int .i64 z4, .int .i64 z5, .int .i64 z6, .int .i64 z7] ∧ R64 z0 ∧ R64 z1 ∧ R64 z2 ∧ R64 z3 ∧ R64 z4 ∧ R64 z5 ∧ R64 z6 ∧ R64 z7 := by
  obtain ⟨xs, m, _, _, _, hl, hat⟩ := DataW.trod_array Tryd.underlying23 h
  have key : ∀ (i : Nat) (a : Value), i < 8 → [a0, a1, a2, a3, a4, a5, a6, a7][i]? = some a → ∃ z, a = .int .i64 z ∧ R64 z := fun i a hi ha => by
    have h1 := hat i hi
    rw [mcI64, Nat.mul_one] at h1
    have hx : xs[i]? = some (xs[i]'(by omega)) := List.getElem?_eq_getElem (by omega)
    rw [hx] at h1
    have hd : ([a0, a1, a2, a3, a4, a5, a6, a7].drop i).take 1 = [a] := by
      obtain ⟨hlt, e⟩ := List.getElem?_eq_some_iff.1 ha
      rw [List.drop_eq_getElem_cons hlt, List.take_succ_cons, List.take_zero, e]
    rw [hd] at h1
    obtain ⟨z, q, _, w⟩ := DataW.trod_int Tryd.underlying2 h1
    injection q with q _
    exact ⟨z, q, int_wf w⟩
  obtain ⟨z0, rfl, w0⟩ := key 0 a0 (by decide) rfl
  obtain ⟨z1, rfl, w1⟩ := key 1 a1 (by decide) rfl
  obtain ⟨z2, rfl, w2⟩ := key 2 a2 (by decide) rfl
  obtain ⟨z3, rfl, w3⟩ := key 3 a3 (by decide) rfl
  obtain ⟨z4, rfl, w4⟩ := key 4 a4 (by decide) rfl
  obtain ⟨z5, rfl, w5⟩ := key 5 a5 (by decide) rfl
  obtain ⟨z6, rfl, w6⟩ := key 6 a6 (by decide) rfl
  obtain ⟨z7, rfl, w7⟩ := key 7 a7 (by decide) rfl
  exact ⟨z0, z1, z2, z3, z4, z5, z6, z7, rfl, w0, w1, w2, w3, w4, w5, w6, w7⟩
theorem open_words {H : Type} {enc : TypeId × Value → H} {W : World} {fuel : Nat} {x : DataW H × List MemPlace} {a : Value} (hf : DataW.trod enc Tryd.prog W 0 (fun _ => true) true fuel 24 [a] = some x) :
    ∃ (A : Option Addr) (zs : List Int) (c : Nat), a = .slice A zs.length c ∧ Vs W W.heap.size A (zv zs) ∧ zs.length ≤ c ∧ c ≤ maxLen ∧ ∀ z ∈ zs, R64 z := by
  rcases open_ints Tryd.underlying24 Tryd.underlying2 mcI64 hf with ⟨hcs, hx⟩ | ⟨a1, len, cap, zs, hcs, _, hl, hm, hz, hx, hcell, hwz⟩
  · injection hcs with hcs _
    exact ⟨none, [], 0, hcs, Vs.nil_, Nat.le_refl _, Nat.zero_le _, fun z hz => absurd hz (by simp)⟩
  · injection hcs with hcs _
    simp only [if_true] at hz
    have hlen : (zs.take len).length = len := by simp; omega
    refine ⟨some a1, zs.take len, cap, by rw [hlen]; exact hcs, fun hp => ?_, by rw [hlen]; exact hl, hm, fun z hz2 => int_wf (hwz z (List.mem_of_mem_take hz2))⟩
    rw [zv_length, hlen] at hp
    obtain ⟨ab, ao, spot⟩ := a1
    have hspot : spot = none := by simpa [Addr.add] using World.cell?_spot (hcell 0 (by omega))
    subst hspot
    refine ⟨ab, ao, rfl, ?_, fun j v hj => ?_⟩
    · have := World.block_lt_of_cell? _ _ (hcell 0 (by omega))
      rw [Addr.add_lit] at this
      exact this
    · have hj' : j < len := by
        have := (List.getElem?_eq_some_iff.1 hj).1
        rwa [zv_length, hlen] at this
      rw [zv_get (by rw [hlen]; exact hj')] at hj
      have hcj := hcell j (by omega)
      rw [Addr.add_lit] at hcj
      rw [hcj, ← hj]
      simp [List.getD, hj', show j < zs.length by omega]
def regs8 (z0 z1 z2 z3 z4 z5 z6 z7 : Int) : Nat → Int := fun j => [z0, z1, z2, z3, z4, z5, z6, z7].getD j 0
set_option maxRecDepth 100000 in
theorem open_mach {H : Type} {enc : TypeId × Value → H} {W : World} {base : Nat} {v : Value} {d : DataW H} {p : List MemPlace}
    (hval : Value.okWide Tryd.prog W .any base 27 v) (h : DataW.Trod enc Tryd.prog W 0 (fun _ => true) true 27 v d p) :
    ∃ M A n c, v = mv M A n c ∧ MachAt W M A n c ∧ c ≤ maxLen := by
  obtain ⟨cs, rfl, _⟩ := okWide_struct Tryd.underlying27 hval
  obtain ⟨fuel, hf⟩ := h
  obtain ⟨f0, f1, f2, f3, f4, hu, hC, ⟨e0, o0⟩, ⟨e1, o1⟩, ⟨e2, o2⟩, ⟨e3, o3⟩, ⟨e4, o4⟩⟩ := machFields
  obtain ⟨ys, n, _, _, hl, hyl, hfs⟩ := DataW.trod_struct hu hf
  have g0 := hfs 0 f0 rfl
  have g1 := hfs 1 f1 rfl
  have g2 := hfs 2 f2 rfl
  have g3 := hfs 3 f3 rfl
  have g4 := hfs 4 f4 rfl
  rw [e0, o0, mcInt] at g0
  rw [e1, o1, mcArr] at g1
  rw [e2, o2, mcSl] at g2
  rw [e3, o3, mcInt] at g3
  rw [e4, o4, mcErr] at g4
  rw [hC] at hl
  have hcs : (Value.agg cs).cells.toList = cs.toList := by simp [Value.cells]
  rw [hcs] at hl g0 g1 g2 g3 g4
  match hq : cs.toList, hl, ys, hyl with
  | [a0, a1, a2, a3, a4, a5, a6, a7, a8, a9, a10, a11], _, [y0, y1, y2, y3, y4], _ =>
    rw [hq] at g0 g1 g2 g3 g4
    obtain ⟨zp, q0, _, w0⟩ := DataW.trod_int (x := y0) Tryd.underlying3 (by simpa using g0)
    obtain ⟨z0, z1, z2, z3, z4, z5, z6, z7, q1, r0, r1, r2, r3, r4, r5, r6, r7⟩ := open_regs (x := y1) (by simpa using g1)
    obtain ⟨A, zs, c, q2, hvs, hlc, hcm, hzs⟩ := open_words (x := y2) (by simpa using g2)
    obtain ⟨zs', q3, _, w3⟩ := DataW.trod_int (x := y3) Tryd.underlying3 (by simpa using g3)
    obtain ⟨zt, q4, _, w4⟩ := DataW.trod_int (x := y4) Tryd.underlying25 (by simpa using g4)
    simp only [List.cons.injEq, and_true] at q0 q1 q3 q4
    obtain ⟨rfl, rfl, rfl, rfl, rfl, rfl, rfl, rfl⟩ := q1
    subst q0 q2 q3 q4
    refine ⟨⟨zp, regs8 z0 z1 z2 z3 z4 z5 z6 z7, zs, zs', zt⟩, A, zs.length, c, ?_, ⟨rfl, hlc, hvs, ⟨int_wf w0, fun j => ?_, hzs, int_wf w3, int_wf w4⟩⟩, hcm⟩
    · rw [← Array.toArray_toList (xs := cs), hq]
      rfl
    · match j with
      | 0 => exact r0
      | 1 => exact r1
      | 2 => exact r2
      | 3 => exact r3
      | 4 => exact r4
      | 5 => exact r5
      | 6 => exact r6
      | 7 => exact r7
      | j + 8 => exact r64_0
end Go.Proofs.YthgiehlfmdobkaaDoor
