/-
  Arguments opened: a sum, a slice of slices of bytes. No conditions.
-/
import Derived.Test.YtjhkoepcolpclaaDoorOpens
import Derived.Test.YtjhkoepcolpclaaDoorArr
import Derived.Deep.Slices
import Derived.Deep.Fields
namespace Go.Proofs.YtjhkoepcolpclaaDoor
open Go.ChangeShapes Go.WideShapes Go.RowKit Go.Deep

theorem sumCells : Tryd.prog.cellsOf 24 = 32 := by kernel_rfl
theorem u8cells5 : Tryd.prog.cellsOf 5 = 1 := by kernel_rfl
theorem bytescells : Tryd.prog.cellsOf 22 = 1 := by kernel_rfl
theorem open_sum {H : Type} {enc : TypeId × Value → H} {W : World} {base : Nat} {v : Value} {d : DataW H} {p : List MemPlace}
    (hval : Value.okWide Tryd.prog W .any base 24 v) (h : DataW.Trod enc Tryd.prog W 0 (fun _ => true) true 24 v d p) : ∃ L : List UInt8, v = .agg (bv L).toArray ∧ L.length = 32 := by
  simp only [Value.okWide, Tryd.underlying24] at hval
  obtain ⟨cs, rfl, h2, _⟩ := hval
  rw [sumCells] at h2
  obtain ⟨fuel, hf⟩ := h
  cases fuel with
  | zero => simp [DataW.trod] at hf
  | succ m =>
    rw [DataW.trod_step] at hf
    unfold DataW.trodStep at hf
    simp only [Tryd.underlying24, Value.cells] at hf
    rw [if_pos (by rw [sumCells]; simpa using h2)] at hf
    simp only [Option.map_eq_some_iff] at hf
    obtain ⟨ys, hy, _⟩ := hf
    have hat : ∀ i, i < 32 → ∃ c : UInt8, cs.toList[i]? = some (.int .u8 (c.toNat : Int)) := by
      intro i hi
      obtain ⟨b, _, hb⟩ := Lib.mapM_at hy i i (by simp [hi])
      obtain ⟨a, ea, _, wa⟩ := DataW.trod_int Tryd.underlying5 hb
      rw [u8cells5, Nat.mul_one] at ea
      have hl : i < cs.toList.length := by simp; omega
      rw [List.drop_eq_getElem_cons hl, List.take_succ_cons, List.take_zero] at ea
      have e1 : cs.toList[i] = .int .u8 a := by injection ea
      have hw : 0 ≤ a ∧ a ≤ 255 := by
        simp only [Lit.wf, Bool.and_eq_true, decide_eq_true_eq] at wa
        have h1 : IntKind.u8.min = 0 := rfl
        have h2 : IntKind.u8.max = 255 := rfl
        rw [h1, h2] at wa
        exact wa
      refine ⟨UInt8.ofNat a.toNat, ?_⟩
      rw [List.getElem?_eq_getElem hl, e1]
      congr 2
      simp only [UInt8.toNat_ofNat']
      omega
    have hlen : cs.toList.length = 32 := by simpa using h2
    refine ⟨cs.toList.map fun v => match v with | .int _ z => UInt8.ofNat z.toNat | _ => 0, ?_, by simpa using h2⟩
    congr 1
    have e : cs.toList = bv (cs.toList.map fun v => match v with | .int _ z => UInt8.ofNat z.toNat | _ => 0) := by
      apply List.ext_getElem?
      intro i
      rcases Nat.lt_or_ge i 32 with hi | hi
      · obtain ⟨c, hc⟩ := hat i hi
        rw [hc]
        simp [bv, hc]
      · rw [List.getElem?_eq_none (by omega), List.getElem?_eq_none (by simp [bv]; omega)]
    rw [← e]

theorem open_piece {H : Type} {enc : TypeId × Value → H} {W : World} {fuel : Nat} {cs : List Value} {x : DataW H × List MemPlace} (hf : DataW.trod enc Tryd.prog W 0 (fun _ => true) true fuel 22 cs = some x) :
    ∃ A l c, cs = [.slice A (l : List UInt8).length c] ∧ Bs W W.heap.size A l ∧ l.length ≤ c ∧ c ≤ maxLen := by
  rcases open_ints Tryd.underlying22 Tryd.underlying5 u8cells5 hf with ⟨hcs, hx⟩ | ⟨a, len', cap', zs, hcs, _, hl, hm, hz, hx, hcell, hwz⟩
  · exact ⟨none, [], 0, hcs, Bs.nil_, Nat.le_refl _, Nat.zero_le _⟩
  · simp only [if_true] at hz
    have hlen : ((zs.take len').map fun n => UInt8.ofNat n.toNat).length = len' := by simp; omega
    refine ⟨some a, (zs.take len').map fun n => UInt8.ofNat n.toNat, cap', by rw [hlen]; exact hcs, fun hp => ?_, by rw [hlen]; exact hl, hm⟩
    rw [hlen] at hp
    obtain ⟨ab, ao, spot⟩ := a
    have hspot : spot = none := by simpa [Addr.add] using World.cell?_spot (hcell 0 (by omega))
    subst hspot
    refine ⟨ab, ao, rfl, ?_, fun j hj => ?_⟩
    · have := World.block_lt_of_cell? _ _ (hcell 0 (by omega))
      rw [Addr.add_lit] at this
      exact this
    · rw [hlen] at hj
      have hcj := hcell j (by omega)
      rw [Addr.add_lit] at hcj
      rw [hcj]
      have hb := range_u8 hwz j
      simp only [List.getElem_map, List.getElem_take]
      have e : zs.getD j 0 = zs[j]'(by omega) := by simp [List.getD, List.getElem?_eq_getElem (show j < zs.length by omega)]
      rw [List.getD_eq_getElem?_getD] at e
      rw [e] at hb
      rw [List.getD_eq_getElem?_getD, e]
      congr 2
      simp only [UInt8.toNat_ofNat']
      omega

/-- a slice of slices of bytes -/
def Pieces (W : World) (A : Option Addr) (n : Nat) : Prop := n ≤ maxLen ∧ (0 < n → ∃ b o, A = some ⟨b, o, none⟩ ∧ b < W.heap.size ∧
  ∀ i, i < n → ∃ Ai li ci, W.cell? ⟨b, o + i, none⟩ = some (.slice Ai (li : List UInt8).length ci) ∧ Bs W W.heap.size Ai li ∧ li.length ≤ ci ∧ ci ≤ maxLen)
theorem open_pieces {H : Type} {enc : TypeId × Value → H} {W : World} {base : Nat} {v : Value} {d : DataW H} {p : List MemPlace}
    (hval : Value.okWide Tryd.prog W .any base 35 v) (h : DataW.Trod enc Tryd.prog W 0 (fun _ => true) true 35 v d p) : ∃ A n c, v = .slice A n c ∧ Pieces W A n := by
  obtain ⟨a1, len, cap, rfl⟩ := okWide_slice Tryd.underlying35 hval
  obtain ⟨fuel, hf⟩ := h
  rcases open_slice Tryd.underlying35 hf with ⟨hcs, _⟩ | ⟨a, len', cap', m, n, D, Pl, hcs, hb, hl, hm, hmm, hx, hi⟩
  · simp [Value.cells] at hcs
    obtain ⟨rfl, rfl, rfl⟩ := hcs
    exact ⟨none, 0, 0, rfl, Nat.zero_le _, fun h => absurd h (by omega)⟩
  · simp [Value.cells] at hcs
    obtain ⟨rfl, rfl, rfl⟩ := hcs
    simp only [if_true] at hmm
    subst hmm
    refine ⟨some a, len, m, rfl, Nat.le_trans hl hm, fun h0 => ?_⟩
    have hcell : ∀ i, i < len → ∃ Ai li ci, W.cell? (a.add i) = some (.slice Ai (li : List UInt8).length ci) ∧ Bs W W.heap.size Ai li ∧ li.length ≤ ci ∧ ci ≤ maxLen := by
      intro i hi'
      obtain ⟨cs', hc, ht⟩ := hi i (by omega)
      rw [bytescells, Nat.mul_one] at hc
      obtain ⟨Ai, li, ci, rfl, hbs, hlc, hcm⟩ := open_piece ht
      obtain ⟨_, hcl, hat⟩ := World.cells?_some hc
      have := hat 0 (by omega)
      rw [add_add, Nat.add_zero] at this
      exact ⟨Ai, li, ci, this, hbs, hlc, hcm⟩
    obtain ⟨A0, l0, c0, hc0, _⟩ := hcell 0 h0
    obtain ⟨ab, ao, spot⟩ := a
    have hspot : spot = none := by simpa [Addr.add] using World.cell?_spot hc0
    subst hspot
    refine ⟨ab, ao, rfl, ?_, fun i hi' => ?_⟩
    · have := World.block_lt_of_cell? _ _ hc0
      rw [Addr.add_lit] at this
      exact this
    · have := hcell i hi'
      rwa [Addr.add_lit] at this
end Go.Proofs.YtjhkoepcolpclaaDoor
