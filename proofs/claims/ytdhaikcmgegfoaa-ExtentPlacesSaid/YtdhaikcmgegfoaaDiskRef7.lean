/-
  The disk's reference: Read, by its contract. Conditions: the theorem's own premises.
-/
import Derived.Test.YtdhaikcmgegfoaaDiskRef6
namespace Go.Proofs.Ytdhaikcmgegfoaa
open Go.RowKit

/-- what the last one of the first j writes to sector k says -/
def rdw (ws : List (Nat × List UInt8)) (k : Nat) : Nat → Option (List UInt8)
  | 0 => none
  | j + 1 => if (ws.getD j (0, [])).1 = k then some (ws.getD j (0, [])).2 else rdw ws k j
def Dk.read (d : Dk) (k : Int) : List UInt8 × Nat :=
  if k < 0 ∨ (d.has.length : Int) ≤ k then ([], 4) else if d.off = true then ([], 9) else ((rdw d.waits k.toNat d.waits.length).getD (d.has.getD k.toNat []), 0)
def DkReadPost (w : World) (r : List UInt8 × Nat) (e : Ending) (w' : World) : Prop := e = .returned (.tuple #[sv r.1, .int .i64 (r.2 : Nat)]) ∧ Below w.heap.size w w'

set_option maxRecDepth 100000 in
set_option maxHeartbeats 1000000 in
set_option linter.unusedSimpArgs false in
theorem refRead_any (w : World) (cs : List Value) (d : Dk) (h : RefIs w w.heap.size cs d) (hw : d.waits.length ≤ 1000000) (k : Int) : Calls Try.prog 22 #[.agg cs.toArray, .int .i64 k] w (DkReadPost w (d.read k)) := by
  obtain ⟨hok, A0, W, S0, ca0, cw, cs0, ecs, hA0, hW, hS0⟩ := h
  subst ecs
  obtain ⟨X, hX⟩ : ∃ X, (refCells A0 W S0 ca0 cw cs0 d).toArray = X := ⟨_, rfl⟩
  rw [hX]
  have HX := Lib.hid hX
  have HP := Lib.hid (And.intro hA0 (And.intro hW hok))
  clear hX hA0 hW hS0 hok
  go_enter Try.func22, Try.ntmps22
  go_wp2_with (first
    | (refine wpList_box rfl 45 (.tmp 0) rfl X rfl ?_; intro w1 hb1 hw1 hz1; refine stopped ?_)
    | fail)
  rw [← HX.out] at hb1
  obtain ⟨g2, e2⟩ : ∃ g, w.heap.size = g := ⟨_, rfl⟩
  obtain ⟨nh, enh⟩ : ∃ n, d.has.length = n := ⟨_, rfl⟩
  obtain ⟨nW, enW⟩ : ∃ n, d.waits.length = n := ⟨_, rfl⟩
  rw [e2] at hb1 ⊢
  have hc0 : w1.cell? ⟨g2, 0, none⟩ = some (.slice A0 nh ca0) := by rw [hb1.cell, ← enh]; rfl
  have hc1 : w1.cell? ⟨g2, 1, none⟩ = some (.slice W nW cw) := by rw [hb1.cell, ← enW]; rfl
  have hc2 : w1.cell? ⟨g2, 2, none⟩ = some (.bool d.off) := by rw [hb1.cell]; rfl
  rw [enW] at hw
  have hVA := HP.out.1.below hw1
  have hVW := HP.out.2.1.below hw1
  have HB := Lib.hid (And.intro hw1 (And.intro enh (And.intro enW (And.intro hVA hVW))))
  clear hb1 hw1 hz1 enh enW e2 hVA hVW
  refine go_on ?_
  by_cases hk0 : k < 0
  · go_wp2_with fail
    go_ret2
    refine ⟨?_, HB.out.1⟩
    rw [Dk.read, if_pos (.inl (by omega))]
    rfl
  · by_cases hk1 : (nh : Int) ≤ k
    · go_wp2_with fail
      go_ret2
      refine ⟨?_, HB.out.1⟩
      rw [Dk.read, if_pos (.inr (by rw [HB.out.2.1]; omega))]
      rfl
    · obtain ⟨p, rfl⟩ : ∃ p : Nat, k = (p : Int) := ⟨k.toNat, by omega⟩
      have hp : p < nh := by omega
      have hpi : (p : Int) < (nh : Int) := by omega
      cases hoff : d.off
      · rw [hoff] at hc2
        have hrd : d.read (p : Int) = ((rdw d.waits p d.waits.length).getD (d.has.getD p []), 0) := by
          unfold Dk.read
          rw [if_neg (by rw [HB.out.2.1]; omega), if_neg (by rw [hoff]; decide)]
          rfl
        have HR := Lib.hid hrd
        clear hrd
        go_wp2_with fail
        go_loopw [6] (fun i wz => ∃ (j : Nat) (z : Int), j ≤ nW ∧ i = .int .i64 z ∧ z + 1 = (j : Int) ∧ wz = w1 ∧ rdw d.waits p d.waits.length = rdw d.waits p j) (fun i _ => (intOf i + 1).toNat)
        case atStart => exact ⟨nW, (nW : Int) - 1, Nat.le_refl _, rfl, by omega, rfl, by rw [HB.out.2.2.1]⟩
        case round =>
          obtain ⟨j, z, hj, rfl, hz, rfl, hr⟩ := hrel
          have HJ := Lib.hid hr
          clear hr
          cases j with
          | zero =>
            obtain rfl : z = -1 := by omega
            obtain ⟨b, o, eA, hbl, hcell⟩ := HB.out.2.2.2.1.at_ (k := p) (by rw [svs_length, HB.out.2.1]; exact hp)
            have hget := svs_get (l := d.has) (j := p) (by rw [HB.out.2.1]; exact hp)
            obtain ⟨st, hst⟩ : ∃ st, sv (d.has.getD p []) = .string st := ⟨_, rfl⟩
            have hcell2 : wr.cell? ⟨b, o + p, none⟩ = some (.string st) := by
              rw [hcell, ← List.getElem?_eq_getElem, hget, hst]
            subst eA
            have HST := Lib.hid hst
            clear hcell hget hst
            go_wp2_with fail
            go_ret2
            refine ⟨?_, HB.out.1⟩
            rw [HR.out, HJ.out]
            show _ = Ending.returned (.tuple #[sv (d.has.getD p []), .int .i64 0])
            rw [HST.out]
            rfl
          | succ j =>
            obtain rfl : z = (j : Int) := by omega
            have hjw : j < d.waits.length := by rw [HB.out.2.2.1]; omega
            obtain ⟨x1, x2⟩ := wvs_get hjw
            obtain ⟨b, o, eW, hbW, hcW⟩ := HB.out.2.2.2.2 (by rw [wvs_length]; omega)
            have y1 := hcW _ _ x1
            have y2 := hcW _ _ x2
            rw [← Nat.add_assoc] at y2
            have hun : rdw d.waits p (j + 1) = if (d.waits.getD j (0, [])).1 = p then some (d.waits.getD j (0, [])).2 else rdw d.waits p j := rfl
            obtain ⟨q, eq⟩ : ∃ q, d.waits.getD j (0, []) = q := ⟨_, rfl⟩
            rw [eq] at y1 y2 hun
            obtain ⟨qa, eqa⟩ : ∃ x, q.1 = x := ⟨_, rfl⟩
            obtain ⟨qb, eqb⟩ : ∃ x, q.2 = x := ⟨_, rfl⟩
            obtain ⟨st, hst⟩ : ∃ st, sv qb = .string st := ⟨_, rfl⟩
            rw [eqa] at y1 hun
            rw [eqb] at hun
            rw [eqb, hst] at y2
            subst eW
            have HU := Lib.hid (And.intro hun hst)
            have hj0 : (0 : Int) ≤ (j : Int) := by omega
            have hj1 : (j : Int) < (nW : Int) := by omega
            clear hun hst x1 x2 hcW eq eqa eqb hz
            by_cases hq : qa = p
            · subst hq
              go_wp2_with fail
              go_ret2
              refine ⟨?_, HB.out.1⟩
              rw [HR.out, HJ.out, HU.out.1, if_pos trivial]
              show _ = Ending.returned (.tuple #[sv qb, .int .i64 0])
              rw [HU.out.2]
              rfl
            · have hqi : ¬ (qa : Int) = (p : Int) := by omega
              go_wp2_with fail
              go_roundw
              case rel => exact ⟨j, (j : Int) - 1, by omega, rfl, by omega, trivial, by rw [HJ.out, HU.out.1, if_neg hq]⟩
              case measure => first | (simp [intOf]; done) | (simp [intOf]; omega)
      · rw [hoff] at hc2
        go_wp2_with fail
        go_ret2
        refine ⟨?_, HB.out.1⟩
        rw [Dk.read, if_neg (by rw [HB.out.2.1]; omega), if_pos hoff]
        rfl
end Go.Proofs.Ytdhaikcmgegfoaa
