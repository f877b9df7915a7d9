/-
  Package disk's Read, by its contract. Conditions: the theorem's own premises.
-/
import Derived.Test.YtdhaikcmgegfoaaDiskCode6
namespace Go.Proofs.Ytdhaikcmgegfoaa
open Go.RowKit

theorem inside_no {m : Dk} {k : Int} (h : inside m k = false) : k < 0 ∨ (m.has.length : Int) ≤ k := by
  simp only [inside, Bool.and_eq_false_iff, decide_eq_false_iff_not] at h
  omega
theorem inside_yes {m : Dk} {k : Int} (h : inside m k = true) : 0 ≤ k ∧ k < (m.has.length : Int) := by simpa [inside] using h
section
variable {w : World} {gd gc cw : Nat} {F : Nat → Prop} {W T : Option Addr} {m : Dk}
/-- the bytes of a pending write -/
theorem CodeAt.pendBs (h : CodeAt w gd F m gc W cw T) {k gp a : Nat} {s : List UInt8} (hk : k < m.waits.length) (eW : W = some ⟨gp, 0, none⟩) (e : m.waits.getD k (0, []) = (a, s)) : Bs w w.heap.size (some ⟨gp, k * 65 + 1, none⟩) s := by
  obtain ⟨g, eg, hF, hc⟩ := h.pendAt hk
  rw [e] at hc
  rw [eW] at eg
  injection eg with eg
  injection eg with eg
  subst eg
  refine fun _ => ⟨gp, k * 65 + 1, rfl, h.lt gp hF, fun j hj => ?_⟩
  rw [Nat.add_assoc]
  exact hc (1 + j) _ (by rw [List.getElem?_toArray, wr1, Nat.add_comm 1 j, List.getElem?_cons_succ]; exact bv_get hj)
end

set_option maxRecDepth 100000 in
set_option maxHeartbeats 1000000 in
set_option linter.unusedSimpArgs false in
theorem dkRead (w : World) (gd : Nat) (F : Nat → Prop) (m : Dk) (h : CodeIs w gd F m) (hw : m.waits.length ≤ 1000000) (k : Int) :
    Calls Try.prog 34 #[.pointer (some ⟨gd, 0, none⟩), .int .i64 k] w (DkOwn w (m.read k)) := by
  have hex := Lib.hid (dkExists w gd F m h k)
  have hhas := Lib.hid (dkHas w gd F m h k)
  obtain ⟨gc, W, cw, T, h⟩ := h
  have hc1 := h.c1
  have hc2 := h.c2
  cases hin : inside m k
  · have hr : m.read k = ([], 4) := by unfold Dk.read; rw [if_pos (inside_no hin)]
    rw [hin] at hex
    rw [hr]
    clear h hr
    go_enter Try.func34, Try.ntmps34
    go_wp2_with (go_at_call 49; refine hex.out.mono ?_; rintro e w' ⟨rfl, rfl⟩)
    go_ret2
    exact ⟨_, rfl, Own.nil_ _ _ _, Below.refl _ _⟩
  · have hk0 := inside_yes hin
    obtain ⟨p, rfl⟩ : ∃ p : Nat, k = (p : Int) := ⟨k.toNat, by omega⟩
    have hp : p < m.has.length := by omega
    rw [hin] at hex
    cases hoff : m.off
    · rw [hoff] at hc2
      have hrd : m.read (p : Int) = ((rdw m.waits p m.waits.length).getD (m.has.getD p []), 0) := by
        unfold Dk.read
        rw [if_neg (by omega), if_neg (by rw [hoff]; decide), Int.toNat_natCast]
      have hha : m.hasAt (p : Int) = (m.has.getD p [], 0) := by unfold Dk.hasAt; rw [hin]; rfl
      rw [hha] at hhas
      have HR := Lib.hid hrd
      have HC := Lib.hid h
      obtain ⟨nW, enW⟩ : ∃ n, m.waits.length = n := ⟨_, rfl⟩
      have HN := Lib.hid enW
      rw [enW] at hc1 hw
      clear h hrd hha hin hk0 hp hoff enW
      go_enter Try.func34, Try.ntmps34
      go_wp2_with (go_at_call 49; refine hex.out.mono ?_; rintro e w' ⟨rfl, rfl⟩)
      go_loopw [6] (fun i wz => ∃ (j : Nat) (z : Int), j ≤ nW ∧ i = .int .i64 z ∧ z + 1 = (j : Int) ∧ wz = w ∧ rdw m.waits p m.waits.length = rdw m.waits p j) (fun i _ => (intOf i + 1).toNat)
      case atStart => exact ⟨nW, (nW : Int) - 1, Nat.le_refl _, rfl, by omega, rfl, by rw [HN.out]⟩
      case round =>
        obtain ⟨j, z, hj, rfl, hz, rfl, hr⟩ := hrel
        have HJ := Lib.hid hr
        clear hr
        cases j with
        | zero =>
          obtain rfl : z = -1 := by omega
          go_wp2_with (go_at_call 46; refine hhas.out.mono ?_; rintro e w' ⟨v, rfl, hown, hbel⟩)
          go_ret2
          exact ⟨v, by rw [HR.out]; rfl, by rw [HR.out, HJ.out]; exact hown, hbel⟩
        | succ j =>
          obtain rfl : z = (j : Int) := by omega
          have hjw : j < m.waits.length := by rw [HN.out]; omega
          obtain ⟨gp, eW, _, hcells⟩ := HC.out.pendAt hjw
          obtain ⟨q, s, eq, hqa, hs⟩ := HC.out.pendGot hjw
          have hbs := HC.out.pendBs hjw eW eq
          have hun : rdw m.waits p (j + 1) = if q = p then some s else rdw m.waits p j := by
            have : rdw m.waits p (j + 1) = if (m.waits.getD j (0, [])).1 = p then some (m.waits.getD j (0, [])).2 else rdw m.waits p j := rfl
            rw [this, eq]
          rw [eq] at hcells
          have hq0 : wr.cell? ⟨gp, j * 65, none⟩ = some (.int .i64 (q : Int)) := by
            have := hcells 0 (.int .i64 (q : Int)) rfl
            rwa [Nat.add_zero] at this
          have hcl := clone_any (some ⟨gp, j * 65 + 1, none⟩) s 64 wr.heap.size wr hbs (Nat.le_refl _) (by omega)
          rw [hs] at hcl
          have hcl := Lib.hid hcl
          have HU := Lib.hid hun
          subst eW
          have hj0 : (0 : Int) ≤ (j : Int) := by omega
          have hj1 : (j : Int) < (nW : Int) := by omega
          clear hun hcells hqa hs hbs hz eq hjw
          by_cases hq : q = p
          · subst hq
            go_wp2_with (go_at_call 51; refine hcl.out.mono ?_; rintro e w' ⟨v, rfl, hown, hbel⟩)
            go_ret2
            exact ⟨v, by rw [HR.out]; rfl, by rw [HR.out, HJ.out, HU.out, if_pos trivial]; exact hown, hbel⟩
          · have hqi : ¬ (q : Int) = (p : Int) := by omega
            go_wp2_with fail
            go_roundw
            case rel => exact ⟨j, (j : Int) - 1, by omega, rfl, by omega, trivial, by rw [HJ.out, HU.out, if_neg hq]⟩
            case measure => first | (simp [intOf]; done) | (simp [intOf]; omega)
    · rw [hoff] at hc2
      have hr : m.read (p : Int) = ([], 9) := by unfold Dk.read; rw [if_neg (by omega), if_pos hoff]
      rw [hr]
      clear h hr hin hk0 hp hoff
      go_enter Try.func34, Try.ntmps34
      go_wp2_with (go_at_call 49; refine hex.out.mono ?_; rintro e w' ⟨rfl, rfl⟩)
      go_ret2
      exact ⟨_, rfl, Own.nil_ _ _ _, Below.refl _ _⟩
end Go.Proofs.Ytdhaikcmgegfoaa
