/-
  The law's Do where it arms. Conditions: the theorem's own premises.
-/
import Derived.Test.YtdhaikcmgegfoaaDiskDo1
namespace Go.Proofs.Ytdhaikcmgegfoaa
open Go.RowKit

theorem flags_row {w : World} {base n c : Nat} {A : Option Addr} {l : List Bool} {t : TypeId} (h : w.ownsRow base t 1 (.slice A n c) n (bvs l)) {j : Nat} (hj : j < n) (hl : l.length = n) :
    ∃ g, A = some ⟨g, 0, none⟩ ∧ w.cell? ⟨g, j, none⟩ = some (.bool (l.getD j false)) ∧ w.frozen? ⟨g, j, none⟩ = false := by
  rcases h.2 with ⟨_, h0⟩ | ⟨g, cap, cur, hv, hg, hh, hr⟩
  · omega
  · injection hv with hA hk hc
    subst hA hc
    refine ⟨g, rfl, ?_, by simp [World.frozen?, hh]⟩
    have := World.ownsRow.cells h (g := g) rfl j _ (bvs_get (by rw [hl]; exact hj))
    rwa [Addr.add_lit, Nat.zero_add] at this
end Go.Proofs.Ytdhaikcmgegfoaa
