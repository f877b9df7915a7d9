/-
  The law's Do where it reads. Conditions: the theorem's own premises.
-/
import Derived.Test.YtdhaikcmgegfoaaDiskDo3
namespace Go.Proofs.Ytdhaikcmgegfoaa
open Go.RowKit

theorem bytes_row {w : World} {base n c : Nat} {A : Option Addr} {l : List UInt8} {t : TypeId} (h : w.ownsRow base t 1 (.slice A n c) n (bv l)) {j : Nat} (hj : j < n) (hl : l.length = n) :
    ∃ g x, A = some ⟨g, 0, none⟩ ∧ w.cell? ⟨g, j, none⟩ = some (.int .u8 x) ∧ w.frozen? ⟨g, j, none⟩ = false := by
  rcases h.2 with ⟨_, h0⟩ | ⟨g, cap, cur, hv, hg, hh, hr⟩
  · omega
  · injection hv with hA hk hc
    subst hA hc
    refine ⟨g, ((l[j]'(by omega)).toNat : Int), rfl, ?_, by simp [World.frozen?, hh]⟩
    have := World.ownsRow.cells h (g := g) rfl j _ (bv_get (by rw [hl]; exact hj))
    rwa [Addr.add_lit, Nat.zero_add] at this
theorem rdw_len {ws : List (Nat × List UInt8)} {p : Nat} : ∀ {j : Nat} {s : List UInt8}, (∀ q ∈ ws, q.2.length = 64) → j ≤ ws.length → rdw ws p j = some s → s.length = 64
  | 0, s, _, _, e => by simp [rdw] at e
  | j + 1, s, h, hj, e => by
    simp only [rdw] at e
    split at e
    · injection e with e
      rw [← e]
      exact h _ (by simp [List.getD, show j < ws.length by omega])
    · exact rdw_len h (by omega) e
theorem read_le {m : Dk} (h : m.ok) (k : Int) : (m.read k).1.length ≤ 64 := by
  unfold Dk.read
  split
  · simp
  · split
    · simp
    · cases e : rdw m.waits k.toNat m.waits.length with
      | none =>
        simp only [Option.getD_none]
        by_cases hk : k.toNat < m.has.length
        · rw [getD_len h.len hk]
          exact Nat.le_refl _
        · rw [List.getD, List.getElem?_eq_none (by omega)]
          simp
      | some s =>
        simp only [Option.getD_some]
        rw [rdw_len (fun q hq => (h.at_ q hq).2) (Nat.le_refl _) e]
        exact Nat.le_refl _
theorem bv_set (l : List UInt8) (j : Nat) (y : UInt8) : (bv l).set j (.int .u8 (y.toNat : Int)) = bv (l.set j y) := by simp [bv, List.map_set]
end Go.Proofs.Ytdhaikcmgegfoaa
