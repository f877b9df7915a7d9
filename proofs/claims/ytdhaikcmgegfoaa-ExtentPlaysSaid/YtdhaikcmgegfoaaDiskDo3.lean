/-
  The law's Do where it flushes. Conditions: the theorem's own premises.
-/
import Derived.Test.YtdhaikcmgegfoaaDiskDo2
namespace Go.Proofs.Ytdhaikcmgegfoaa
open Go.RowKit

theorem exec_load_row {P : Program} {w : World} {o : Oper} {a : Act} (ty : TypeId) (x : Operand) (ho : o.op = .load ty x) (g off : Nat) (hx : a.eval x = .pointer (some ⟨g, off, none⟩)) (cs : Array Value) (d : TypeDesc) (hc : Cells w g off cs)
    (hu : P.underlying ty = some d) (hd : agg? d = true) (hi : (P.info? ty).map (·.size) = some cs.size) : (execOp a.eval o).run P w = .ok (.value (.agg cs)) w := by
  unfold execOp
  simp only [ho, hx, Instr.loadAt, Instr.sureAddr, Sem.run_bind, Sem.run_pure, Result.andThen_ok, run_loadVar_at g off ty cs d hc hu hd hi]
theorem wp_store_row {P : Program} {w : World} {o : Oper} {a : Act} {K : Act → World → Prop} {Q : Exit → Act → World → Prop} (ty : TypeId) (x y : Operand) (ho : o.op = .store ty x y)
    (g : Nat) (cells : List Value) (hx : a.eval x = .pointer (some ⟨g, 0, none⟩)) (hy : a.eval y = .agg cells.toArray)
    (t : TypeId) (old : List Value) (hg : Blk w g t old.toArray) (hi : (P.info? ty).map (·.size) = some cells.length) (hfit : old.length = cells.length) (h1 : ∀ v ∈ cells, v.oneCell' = true)
    (h : ∀ w', Blk w' g t cells.toArray → w.grownBy w' (some g) → K (a.put o.dst undef) w') : o.wp P a w K Q := by
  obtain ⟨w', hrun, h2, h3⟩ := run_storeVar_at (P := P) g 0 ty t old cells hg hi (by omega) h1
  rw [splice_whole _ _ hfit] at h2
  unfold Oper.wp execOp
  simp only [ho, hx, hy, Instr.storeAt, Instr.sureAddr, Sem.run_bind, Sem.run_pure, Result.andThen_ok, hrun]
  exact h w' h2 h3
theorem laid_has (m : Dk) (b : Bool) (s : List Bool) : (m.laid b s).has.length = m.has.length := by simp [Dk.laid, lay_length]
theorem flush_has (m : Dk) : m.flush.1.has.length = m.has.length := by
  unfold Dk.flush
  split
  · rw [laid_has, step_has]
  · exact step_has m
theorem flush_waits (m : Dk) : m.flush.1.waits.length ≤ m.waits.length := by
  unfold Dk.flush
  split
  · simp [Dk.laid]
  · exact step_waits m
end Go.Proofs.Ytdhaikcmgegfoaa
