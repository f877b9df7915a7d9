/-
  Machines in variables: their cells, loads, what a run keeps. No conditions.
-/
import Derived.Test.YthgiehlfmdobkaaDoorPvmData
namespace Go.Proofs.YthgiehlfmdobkaaDoor
open Go.RowKit

/-- a machine's cells -/
def mcells (M : Mach) (A : Option Addr) (n c : Nat) : List Value := [.int .i64 M.p, .int .i64 (M.r 0), .int .i64 (M.r 1), .int .i64 (M.r 2), .int .i64 (M.r 3), .int .i64 (M.r 4), .int .i64 (M.r 5), .int .i64 (M.r 6), .int .i64 (M.r 7), .slice A n c, .int .i64 M.s, .int .i64 M.t]
theorem mcells_one (M : Mach) (A : Option Addr) (n c : Nat) : ∀ u ∈ mcells M A n c, u.oneCell' = true := by
  intro u hu
  simp only [mcells, List.mem_cons, List.not_mem_nil, or_false] at hu
  rcases hu with rfl | rfl | rfl | rfl | rfl | rfl | rfl | rfl | rfl | rfl | rfl | rfl <;> rfl
/-- a machine in a variable: its words are not the variable's own block -/
structure Var (w : World) (g : Nat) (M : Mach) : Prop where
  at_ : ∃ A c base, Blk w g 27 (mcells M A M.mem.length c).toArray ∧ w.ownsRow base 2 1 (.slice A M.mem.length c) M.mem.length (zv M.mem) ∧ (Value.slice A M.mem.length c).ownBlock ≠ some g
theorem row_not {w w' : World} {base n size g : Nat} {e : TypeId} {v : Value} {vs : List Value} (h : w.ownsRow base e size v n vs) (hg : w.grownBy w' (some g)) (hne : v.ownBlock ≠ some g) : w'.ownsRow base e size v n vs :=
  World.ownsRow.kept h hg (by
    cases e2 : v.ownBlock with
    | none => exact .inl rfl
    | some k => exact .inr (fun h2 => hne (e2.trans h2)))

theorem mcells_reg (M : Mach) (A : Option Addr) (n c : Nat) : ∀ i, i < 8 → (mcells M A n c).toArray[1 + i]? = some (.int .i64 (M.r i)) := by
  intro i hi
  match i, hi with
  | 0, _ => rfl
  | 1, _ => rfl
  | 2, _ => rfl
  | 3, _ => rfl
  | 4, _ => rfl
  | 5, _ => rfl
  | 6, _ => rfl
  | 7, _ => rfl

theorem wp_load_one {P : Program} {w : World} {o : Oper} {a : Act} {K : Act → World → Prop} {Q : Exit → Act → World → Prop} (ty : TypeId) (x : Operand) (ho : o.op = .load ty x)
    (g : Nat) (hx : a.eval x = .pointer (some ⟨g, 0, none⟩)) (cs : Array Value) (d : TypeDesc) (hc : Cells w g 0 cs)
    (hu : P.underlying ty = some d) (hd : agg? d = true) (hi : (P.info? ty).map (·.size) = some cs.size)
    (h : K (a.put o.dst (.agg cs)) w) : o.wp P a w K Q := by
  unfold Oper.wp execOp
  simp only [ho, hx, Instr.loadAt, Instr.sureAddr, Sem.run_bind, Sem.run_pure, Result.andThen_ok, run_loadVar_at g 0 ty cs d hc hu hd hi]
  exact h

theorem load_row_yields {P : Program} {w : World} {o : Oper} {a : Act} (ty : TypeId) (x : Operand) (ho : o.op = .load ty x) (g off : Nat) (hx : a.eval x = .pointer (some ⟨g, off, none⟩)) (cs : Array Value) (d : TypeDesc) (hc : Cells w g off cs)
    (hu : P.underlying ty = some d) (hd : agg? d = true) (hi : (P.info? ty).map (·.size) = some cs.size) : (execOp a.eval o).run P w = .ok (.value (.agg cs)) w := by
  unfold execOp
  simp only [ho, hx, Instr.loadAt, Instr.sureAddr, Sem.run_bind, Sem.run_pure, Result.andThen_ok, run_loadVar_at g off ty cs d hc hu hd hi]
theorem runM_len (l : List Ins) : ∀ (k : Nat) (M : Mach), (runM l k M).1.mem.length = M.mem.length
  | 0, _ => rfl
  | k + 1, M => by
    have h1 := (stepM_stepped l M).len
    have ih := runM_len l k (stepM l M).1
    simp only [runM]
    split
    · rfl
    split
    · exact h1
    · exact ih.trans h1
theorem event_size : (Tryd.prog.info? 38).map (·.size) = some 2 := by kernel_rfl
theorem machAt_q {w : World} {base q : Nat} {M : Mach} {A : Option Addr} {c : Nat} (h : w.ownsRow base 2 1 (.slice A q c) q (zv M.mem)) (hl : M.mem.length = q) (hok : MOk M) : MachAt w M A q c := by
  subst hl
  exact machAt_row h hok
end Go.Proofs.YthgiehlfmdobkaaDoor
