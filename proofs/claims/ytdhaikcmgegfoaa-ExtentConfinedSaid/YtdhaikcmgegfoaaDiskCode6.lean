/-
  slices.Clone of flags, and package disk's Arm, by their contracts. Conditions: each theorem's own premises.
-/
import Derived.Test.YtdhaikcmgegfoaaDiskCode5
namespace Go.Proofs.Ytdhaikcmgegfoaa
open Go.RowKit

theorem bool_info : (Try.prog.info? 4).map (fun i => (i.zero, i.size, i.bytes)) = some (some (.bool false), 1, 1) := by kernel_rfl
def RowPost (w : World) (t : TypeId) (n : Nat) (vs : List Value) (e : Ending) (w' : World) : Prop :=
  ∃ A c, e = .returned (.slice A n c) ∧ w'.ownsRow w.heap.size t 1 (.slice A n c) n vs ∧ Below w.heap.size w w'

theorem at_build_ {P : Program} {w : World} {ops : Array Oper} {rest : List Oper} {d : Option Tmp} (ty : TypeId) {fs : Array (Nat × Operand)} {t : TypeId} {p : String} {af : Array Edge} {g : Option (Nat × Bool)} {a : Act} {Q : Exit → Act → World → Prop}
    (h : wpList P ops Q (⟨d, .build ty fs, t, p, af, g⟩ :: rest) a w) : wpList P ops Q (⟨d, .build ty fs, t, p, af, g⟩ :: rest) a w := h
theorem wpList_build_got {P : Program} {w : World} {ops : Array Oper} {rest : List Oper} {o : Oper} {a : Act} {Q : Exit → Act → World → Prop} (hg : o.guard = none) (t : TypeId) (parts : Array (Nat × Operand)) (ho : o.op = .build t parts) (cells : Array Value)
    (hf : P.built t (parts.map fun (i, x) => (i, a.eval x)).toList = some cells) (h : wpList P ops Q rest (a.put o.dst (.agg cells)) w) : wpList P ops Q (o :: rest) a w := by
  refine wpList_build hg t parts ho (by rw [hf]; rfl) ?_
  rw [hf]
  exact h
theorem failure_built (n : Int) (S : Option Addr) (k c : Nat) : Try.prog.built 104 [(0, .int .i64 n), (1, .slice S k c)] = some #[.int .i64 n, .slice S k c] := by kernel_rfl

theorem failure_new (a : Act) (x y : Operand) (n : Int) (S : Option Addr) (k c : Nat) (hx : a.eval x = .int .i64 n) (hy : a.eval y = .slice S k c) : Try.prog.built 104 ((#[(0, x), (1, y)] : Array (Nat × Operand)).map fun (i, x) => (i, a.eval x)).toList = some #[.int .i64 n, .slice S k c] := by
  have e : ((#[(0, x), (1, y)] : Array (Nat × Operand)).map fun (i, x) => (i, a.eval x)).toList = [(0, .int .i64 n), (1, .slice S k c)] := by simp [hx, hy]
  rw [e]
  exact failure_built n S k c
theorem row_base {w : World} {base n size : Nat} {e : TypeId} {v : Value} {vs : List Value} (h : w.ownsRow base e size v n vs) : w.ownsRow 0 e size v n vs := by
  refine ⟨h.1, ?_⟩
  rcases h.2 with h2 | ⟨g, cap, cur, hv, hg, hr⟩
  · exact .inl h2
  · exact .inr ⟨g, cap, cur, hv, Nat.zero_le _, hr⟩
section
variable {w w1 w2 : World} {gd gc cw : Nat} {F G : Nat → Prop} {W T : Option Addr} {m : Dk}
theorem CodeAt.wider (h : CodeAt w gd F m gc W cw T) (hG : ∀ g, F g → G g) (hl : ∀ g, G g → g < w.heap.size) : CodeAt w gd G m gc W cw T := by
  refine ⟨h.ok, h.idle, hl, hG _ h.own, h.blk, hG _ h.ownC, h.content, h.pend, fun g e => hG g (h.ownP g e), ?_⟩
  rcases h.armed with h1 | ⟨h0, ga, S, cs, e, h1, h2, h3, h4⟩
  · exact .inl h1
  · exact .inr ⟨h0, ga, S, cs, e, hG _ h1, h2, h3, fun g e => hG g (h4 g e)⟩
/-- armed anew: the failure lies in a new block, and so do its survivors -/
theorem CodeAt.rearm (h : CodeAt w gd F m gc W cw T) (hb : Blk w gd 85 (dkCells gc (64 * m.has.length) W m.waits.length cw m.off T).toArray) {left : Int} {surv : List Bool} {ga : Nat} {S : Option Addr} {cs : Nat} (hl0 : 0 ≤ left) (hl1 : left ≤ 9223372036854775807) (hoff : m.off = false)
    (hba : Blk w ga 104 #[.int .i64 left, .slice S surv.length cs]) (hrow : w.ownsRow 0 4 1 (.slice S surv.length cs) surv.length (bvs surv)) (hg : w.grownBy w2 (some gd))
    (hb2 : Blk w2 gd 85 (dkCells gc (64 * m.has.length) W m.waits.length cw m.off (some ⟨ga, 0, none⟩)).toArray) :
    CodeAt w2 gd (fun g => F g ∨ g = ga ∨ (Value.slice S surv.length cs).ownBlock = some g) { m with left := left, surv := surv } gc W cw (some ⟨ga, 0, none⟩) := by
  have hk : Kept (· = gd) w w2 := .of_grown hg (fun g e => by cases e; exact .inl rfl)
  refine ⟨⟨h.ok.small, h.ok.len, h.ok.at_, by simp only; omega⟩, fun e => (by simp only [hoff] at e; cases e), ?_, .inl h.own, hb2, .inl h.ownC, hk.blk h.content (fun e => h.content.apart hb (by decide) e),
    row_keep h.pend hk (fun g e2 e3 => row_apart h.pend hb (by decide) (e3 ▸ e2)), fun g e => .inl (h.ownP g e), .inr ⟨hl0, ga, S, cs, rfl, .inr (.inl rfl), hk.blk hba (fun e => hba.apart hb (by decide) e), row_keep hrow hk (fun g e2 e3 => row_apart hrow hb (by decide) (e3 ▸ e2)), fun g e => .inr (.inr e)⟩⟩
  rintro g (hg' | rfl | e)
  · exact Nat.lt_of_lt_of_le (h.lt g hg') hg.size
  · exact Nat.lt_of_lt_of_le hba.lt hg.size
  · exact Nat.lt_of_lt_of_le (World.ownsRow.lt hrow g e).2 hg.size
end

end Go.Proofs.Ytdhaikcmgegfoaa
