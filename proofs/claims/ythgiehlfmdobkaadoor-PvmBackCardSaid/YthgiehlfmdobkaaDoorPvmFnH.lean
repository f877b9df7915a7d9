/-
  Package pvm's effect, by its contract. Conditions: the theorem's own premises.
-/
import Derived.Test.YthgiehlfmdobkaaDoorPvmFnG
namespace Go.Proofs.YthgiehlfmdobkaaDoor
open Go.RowKit

/-- what an instruction that is well formed does: the machine, the event, its number, the trap -/
def effM (i : Ins) (M : Mach) : Mach × Int × Int × Int :=
  if i.op = 0 then ({ M with s := 1 }, 2, 0, 0)
  else if i.op = 1 then (step1 (setR M i.a i.numS), 0, 0, 0)
  else if i.op ≤ 12 then (if (calcM i.op (M.r i.b) (M.r i.c)).2 = 0 then (step1 (setR M i.a (calcM i.op (M.r i.b) (M.r i.c)).1), 0, 0, 0) else (M, 0, 0, (calcM i.op (M.r i.b) (M.r i.c)).2))
  else if i.op ≤ 14 then (if (exchM i.op i.a i.b i.c M).2 = 0 then (step1 (exchM i.op i.a i.b i.c M).1, 0, 0, 0) else (M, 0, 0, (exchM i.op i.a i.b i.c M).2))
  else if i.op = 15 ∨ (i.op = 16 ∧ M.r i.a = 0) then ({ M with p := i.num }, 0, 0, 0)
  else if i.op = 16 then (step1 M, 0, 0, 0)
  else (step1 M, 1, i.a, 0)
theorem eff_do {i : Ins} (hf : formedB i = true) (M : Mach) : doM i M = if (effM i M).2.2.2 = 0 then ((effM i M).1, (effM i M).2.1, (effM i M).2.2.1) else trapM M (effM i M).2.2.2 := by
  unfold doM effM
  rw [if_neg (by rw [hf]; decide)]
  split
  · rfl
  split
  · rfl
  rename_i g0 g1
  by_cases g2 : i.op = 2
  · rw [if_pos g2]
    have g12 : i.op ≤ 12 := by omega
    rw [if_pos g12]
    have e : calcM i.op (M.r i.b) (M.r i.c) = (M.r i.b, 0) := by unfold calcM; rw [if_neg (by omega), if_pos g2]
    rw [e]
    rfl
  rw [if_neg g2]
  split
  · rename_i g12
    by_cases hz : (i.op = 6 ∨ i.op = 7) ∧ M.r i.c = 0
    · have e : calcM i.op (M.r i.b) (M.r i.c) = (0, 80) := by unfold calcM; rw [if_pos hz]
      rw [e, if_pos hz]
      rfl
    · have e : calcM i.op (M.r i.b) (M.r i.c) = (twoM i.op (M.r i.b) (M.r i.c), 0) := by unfold calcM; rw [if_neg hz, if_neg g2]
      rw [e, if_neg hz]
      rfl
  split
  · cases hx : findM M.mem (M.r i.b) i.c with
    | none =>
      rw [exch_none hx]
      rfl
    | some k =>
      rw [exch_some hx]
      dsimp only
      split
      · rfl
      · rfl
  split
  · rfl
  split
  · rfl
  · rfl
def EffPost (B g : Nat) (A : Option Addr) (n cp : Nat) (w : World) (r : Mach × Int × Int × Int) (e : Ending) (w' : World) : Prop := e = .returned (.tuple #[ev r.2.1 r.2.2.1, .int .i64 r.2.2.2]) ∧ MV B w' g r.1 A n cp ∧ Kept (FF g A) w w'
/-- the variables of a call of effect -/
structure EffAt (B g : Nat) (A : Option Addr) (n cp : Nat) (w : World) (op a b c : Nat) (kd nm : Int) (X : Mach) (W : World) : Prop where
  mv : MV B W g X A n cp
  i4 : Blk W w.heap.size 61 (a4 op a b c).toArray
  r : Blk W (w.heap.size + 1) 38 #[.int .i64 0, .int .i64 0]
  e : Blk W (w.heap.size + 2) 38 #[.int .i64 kd, .int .i64 nm]
  k : Kept (FF g A) w W
theorem same_quiet {P : Program} {f : FuncId} {args : Array Value} {w : World} {n : Nat} {v : Value} (h : Calls P f args (w.drewN n) (Same (w.drewN n) v)) : Calls P f args (w.drewN n) fun e w'' => e = .returned v ∧ ∃ m, w'' = w.drewN m :=
  h.mono fun _ _ ⟨he, hm⟩ => ⟨he, n, hm.symm⟩
theorem ev_one (a b : Int) : ∀ u ∈ [Value.int .i64 a, Value.int .i64 b], u.oneCell' = true := by
  intro u hu
  simp only [List.mem_cons, List.not_mem_nil, or_false] at hu
  rcases hu with rfl | rfl <;> rfl
section
variable {B g n cp op a b c : Nat} {A : Option Addr} {w W : World} {kd nm : Int} {X X' : Mach}
theorem EffAt.drewN (h : EffAt B g A n cp w op a b c kd nm X W) (k : Nat) : EffAt B g A n cp w op a b c kd nm X (W.drewN k) := ⟨h.mv.drewN k, h.i4.drewN k, h.r.drewN k, h.e.drewN k, ⟨h.k.os, h.k.tape, h.k.output, h.k.size, h.k.block⟩⟩
theorem EffAt.set (h : EffAt B g A n cp w op a b c kd nm X W) (hg : g < w.heap.size) (i : Nat) (u : Value) (he : (mcells X A n cp).toArray.setIfInBounds i u = (mcells X' A n cp).toArray) (hm : X'.mem = X.mem) (hok : MOk X') : EffAt B g A n cp w op a b c kd nm X' (W.setCell ⟨g, i, none⟩ u) :=
  ⟨h.mv.set i u he hm hok, h.i4.far (p := ⟨g, i, none⟩) (fun e => by dsimp only at e; omega) u, h.r.far (p := ⟨g, i, none⟩) (fun e => by dsimp only at e; omega) u, h.e.far (p := ⟨g, i, none⟩) (fun e => by dsimp only at e; omega) u,
    h.k.trans (Kept.set (FF g A) W ⟨g, i, none⟩ u (.inl (.inl rfl))) (fun _ => .inl)⟩
theorem EffAt.ev0 (h : EffAt B g A n cp w op a b c kd nm X W) (hfl : ∀ k, FF g A k → k < w.heap.size) (v : Int) : EffAt B g A n cp w op a b c v nm X (W.setCell ⟨w.heap.size + 2, 0, none⟩ (.int .i64 v)) :=
  have hk : Kept (fun j => j = w.heap.size + 2) W (W.setCell ⟨w.heap.size + 2, 0, none⟩ (.int .i64 v)) := Kept.set _ W ⟨w.heap.size + 2, 0, none⟩ _ (.inl rfl)
  ⟨h.mv.keep hk (fun j hj e => by have := hfl j hj; omega), hk.blk h.i4 (by omega), hk.blk h.r (by omega), by have := h.e.set_ 0 (.int .i64 v); simpa using this,
    h.k.trans hk (fun j e => .inr (by omega))⟩
theorem EffAt.kept {W' : World} (h : EffAt B g A n cp w op a b c kd nm X W) (hfl : ∀ k, FF g A k → k < w.heap.size) (hk : Kept (FF g A) W W') (hv : MV B W' g X' A n cp) : EffAt B g A n cp w op a b c kd nm X' W' :=
  ⟨hv, hk.blk h.i4 (fun e => by have := hfl _ e; omega), hk.blk h.r (fun e => by have := hfl _ e; omega), hk.blk h.e (fun e => by have := hfl _ e; omega), h.k.trans hk (fun _ => .inl)⟩
theorem EffAt.below {W' : World} (h : EffAt B g A n cp w op a b c kd nm X W) (hb : Below W.heap.size W W') : EffAt B g A n cp w op a b c kd nm X W' :=
  ⟨h.mv.below hb, h.i4.below hb h.i4.lt, h.r.below hb h.r.lt, h.e.below hb h.e.lt, h.k.trans (Kept.of_below (F := fun _ => False) hb) (fun _ => False.elim)⟩
theorem EffAt.evs {W' : World} {kd' nm' : Int} (h : EffAt B g A n cp w op a b c kd nm X W) (hfl : ∀ k, FF g A k → k < w.heap.size) (hb : Blk W' (w.heap.size + 2) 38 #[.int .i64 kd', .int .i64 nm']) (hg : W.grownBy W' (some (w.heap.size + 2))) : EffAt B g A n cp w op a b c kd' nm' X W' :=
  have hk : Kept (fun j => j = w.heap.size + 2) W W' := Kept.of_grown hg (fun j e => by cases e; exact .inl rfl)
  ⟨h.mv.keep hk (fun j hj e => by have := hfl j hj; omega), hk.blk h.i4 (by omega), hk.blk h.r (by omega), hb, h.k.trans hk (fun j e => .inr (by omega))⟩
theorem EffAt.fin {w6 : World} (h : EffAt B g A n cp w op a b c kd nm X W) (hfl : ∀ k, FF g A k → k < w.heap.size) (hg : W.grownBy w6 (some (w.heap.size + 1))) : MV B w6 g X A n cp ∧ Kept (FF g A) w w6 :=
  have hk : Kept (fun j => j = w.heap.size + 1) W w6 := Kept.of_grown hg (fun j e => by cases e; exact .inl rfl)
  ⟨h.mv.keep hk (fun j hj e => by have := hfl j hj; omega), h.k.trans hk (fun j e => .inr (by omega))⟩
end
end Go.Proofs.YthgiehlfmdobkaaDoor
