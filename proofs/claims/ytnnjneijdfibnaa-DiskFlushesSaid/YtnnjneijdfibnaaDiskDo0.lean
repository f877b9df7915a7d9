/-
  The law's Do: how the disk, the document's disk and the act's copies stand in its midst. Conditions: each theorem's own premises.
-/
import Derived.Test.YtnnjneijdfibnaaDiskArmed
namespace Go.Proofs.Ytnnjneijdfibnaa
open Go.RowKit

theorem vs_kept {w w' : World} {B n : Nat} {G : Nat → Prop} {A : Option Addr} {vs : List Value} (h : Vs w B A vs) (hB : B ≤ w.heap.size) (hk : Kept G w w') (hf : ∀ g, G g → Far A n g) (hn : 0 < vs.length → 0 < n) : Vs w' B A vs := fun h0 => by
  obtain ⟨b, o, e, hb, hc⟩ := h h0
  refine ⟨b, o, e, hb, fun j v hj => ?_⟩
  rw [← hc j v hj]
  exact World.cell?_of_block (hk.block b (by omega) (fun hG => hf b hG (hn h0) b o e rfl))
theorem RefIs.keepF {w w' : World} {B : Nat} {G : Nat → Prop} {cs : List Value} {d : Dk} (h : RefIs w B cs d) (hB : B ≤ w.heap.size) (hk : Kept G w w') (hf : ∀ g, G g → RefFar cs d g) : RefIs w' B cs d := by
  obtain ⟨ho, A, W, S, ca, cw, cs0, e, h1, h2, h3⟩ := h
  have hf' := fun g hg => hf g hg _ _ _ _ _ _ e
  exact ⟨ho, A, W, S, ca, cw, cs0, e, vs_kept h1 hB hk (fun g hg => (hf' g hg).1) (by rw [svs_length]; exact id), vs_kept h2 hB hk (fun g hg => (hf' g hg).2.1) (by rw [wvs_length]; omega), vs_kept h3 hB hk (fun g hg => (hf' g hg).2.2) (by rw [bvs_length]; exact id)⟩
theorem RefIs.beyond {w : World} {B g : Nat} {cs : List Value} {d : Dk} (h : RefIs w B cs d) (hg : B ≤ g) : RefFar cs d g := by
  obtain ⟨ho, A, W, S, ca, cw, cs0, rfl, h1, h2, h3⟩ := h
  exact ref_far ⟨far_below h1 hg (by rw [svs_length]; exact id), far_below h2 hg (by rw [wvs_length]; omega), far_below h3 hg (by rw [bvs_length]; exact id)⟩

def rzero : List Value := refCells none none none 0 0 0 ⟨[], [], false, 0, []⟩
/-- in the midst of Do: the disk (its blocks F), the document's disk cs (says d), copied into block g4; the act's cells X in g4 + 1; the result's in g4 + 2 -/
structure DoS (w wz : World) (gd g4 : Nat) (F0 F : Nat → Prop) (m : Dk) (cs0 : List Value) (d0 : Dk) (S : Option Addr) (n : Nat) (cs : List Value) (d : Dk) (X : List Value) : Prop where
  code : CodeIs wz gd F m
  ref : RefIs wz wz.heap.size cs d
  far : ∀ g, F g → RefFar cs d g
  far4 : RefFar cs d g4
  far6 : RefFar cs d (g4 + 2)
  farO : ∀ g, g < w.heap.size → RefFar cs0 d0 g → Far S n g → RefFar cs d g
  b4 : Blk wz g4 57 cs.toArray
  b5 : Blk wz (g4 + 1) 44 X.toArray
  b6 : Blk wz (g4 + 2) 57 rzero.toArray
  base : w.heap.size = g4
  out : ∀ g, F g → g < g4 ∨ g4 + 2 < g
  kept : Kept F0 w wz
  sub : ∀ g, F g → F0 g ∨ w.heap.size ≤ g
section
variable {w wz w' : World} {gd g4 n : Nat} {F0 F F' G : Nat → Prop} {m m' d0 d d' : Dk} {cs0 cs cs' X : List Value} {S : Option Addr}
theorem DoS.siz (h : DoS w wz gd g4 F0 F m cs0 d0 S n cs d X) : g4 + 2 < wz.heap.size := h.b6.lt
/-- behind a call on the disk -/
theorem DoS.onCode (h : DoS w wz gd g4 F0 F m cs0 d0 S n cs d X) (h1 : CodeIs w' gd F' m') (hk : Kept F wz w') (hs : ∀ g, F' g → F g ∨ wz.heap.size ≤ g) : DoS w w' gd g4 F0 F' m' cs0 d0 S n cs d X := by
  have hz := h.siz
  have hb := h.base
  have hn : ∀ g, g4 ≤ g → g ≤ g4 + 2 → ¬ F g := fun g ha hb hf => by have := h.out g hf; omega
  refine ⟨h1, (h.ref.keepF (Nat.le_refl _) hk h.far).more hk.size, fun g hg => ?_, h.far4, h.far6, h.farO, hk.blk h.b4 (hn _ (by omega) (by omega)), hk.blk h.b5 (hn _ (by omega) (by omega)), hk.blk h.b6 (hn _ (by omega) (by omega)), h.base, fun g hg => ?_, h.kept.trans hk (fun g hg => h.sub g hg), fun g hg => ?_⟩
  · rcases hs g hg with h2 | h2
    · exact h.far g h2
    · exact h.ref.beyond h2
  · rcases hs g hg with h2 | h2
    · exact h.out g h2
    · omega
  · rcases hs g hg with h2 | h2
    · exact h.sub g h2
    · omega
/-- memory that is nobody's is written -/
theorem DoS.other (h : DoS w wz gd g4 F0 F m cs0 d0 S n cs d X) (hk : Kept G wz w') (hG : ∀ g, G g → ¬ F g ∧ RefFar cs d g ∧ g4 + 2 < g) : DoS w w' gd g4 F0 F m cs0 d0 S n cs d X := by
  have hb := h.base
  have hn : ∀ g, g ≤ g4 + 2 → ¬ G g := fun g ha hf => by have := (hG g hf).2.2; omega
  exact ⟨h.code.keep hk (fun g hg hf => (hG g hf).1 hg), (h.ref.keepF (Nat.le_refl _) hk (fun g hg => (hG g hg).2.1)).more hk.size, h.far, h.far4, h.far6, h.farO, hk.blk h.b4 (hn _ (by omega)), hk.blk h.b5 (hn _ (by omega)), hk.blk h.b6 (hn _ (by omega)), h.base, h.out,
    h.kept.trans hk (fun g hg => .inr (by have := (hG g hg).2.2; omega)), h.sub⟩
theorem DoS.below (h : DoS w wz gd g4 F0 F m cs0 d0 S n cs d X) (hb : Below wz.heap.size wz w') : DoS w w' gd g4 F0 F m cs0 d0 S n cs d X :=
  h.other (G := fun _ => False) (.of_below hb) (fun _ h => h.elim)
/-- what a call of the document's answered is stored into the copy -/
theorem DoS.onRef (h : DoS w wz gd g4 F0 F m cs0 d0 S n cs d X) {w1 : World} (hR : RefIs w1 w1.heap.size cs' d') (hf : ∀ g, g < wz.heap.size → RefFar cs d g → RefFar cs' d' g) (hb : Below wz.heap.size wz w1) (hg : w1.grownBy w' (some g4)) (hblk : Blk w' g4 57 cs'.toArray) :
    DoS w w' gd g4 F0 F m cs0 d0 S n cs' d' X := by
  have hz := h.siz
  have hbs := h.base
  have hs := hb.size
  have hk : Kept (· = g4) w1 w' := .of_grown hg (fun g e => .inl (Option.some.inj e).symm)
  have hk0 : Kept (· = g4) wz w' := (Kept.of_below (F := (· = g4)) hb).trans hk (fun g hg => .inl hg)
  have hn : ∀ g, F g → g ≠ g4 := fun g hg => by have := h.out g hg; omega
  refine ⟨h.code.keep hk0 hn, (hR.keepF (Nat.le_refl _) hk (fun g e => e ▸ hf g4 (by omega) h.far4)).more hk.size, fun g hg => hf g (h.code.lt g hg) (h.far g hg), hf g4 (by omega) h.far4, hf _ (by omega) h.far6, fun g hl h1 h2 => hf g (by omega) (h.farO g hl h1 h2), hblk,
    hk0.blk h.b5 (by omega), hk0.blk h.b6 (by omega), h.base, h.out, h.kept.trans hk0 (fun g hg => .inr (by omega)), h.sub⟩
end
/-- behind Do -/
def DoPost (w : World) (gd : Nat) (F : Nat → Prop) (k : Nat) (cs0 : List Value) (d0 : Dk) (S : Option Addr) (n : Nat) (e : Ending) (w' : World) : Prop :=
  ∃ (F' : Nat → Prop) (m' : Dk) (cs : List Value) (d : Dk) (b : Bool), e = .returned (.tuple #[.agg cs.toArray, .bool b]) ∧ CodeIs w' gd F' m' ∧ Kept F w w' ∧ (∀ g, F' g → F g ∨ w.heap.size ≤ g) ∧
    RefIs w' w'.heap.size cs d ∧ (∀ g, F' g → RefFar cs d g) ∧ (∀ g, g < w.heap.size → RefFar cs0 d0 g → Far S n g → RefFar cs d g) ∧ m'.waits.length ≤ k + 1 ∧ d.waits.length ≤ k + 1 ∧ m'.has.length = 4 ∧ d.has.length = 4 ∧ m' = d
section
variable {w wz w' : World} {gd g4 n k : Nat} {F0 F : Nat → Prop} {m d0 d : Dk} {cs0 cs X : List Value} {S : Option Addr}
/-- the copy is stored into the result -/
theorem DoS.done (h : DoS w wz gd g4 F0 F m cs0 d0 S n cs d X) (hg : wz.grownBy w' (some (g4 + 2))) (b : Bool) (h1 : m.waits.length ≤ k + 1) (h2 : d.waits.length ≤ k + 1) (h3 : m.has.length = 4) (h4 : d.has.length = 4) (h5 : m = d) : DoPost w gd F0 k cs0 d0 S n (.returned (.tuple #[.agg cs.toArray, .bool b])) w' := by
  have hb := h.base
  have hk : Kept (· = g4 + 2) wz w' := .of_grown hg (fun g e => .inl (Option.some.inj e).symm)
  exact ⟨F, m, cs, d, b, rfl, h.code.keep hk (fun g hg e => by have := h.out g hg; omega), h.kept.trans hk (fun g e => .inr (by omega)), h.sub, (h.ref.keepF (Nat.le_refl _) hk (fun g e => e ▸ h.far6)).more hk.size, h.far, h.farO, h1, h2, h3, h4, h5⟩
/-- what a call of the document's answered is stored into the result -/
theorem DoS.doneRef (h : DoS w wz gd g4 F0 F m cs0 d0 S n cs d X) {w1 : World} {cs' : List Value} {d' : Dk} (hR : RefIs w1 w1.heap.size cs' d') (hf : ∀ g, g < wz.heap.size → (RefFar cs d g ∧ Far S n g) → RefFar cs' d' g) (hb : Below wz.heap.size wz w1) (hS : ∀ g, F g ∨ w.heap.size ≤ g → Far S n g) (hg : w1.grownBy w' (some (g4 + 2))) (b : Bool) (h1 : m.waits.length ≤ k + 1) (h2 : d'.waits.length ≤ k + 1) (h3 : m.has.length = 4) (h4 : d'.has.length = 4) (h5 : m = d') :
    DoPost w gd F0 k cs0 d0 S n (.returned (.tuple #[.agg cs'.toArray, .bool b])) w' := by
  have hbs := h.base
  have hz := h.siz
  have hs := hb.size
  have hk : Kept (· = g4 + 2) w1 w' := .of_grown hg (fun g e => .inl (Option.some.inj e).symm)
  have hk0 : Kept (· = g4 + 2) wz w' := (Kept.of_below (F := (· = g4 + 2)) hb).trans hk (fun g hg => .inl hg)
  exact ⟨F, m, cs', d', b, rfl, h.code.keep hk0 (fun g hg e => by have := h.out g hg; omega), h.kept.trans hk0 (fun g e => .inr (by omega)), h.sub, (hR.keepF (Nat.le_refl _) hk (fun g e => e ▸ hf _ (by omega) ⟨h.far6, hS _ (.inr (by omega))⟩)).more hk.size,
    fun g hg => hf g (h.code.lt g hg) ⟨h.far g hg, hS g (.inl hg)⟩, fun g hl e1 e2 => hf g (by omega) ⟨h.farO g hl e1 e2, e2⟩, h1, h2, h3, h4, h5⟩
end
end Go.Proofs.Ytnnjneijdfibnaa
