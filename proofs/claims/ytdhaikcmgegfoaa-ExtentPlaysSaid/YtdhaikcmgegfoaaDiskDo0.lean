/-
  The law's Do: how the disk, the document's disk and the act's copies stand in its midst. Conditions: each theorem's own premises.
-/
import Derived.Test.YtdhaikcmgegfoaaDiskArmed
namespace Go.Proofs.Ytdhaikcmgegfoaa
open Go.RowKit

theorem vs_kept {w w' : World} {B n : Nat} {G : Nat → Prop} {A : Option Addr} {vs : List Value} (h : Vs w B A vs) (hB : B ≤ w.heap.size) (hk : Kept G w w') (hf : ∀ g, G g → Far A n g) (hn : 0 < vs.length → 0 < n) : Vs w' B A vs := fun h0 => by
  obtain ⟨b, o, e, hb, hc⟩ := h h0
  refine ⟨b, o, e, hb, fun j v hj => ?_⟩
  rw [← hc j v hj]
  exact World.cell?_of_block (hk.block b (by omega) (fun hG => hf b hG (hn h0) b o e rfl))
theorem RefIs.keepF {w w' : World} {B : Nat} {G : Nat → Prop} {cs : List Value} {d : Dk} (h : RefIs w B cs d) (hB : B ≤ w.heap.size) (hk : Kept G w w') (hf : ∀ g, G g → RefFar cs d g) : RefIs w' B cs d := by
  obtain ⟨ho, A, W, S, ca, cw, cs0, e, h1, h2, h3⟩ := h
  have hf' := fun g hg => hf g hg _ _ _ _ _ _ e
  exact ⟨ho, A, W, S, ca, cw, cs0, e, vs_kept h1 hB hk (fun g hg => (hf' g hg).1) (by rw [svs_length]; exact id), vs_kept h2 hB hk (fun g hg => (hf' g hg).2.1) (by rw [wvs_length]; omega), vs_kept h3 hB hk (fun g hg => (hf' g hg).2.2) (by rw [bvs_length]; exact id)⟩
theorem RefIs.beyond {w : World} {B g : Nat} {cs : List Value} {d : Dk} (h : RefIs w B cs d) (hg : B ≤ g) : RefFar cs d g := by
  obtain ⟨ho, A, W, S, ca, cw, cs0, rfl, h1, h2, h3⟩ := h
  exact ref_far ⟨far_below h1 hg (by rw [svs_length]; exact id), far_below h2 hg (by rw [wvs_length]; omega), far_below h3 hg (by rw [bvs_length]; exact id)⟩

def rzero : List Value := refCells none none none 0 0 0 ⟨[], [], false, 0, []⟩
section
variable {w wz w' : World} {gd g4 n : Nat} {F0 F F' G : Nat → Prop} {m m' d0 d d' : Dk} {cs0 cs cs' X : List Value} {S : Option Addr}
end
/-- behind Do -/
def DoPost (w : World) (gd : Nat) (F : Nat → Prop) (k : Nat) (cs0 : List Value) (d0 : Dk) (S : Option Addr) (n : Nat) (e : Ending) (w' : World) : Prop :=
  ∃ (F' : Nat → Prop) (m' : Dk) (cs : List Value) (d : Dk) (b : Bool), e = .returned (.tuple #[.agg cs.toArray, .bool b]) ∧ CodeIs w' gd F' m' ∧ Kept F w w' ∧ (∀ g, F' g → F g ∨ w.heap.size ≤ g) ∧
    RefIs w' w'.heap.size cs d ∧ (∀ g, F' g → RefFar cs d g) ∧ (∀ g, g < w.heap.size → RefFar cs0 d0 g → Far S n g → RefFar cs d g) ∧ m'.waits.length ≤ k + 1 ∧ d.waits.length ≤ k + 1 ∧ m'.has.length = 4 ∧ d.has.length = 4 ∧ m' = d
section
variable {w wz w' : World} {gd g4 n k : Nat} {F0 F : Nat → Prop} {m d0 d : Dk} {cs0 cs X : List Value} {S : Option Addr}
end
end Go.Proofs.Ytdhaikcmgegfoaa
