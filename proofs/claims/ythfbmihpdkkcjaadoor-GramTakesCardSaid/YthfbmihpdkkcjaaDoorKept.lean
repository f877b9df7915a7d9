/-
  What a call may write: what is old and lies outside a set of blocks stays as it is. Conditions: each theorem's own premises.
-/
import Derived.Test.YthfbmihpdkkcjaaDoorRow
namespace Go.Proofs.YthfbmihpdkkcjaaDoor
open Go.RowKit

/-- what is old and lies outside F stays as it is -/
structure Kept (F : Nat → Prop) (w w' : World) : Prop where
  os : w'.os = w.os
  tape : w'.tape = w.tape
  output : w'.output = w.output
  size : w.heap.size ≤ w'.heap.size
  block : ∀ i, i < w.heap.size → ¬ F i → w'.heap[i]? = w.heap[i]?
section
variable {F F' : Nat → Prop} {a b c w w' : World} {g B : Nat}
theorem Kept.refl (F : Nat → Prop) (w : World) : Kept F w w := ⟨rfl, rfl, rfl, Nat.le_refl _, fun _ _ _ => rfl⟩
theorem Kept.trans (h : Kept F a b) (k : Kept F' b c) (hF : ∀ g, F' g → F g ∨ a.heap.size ≤ g) : Kept F a c :=
  ⟨k.os.trans h.os, k.tape.trans h.tape, k.output.trans h.output, Nat.le_trans h.size k.size, fun i hi hn =>
    (k.block i (Nat.lt_of_lt_of_le hi h.size) (fun hf => by
      rcases hF i hf with h1 | h1
      · exact hn h1
      · omega)).trans (h.block i hi hn)⟩
theorem Kept.of_below (h : Below w.heap.size w w') : Kept F w w' := ⟨h.os, h.tape, h.output, h.size, fun i hi _ => h.block i hi⟩
theorem Kept.of_grown {row : Option Nat} (h : w.grownBy w' row) (hg : ∀ g, row = some g → F g ∨ w.heap.size ≤ g) : Kept F w w' :=
  ⟨h.os, h.tape, h.output, h.size, fun i hi hn => h.block i hi (fun e => by
    rcases hg i e.symm with h1 | h1
    · exact hn h1
    · omega)⟩
theorem Kept.below (h : Kept F w w') (hF : ∀ g, F g → B ≤ g) (hB : B ≤ w.heap.size) : Below B w w' :=
  ⟨h.os, h.tape, h.output, h.size, fun k hk => h.block k (by omega) (fun hf => by have := hF k hf; omega)⟩
theorem Kept.blk {t : TypeId} {cs : Array Value} (h : Kept F w w') (hb : Blk w g t cs) (hg : ¬ F g) : Blk w' g t cs := (h.block g hb.lt hg).trans hb
theorem Kept.set (F : Nat → Prop) (w : World) (p : Addr) (v : Value) (hp : F p.block ∨ w.heap.size ≤ p.block) : Kept F w (w.setCell p v) :=
  ⟨rfl, rfl, rfl, by simp [World.setCell], fun i hi hn => Below.heap_setCell w p v i (fun e => by
    subst e
    rcases hp with h1 | h1
    · exact hn h1
    · omega)⟩
theorem Kept.undr (h : Kept F w.drew w') : Kept F w w' := ⟨h.os, h.tape, h.output, h.size, h.block⟩
theorem Blk.apart {g' : Nat} {t t' : TypeId} {cs cs' : Array Value} (h : Blk w g t cs) (h' : Blk w g' t' cs') (ht : t ≠ t') : g ≠ g' := by
  rintro rfl
  unfold Blk at h h'
  rw [h] at h'
  injection h' with h'
  injection h' with _ h'
  exact ht h'
theorem row_apart {base n size : Nat} {t t' : TypeId} {v : Value} {vs : List Value} {cs : Array Value} (h : w.ownsRow base t size v n vs) (h' : Blk w g t' cs) (ht : t ≠ t') : v.ownBlock ≠ some g := by
  rcases h.2 with ⟨rfl, _⟩ | ⟨g', cap, cur, rfl, _, hh, _⟩
  · simp [Value.ownBlock]
  · intro e
    simp only [Value.ownBlock, Option.some.injEq] at e
    subst e
    exact Blk.apart (w := w) (g := g') (g' := g') hh h' ht rfl
theorem rows_apart {base n size base' n' size' : Nat} {t t' : TypeId} {v v' : Value} {vs vs' : List Value} (h : w.ownsRow base t size v n vs) (h' : w.ownsRow base' t' size' v' n' vs') (ht : t ≠ t') {g : Nat} (e : v.ownBlock = some g) : v'.ownBlock ≠ some g := by
  rcases h.2 with ⟨rfl, _⟩ | ⟨g', cap, cur, rfl, _, hh, _⟩
  · simp [Value.ownBlock] at e
  · simp only [Value.ownBlock, Option.some.injEq] at e
    subst e
    exact row_apart h' (g := g') hh (Ne.symm ht)
/-- a row of the call's own, when another block has been written -/
theorem row_grown {base n size : Nat} {e : TypeId} {v : Value} {vs : List Value} {row : Option Nat} (h : w.ownsRow base e size v n vs) (hg : w.grownBy w' row) (hne : ∀ g, v.ownBlock = some g → row ≠ some g) : w'.ownsRow base e size v n vs :=
  World.ownsRow.kept h hg (by
    cases e2 : v.ownBlock with
    | none => exact .inl rfl
    | some k => exact .inr (fun h2 => hne k e2 h2.symm))
theorem row_keep {base n size : Nat} {e : TypeId} {v : Value} {vs : List Value} (h : w.ownsRow base e size v n vs) (hk : Kept F w w') (hne : ∀ g, v.ownBlock = some g → ¬ F g) : w'.ownsRow base e size v n vs := by
  refine ⟨h.1, ?_⟩
  rcases h.2 with h2 | ⟨g, cap, cur, hv, hg, hh, hr⟩
  · exact .inl h2
  · exact .inr ⟨g, cap, cur, hv, hg, (hk.block g (Array.getElem?_eq_some_iff.1 hh).1 (hne g (by rw [hv]; rfl))).trans hh, hr⟩
end
end Go.Proofs.YthfbmihpdkkcjaaDoor
