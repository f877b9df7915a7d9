/-
  A disk in new memory, and blocks beside it that stay as they are: what a law over extents holds between its calls. Conditions: each theorem's own premises.
-/
import Derived.Test.YtdhaikcmgegfoaaExtAwake
import Derived.Test.YtdhaikcmgegfoaaDiskArmed
namespace Go.Proofs.Ytdhaikcmgegfoaa
open Go.RowKit

theorem act6_size : (Try.prog.info? 54).map (·.size) = some 5 := by kernel_rfl
theorem act6_zero : (Try.prog.info? 54).map (·.zero) = some (some (.agg (actCells act0 none 0).toArray)) := by kernel_rfl
/-- from w on: block gd is a disk that says m, its blocks are new; the blocks of L, beside it, hold what L says -/
structure ExS (w wz : World) (gd : Nat) (F : Nat → Prop) (m : Dk) (L : List (Nat × TypeId × Array Value)) : Prop where
  d : CodeIs wz gd F m
  n : ∀ g, F g → w.heap.size ≤ g
  bel : Below w.heap.size w wz
  blk : ∀ p ∈ L, Blk wz p.1 p.2.1 p.2.2 ∧ ¬ F p.1
section
variable {w wz w' : World} {gd : Nat} {F F' : Nat → Prop} {m m' : Dk} {L : List (Nat × TypeId × Array Value)}
theorem ExS.on (h : ExS w wz gd F m L) (h1 : CodeIs w' gd F' m') (hk : Kept F wz w') (hs : ∀ g, F' g → F g ∨ wz.heap.size ≤ g) : ExS w w' gd F' m' L := by
  have hb := h.bel.size
  refine ⟨h1, fun g hg => ?_, below_kept h.bel hk h.n, fun p hp => ⟨hk.blk (h.blk p hp).1 (h.blk p hp).2, fun hf => ?_⟩⟩
  · rcases hs g hg with h2 | h2
    · exact h.n g h2
    · omega
  · rcases hs _ hf with h2 | h2
    · exact (h.blk p hp).2 h2
    · have := (h.blk p hp).1.lt
      omega
theorem ExS.below (h : ExS w wz gd F m L) (hb : Below wz.heap.size wz w') : ExS w w' gd F m L :=
  ⟨h.d.below hb, h.n, h.bel.trans (hb.mono h.bel.size), fun p hp => ⟨(h.blk p hp).1.below hb (h.blk p hp).1.lt, (h.blk p hp).2⟩⟩
theorem ExS.add (h : ExS w wz gd F m L) {g : Nat} {t : TypeId} {cs : Array Value} (hb : Blk wz g t cs) (hf : ¬ F g) : ExS w wz gd F m ((g, t, cs) :: L) :=
  ⟨h.d, h.n, h.bel, fun p hp => by
    rcases List.mem_cons.1 hp with rfl | hp
    · exact ⟨hb, hf⟩
    · exact h.blk p hp⟩
theorem ExS.tail {p : Nat × TypeId × Array Value} (h : ExS w wz gd F m (p :: L)) : ExS w wz gd F m L := ⟨h.d, h.n, h.bel, fun q hq => h.blk q (List.mem_cons_of_mem _ hq)⟩
theorem ExS.nth (h : ExS w wz gd F m L) (i : Nat) {p : Nat × TypeId × Array Value} (hp : L[i]? = some p) : Blk wz p.1 p.2.1 p.2.2 := (h.blk _ (List.mem_of_getElem? hp)).1
end
/-- a cell of a block that is not the disk's is set -/
theorem ExS.setAt {w wz : World} {gd : Nat} {F : Nat → Prop} {m : Dk} {L L' : List (Nat × TypeId × Array Value)} (h : ExS w wz gd F m L) (g i : Nat) (v : Value) (hg : w.heap.size ≤ g) (hF : ¬ F g) (hL : ∀ p ∈ L', Blk (wz.setCell ⟨g, i, none⟩ v) p.1 p.2.1 p.2.2 ∧ ¬ F p.1) : ExS w (wz.setCell ⟨g, i, none⟩ v) gd F m L' :=
  ⟨h.d.keep (G := (· = g)) (.set _ _ _ _ (.inl rfl)) (fun _ hf e => hF (e ▸ hf)), h.n, h.bel.setCell hg v, hL⟩
/-- as ExS, and byte slices, of new memory or of before, that stay as they are -/
structure ExT (w wz : World) (gd : Nat) (F : Nat → Prop) (m : Dk) (L : List (Nat × TypeId × Array Value)) (LS : List (Option Addr × List UInt8)) : Prop where
  s : ExS w wz gd F m L
  held : ∀ p ∈ LS, Held wz F p.1 p.2
section
variable {w wz w' : World} {gd : Nat} {F F' : Nat → Prop} {m m' : Dk} {L : List (Nat × TypeId × Array Value)} {LS : List (Option Addr × List UInt8)}
theorem ExS.t (h : ExS w wz gd F m L) : ExT w wz gd F m L [] := ⟨h, by simp⟩
theorem ExT.on (h : ExT w wz gd F m L LS) (h1 : CodeIs w' gd F' m') (hk : Kept F wz w') (hs : ∀ g, F' g → F g ∨ wz.heap.size ≤ g) : ExT w w' gd F' m' L LS :=
  ⟨h.s.on h1 hk hs, fun p hp => (h.held p hp).step hk hs⟩
theorem ExT.below (h : ExT w wz gd F m L LS) (hb : Below wz.heap.size wz w') : ExT w w' gd F m L LS :=
  ⟨h.s.below hb, fun p hp => (h.held p hp).below hb⟩
theorem ExT.own (h : ExT w wz gd F m L LS) {e : TypeId} {v : Value} {l : List UInt8} (ho : Own w' wz.heap.size e v l) (hb : Below wz.heap.size wz w') : ∃ A c, v = .slice A l.length c ∧ ExT w w' gd F m L ((A, l) :: LS) := by
  obtain ⟨A, c, hv, _, hA⟩ := Held.own ho h.s.d.lt
  refine ⟨A, c, hv, h.s.below hb, fun p hp => ?_⟩
  rcases List.mem_cons.1 hp with rfl | hp
  · exact hA
  · exact (h.held p hp).below hb
theorem ExT.drop {p : Option Addr × List UInt8} (h : ExT w wz gd F m L (p :: LS)) : ExT w wz gd F m L LS := ⟨h.s, fun q hq => h.held q (List.mem_cons_of_mem _ hq)⟩
theorem ExT.nth (h : ExT w wz gd F m L LS) (i : Nat) {p : Option Addr × List UInt8} (hp : LS[i]? = some p) : Held wz F p.1 p.2 := h.held _ (List.mem_of_getElem? hp)
theorem ExT.str {P : Program} {t e s : TypeId} (h : ExT w wz gd F m L LS) (i : Nat) {p : Option Addr × List UInt8} (hp : LS[i]? = some p) {n : Nat} (hn : p.2.length = n) (ht : P.underlying t = some (.slice e)) (he : P.underlying e = some (.int .u8)) (c : Nat) (hs : P.underlying s = some .string) :
    (convert t s (.slice p.1 n c)).run P wz = .ok (.string ⟨p.2.toArray⟩) wz := by
  subst hn
  exact (h.nth i hp).1.str ht he c s hs
end
/-- such a world, whatever the disk says -/
def ExH (w : World) (gd : Nat) (L : List (Nat × TypeId × Array Value)) (LS : List (Option Addr × List UInt8)) (w' : World) : Prop := ∃ F m, ExT w w' gd F m L LS
/-- what New, and Part, answer where the part is there -/
theorem NewPart.yes {w0 w w' : World} {gd : Nat} {f c : Int} {e : Ending} {F : Nat → Prop} {m : Dk} {L : List (Nat × TypeId × Array Value)} (h : NewPart w gd true f c e w') (hS : ExS w0 w gd F m L) :
    ∃ gp, e = .returned (.tuple #[.pointer (some ⟨gp, 0, none⟩), .int .i64 0]) ∧ ExS w0 w' gd F m ((gp, 87, #[.int .i64 f, .int .i64 c, .pointer (some ⟨gd, 0, none⟩)]) :: L) := by
  obtain ⟨hb, ⟨_, gp, he, hp, hn⟩ | ⟨hn, _⟩⟩ := h
  · exact ⟨gp, he, (hS.below hb).add hp (fun hf => by have := hS.d.lt gp hf; omega)⟩
  · cases hn
theorem NewPart.no {w w' : World} {gd : Nat} {f c : Int} {e : Ending} (h : NewPart w gd false f c e w') : e = .returned (.tuple #[.pointer none, .int .i64 1]) ∧ Below w.heap.size w w' := by
  obtain ⟨hb, ⟨hn, _⟩ | ⟨_, he⟩⟩ := h
  · cases hn
  · exact ⟨he, hb⟩

/-- where a part of a part lies, and what is read there behind a write -/
theorem nest_dk (f c g d : Nat) (hx : f + c ≤ 9) (hy : g + (d + 1) ≤ c) (B : List UInt8) (hB : B.length = 64) : ∃ m1 m2 : Dk,
    partWrite (Dk.new 9) (f + g : Nat) (d + 1 : Nat) d B = (m1, 0) ∧ m1.waits.length ≤ 1000000 ∧ partRead m1 (f + g : Nat) (d + 1 : Nat) d = (B, 0) ∧ partRead m1 f c (g + d : Nat) = (B, 0)
    ∧ partWrite m1 (f + g : Nat) (d + 1 : Nat) (d + 1 : Nat) B = (m1, 4) ∧ m1.flush = (m2, 0) ∧ m2.waits.length ≤ 1000000 ∧ m1.has.length = 9 ∧ m2.has.length = 9 := by
  have e1 : placeO (f + g : Nat) (d + 1 : Nat) d = some ((f + g + d : Nat) : Int) := by
    unfold placeO MaxI
    rw [if_neg (by omega)]
    congr 1
  have e2 : placeO f c (g + d : Nat) = some ((f + g + d : Nat) : Int) := by
    unfold placeO MaxI
    rw [if_neg (by omega)]
    congr 1
    omega
  have e3 : placeO (f + g : Nat) (d + 1 : Nat) (d + 1 : Nat) = none := by
    unfold placeO MaxI
    rw [if_pos (by omega)]
  have hw : (Dk.new 9).write ((f + g + d : Nat) : Int) B = ({ Dk.new 9 with waits := [(f + g + d, B)] }, 0) := by
    unfold Dk.write
    rw [if_neg (by simp [Dk.new]; omega), if_neg (by simp [hB]), if_pos (by decide)]
    simp only [Int.toNat_natCast]
    simp [Dk.new, Dk.step]
  have hr : ({ Dk.new 9 with waits := [(f + g + d, B)] } : Dk).read ((f + g + d : Nat) : Int) = (B, 0) := by
    unfold Dk.read
    rw [if_neg (by simp [Dk.new]; omega), if_neg (by simp [Dk.new])]
    simp only [Int.toNat_natCast]
    simp [rdw]
  refine ⟨{ Dk.new 9 with waits := [(f + g + d, B)] }, _, ?_, by simp, ?_, ?_, ?_, rfl, ?_, by simp [Dk.new], ?_⟩
  · simp only [partWrite, e1, hw]
  · simp only [partRead, e1, hr]
  · simp only [partRead, e2, hr]
  · simp only [partWrite, e3]
  · simp [Dk.laid, Dk.step, Dk.new]
  · simp [Dk.laid, Dk.step, Dk.new, lay_length]
end Go.Proofs.Ytdhaikcmgegfoaa
