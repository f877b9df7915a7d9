/-
  A disk, the document's disk beside it in a block of its own, and blocks that stay as they are. Conditions: each theorem's own premises.
-/
import Derived.Test.YtdhaikcmgegfoaaExtSt
import Derived.Test.YtdhaikcmgegfoaaDiskDo7
import Derived.Test.YtdhaikcmgegfoaaExtRef3
namespace Go.Proofs.Ytdhaikcmgegfoaa
open Go.RowKit

/-- block gd is a disk that says m; the document's, in block g7, says d; L as in ExS -/
structure ExR (w wz : World) (gd g7 : Nat) (F : Nat → Prop) (m : Dk) (cs : List Value) (d : Dk) (L : List (Nat × TypeId × Array Value)) : Prop where
  s : ExS w wz gd F m L
  ref : RefIs wz wz.heap.size cs d
  far : ∀ g, F g → RefFar cs d g
  far7 : RefFar cs d g7
  b7 : Blk wz g7 45 cs.toArray
  n7 : ¬ F g7
  new7 : w.heap.size ≤ g7
  ne : ∀ p ∈ L, p.1 ≠ g7
section
variable {w wz w1 w' : World} {gd g7 : Nat} {F F' : Nat → Prop} {m m' d d' : Dk} {cs cs' : List Value} {L : List (Nat × TypeId × Array Value)}
theorem ExR.onCode (h : ExR w wz gd g7 F m cs d L) (h1 : CodeIs w' gd F' m') (hk : Kept F wz w') (hs : ∀ g, F' g → F g ∨ wz.heap.size ≤ g) : ExR w w' gd g7 F' m' cs d L := by
  refine ⟨h.s.on h1 hk hs, (h.ref.keepF (Nat.le_refl _) hk h.far).more hk.size, fun g hg => ?_, h.far7, hk.blk h.b7 h.n7, fun hf => ?_, h.new7, h.ne⟩
  · rcases hs g hg with h2 | h2
    · exact h.far g h2
    · exact h.ref.beyond h2
  · rcases hs g7 hf with h2 | h2
    · exact h.n7 h2
    · have := h.b7.lt
      omega
theorem ExR.below (h : ExR w wz gd g7 F m cs d L) (hb : Below wz.heap.size wz w') : ExR w w' gd g7 F m cs d L :=
  ⟨h.s.below hb, (h.ref.below hb).more hb.size, h.far, h.far7, h.b7.below hb h.b7.lt, h.n7, h.new7, h.ne⟩
theorem ExR.add (h : ExR w wz gd g7 F m cs d L) {g : Nat} {t : TypeId} {c : Array Value} (hb : Blk wz g t c) (hf : ¬ F g) (hn : g ≠ g7) : ExR w wz gd g7 F m cs d ((g, t, c) :: L) :=
  ⟨h.s.add hb hf, h.ref, h.far, h.far7, h.b7, h.n7, h.new7, fun p hp => by
    rcases List.mem_cons.1 hp with rfl | hp
    · exact hn
    · exact h.ne p hp⟩
theorem ExR.tail {p : Nat × TypeId × Array Value} (h : ExR w wz gd g7 F m cs d (p :: L)) : ExR w wz gd g7 F m cs d L := ⟨h.s.tail, h.ref, h.far, h.far7, h.b7, h.n7, h.new7, fun q hq => h.ne q (List.mem_cons_of_mem _ hq)⟩
/-- what a call of the document's answered is stored -/
theorem ExR.onRef (h : ExR w wz gd g7 F m cs d L) (hR : RefIs w1 w1.heap.size cs' d') (hf : ∀ g, g < wz.heap.size → RefFar cs d g → RefFar cs' d' g) (hb : Below wz.heap.size wz w1) (hg : w1.grownBy w' (some g7)) (hblk : Blk w' g7 45 cs'.toArray) :
    ExR w w' gd g7 F m cs' d' L := by
  have hz := h.b7.lt
  have hbs := h.s.bel.size
  have hk : Kept (· = g7) w1 w' := .of_grown hg (fun g e => .inl (Option.some.inj e).symm)
  have hk0 : Kept (· = g7) wz w' := (Kept.of_below (F := (· = g7)) hb).trans hk (fun g hg => .inl hg)
  have hn : ∀ g, F g → g ≠ g7 := fun g hg e => h.n7 (e ▸ hg)
  exact ⟨⟨h.s.d.keep hk0 hn, h.s.n, below_kept h.s.bel hk0 (fun g e => e ▸ h.new7), fun p hp => ⟨hk0.blk (h.s.blk p hp).1 (h.ne p hp), (h.s.blk p hp).2⟩⟩,
    (hR.keepF (Nat.le_refl _) hk (fun g e => e ▸ hf g7 hz h.far7)).more hk.size, fun g hg => hf g (h.s.d.lt g hg) (h.far g hg), hf g7 hz h.far7, hblk, h.n7, h.new7, h.ne⟩
end
theorem flat_takeN : ∀ (c : Nat) (h : List (List UInt8)), (∀ s ∈ h, s.length = 64) → (h.take c).flatten = h.flatten.take (64 * c)
  | 0, _, _ => by simp
  | _ + 1, [], _ => by simp
  | c + 1, s :: t, h => by
    have hs : s.length = 64 := h s (by simp)
    have ih := flat_takeN c t (fun q hq => h q (by simp [hq]))
    rw [List.take_succ_cons, List.flatten_cons, List.flatten_cons, ih, List.take_append, hs, show List.take (64 * (c + 1)) s = s from List.take_of_length_le (by omega), show 64 * (c + 1) - 64 = 64 * c by omega]
theorem flat_dropN : ∀ (c : Nat) (h : List (List UInt8)), (∀ s ∈ h, s.length = 64) → (h.drop c).flatten = h.flatten.drop (64 * c)
  | 0, _, _ => by simp
  | _ + 1, [], _ => by simp
  | c + 1, s :: t, h => by
    have hs : s.length = 64 := h s (by simp)
    have ih := flat_dropN c t (fun q hq => h q (by simp [hq]))
    rw [List.drop_succ_cons, List.flatten_cons, ih, List.drop_append, hs, show List.drop (64 * (c + 1)) s = [] from List.drop_of_length_le (by omega), List.nil_append, show 64 * (c + 1) - 64 = 64 * c by omega]
/-- the bytes of a part of a disk, as they are cut out of the whole -/
theorem img_cut {h : List (List UInt8)} (hl : ∀ s ∈ h, s.length = 64) (f c a z : Nat) (ha : 64 * f = a) (hz : 64 * (f + c) = z) : (⟨h.flatten.toArray⟩ : ByteArray).extract a z = ⟨((h.drop f).take c).flatten.toArray⟩ := by
  rw [flat_takeN c (h.drop f) (fun s hs => hl s (List.mem_of_mem_drop hs)), flat_dropN f h hl]
  subst ha
  rw [ByteArray.extract_mk, show 64 * c = z - 64 * f by omega]
theorem RefIs.shape6 {w : World} {B : Nat} {cs : List Value} {d : Dk} (h : RefIs w B cs d) : cs.length = 5 ∧ ∀ v ∈ cs, v.oneCell' = true := by
  obtain ⟨_, A, W, S, ca, cw, cs0, rfl, _⟩ := h
  exact ⟨rfl, refCells_one _ _ _ _ _ _ _⟩
theorem rsize6 {cs : List Value} (h : cs.length = 5) : (Try.prog.info? 45).map (·.size) = some cs.length := by rw [h]; exact rdisk_size
theorem rsize6a {cs : List Value} (h : cs.length = 5) : (Try.prog.info? 45).map (·.size) = some cs.toArray.size := by rw [List.size_toArray, h]; exact rdisk_size
end Go.Proofs.Ytdhaikcmgegfoaa
