/-
  The law's awake, by its contract: it answers true. Conditions: none but that the call is made.
-/
import Derived.Test.YtdhaikcmgegfoaaDiskCode9
namespace Go.Proofs.Ytdhaikcmgegfoaa
open Go.RowKit

/-- bytes that are none of a disk's -/
def Held (w : World) (F : Nat → Prop) (A : Option Addr) (l : List UInt8) : Prop := Bs w w.heap.size A l ∧ ∀ g, F g → Far A l.length g
section
variable {w w' : World} {F F' : Nat → Prop} {A : Option Addr} {l : List UInt8}
theorem Held.step (h : Held w F A l) (hk : Kept F w w') (hs : ∀ g, F' g → F g ∨ w.heap.size ≤ g) : Held w' F' A l := by
  refine ⟨fun hn => ?_, fun g hg hn b o e => ?_⟩
  · obtain ⟨b, o, e, hb, hc⟩ := h.1 hn
    have hnf : ¬ F b := fun hf => h.2 b hf hn b o e rfl
    exact ⟨b, o, e, Nat.lt_of_lt_of_le hb hk.size, fun j hj => (World.cell?_of_block (hk.block b hb hnf)).trans (hc j hj)⟩
  · rcases hs g hg with h1 | h1
    · exact h.2 g h1 hn b o e
    · obtain ⟨b', o', e', hb, _⟩ := h.1 hn
      rw [e] at e'
      injection e' with e'
      injection e' with e1
      omega
theorem Held.below (h : Held w F A l) (hb : Below w.heap.size w w') : Held w' F A l := h.step (.of_below hb) (fun _ => .inl)
theorem Held.own {e : TypeId} {v : Value} (h : Own w' w.heap.size e v l) (hF : ∀ g, F g → g < w.heap.size) : ∃ A c, v = .slice A l.length c ∧ l.length ≤ c ∧ Held w' F A l := by
  obtain ⟨A, c, hv, hc, _, hb, ho⟩ := h.slice_cap
  refine ⟨A, c, hv, hc, hb, fun g hg hn b o e => ?_⟩
  subst e
  have h1 := hF g hg
  have h2 := (ho b (by rw [hv]; rfl)).1
  omega
theorem Held.conv {P : Program} {t e s : TypeId} (h : Held w F A l) {n : Nat} (hn : l.length = n) (ht : P.underlying t = some (.slice e)) (he : P.underlying e = some (.int .u8)) (c : Nat) (hs : P.underlying s = some .string) : ∀ w', Below w.heap.size w w' → (convert t s (.slice A n c)).run P w' = .ok (.string ⟨l.toArray⟩) w' := fun w' hb => by
  subst hn
  exact (h.1.below hb).str ht he c s hs
end
theorem below_kept {F : Nat → Prop} {B : Nat} {a b c : World} (h : Below B a b) (k : Kept F b c) (hF : ∀ g, F g → B ≤ g) (hB : B ≤ b.heap.size := by omega) : Below B a c := h.trans (k.below hF hB)
theorem awake_dk (a b : List UInt8) (ha : a = List.replicate 64 7) (hb : b = List.replicate 64 8) : ∃ m1 m2 m3 : Dk, ((Dk.new 4).write 3 a).1 = m1 ∧ (m1.write 3 b).1 = m2 ∧ m2.crash [true] = m3 ∧ m1.waits.length ≤ 1000000 ∧ m2.waits.length ≤ 1000000 ∧ m1.read 3 = (a, 0) ∧ m1.hasAt 3 = (nought, 0) ∧ m3.hasAt 3 = (a, 0) ∧ m3.read 3 = ([], 9) ∧ m3.off = true ∧ m3.has.length = 4 ∧ m3.waits.length ≤ 1000000 := by
  subst ha hb
  exact ⟨_, _, _, rfl, rfl, rfl, by decide, by decide, rfl, rfl, rfl, rfl, rfl, rfl, by decide⟩

end Go.Proofs.Ytdhaikcmgegfoaa
