/-
  DiskArmed: whatever the acts, the number and the flags, the call answers true. Conditions: each theorem's own premises.
-/
import Derived.Test.YtdhaikcmgegfoaaDiskAwake
import Derived.Deep.CutRange
namespace Go.Proofs.Ytdhaikcmgegfoaa
open Go.RowKit

/-- an act as plain data; its five cells -/
structure ActV where
  do_ : Int
  at_ : Int
  off : Int
  fill : UInt8
  keep : List Bool
def actCells (a : ActV) (S : Option Addr) (c : Nat) : List Value := [.int .i64 a.do_, .int .i64 a.at_, .int .i64 a.off, .int .u8 (a.fill.toNat : Int), .slice S a.keep.length c]
theorem actCells_one (a : ActV) (S : Option Addr) (c : Nat) : ∀ v ∈ actCells a S c, v.oneCell' = true := by
  intro v hv
  simp only [actCells, List.mem_cons, List.not_mem_nil, or_false] at hv
  rcases hv with rfl | rfl | rfl | rfl | rfl <;> rfl
structure ActV.ok (a : ActV) : Prop where
  at1 : -9223372036854775808 ≤ a.at_ ∧ a.at_ ≤ 9223372036854775807
  off1 : -9223372036854775808 ≤ a.off ∧ a.off ≤ 9223372036854775807
  keep1 : a.keep.length ≤ 140737488355328
/-- n acts at A -/
def Acts (w : World) (A : Option Addr) (n : Nat) : Prop := 0 < n → ∃ b o, A = some ⟨b, o, none⟩ ∧ b < w.heap.size ∧
  ∀ i, i < n → ∃ (a : ActV) (S : Option Addr) (c : Nat), a.ok ∧ Cells w b (o + i * 5) (actCells a S c).toArray ∧ Vs w w.heap.size S (bvs a.keep)
theorem Acts.below {w w' : World} {A : Option Addr} {n : Nat} (h : Acts w A n) (hb : Below w.heap.size w w') : Acts w' A n := fun h0 => by
  obtain ⟨b, o, e, hlt, hi⟩ := h h0
  refine ⟨b, o, e, Nat.lt_of_lt_of_le hlt hb.size, fun i hi' => ?_⟩
  obtain ⟨a, S, c, h1, h2, h3⟩ := hi i hi'
  exact ⟨a, S, c, h1, fun j v hv => (hb.cell (p := ⟨b, o + i * 5 + j, none⟩) hlt).trans (h2 j v hv), (h3.below hb).more hb.size⟩
def act0 : ActV := ⟨0, 0, 0, 0, []⟩
/-- two disks, apart, in new memory -/
structure Two (w wz : World) (gd gx : Nat) (F G : Nat → Prop) (md mx : Dk) : Prop where
  d : CodeIs wz gd F md
  x : CodeIs wz gx G mx
  dn : ∀ g, F g → w.heap.size ≤ g
  xn : ∀ g, G g → w.heap.size ≤ g
  apart : ∀ g, F g → ¬ G g
  bel : Below w.heap.size w wz
section
variable {w wz w' : World} {gd gx : Nat} {F F' G G' : Nat → Prop} {md mx md' mx' : Dk}
theorem Two.onD (h : Two w wz gd gx F G md mx) (h1 : CodeIs w' gd F' md') (hk : Kept F wz w') (hs : ∀ g, F' g → F g ∨ wz.heap.size ≤ g) : Two w w' gd gx F' G md' mx := by
  have hb := h.bel.size
  refine ⟨h1, h.x.keep hk (fun g hg hf => h.apart g hf hg), fun g hg => ?_, h.xn, fun g hg hG => ?_, below_kept h.bel hk h.dn⟩
  · rcases hs g hg with h2 | h2
    · exact h.dn g h2
    · omega
  · rcases hs g hg with h2 | h2
    · exact h.apart g h2 hG
    · have := h.x.lt g hG
      omega
theorem Two.onX (h : Two w wz gd gx F G md mx) (h1 : CodeIs w' gx G' mx') (hk : Kept G wz w') (hs : ∀ g, G' g → G g ∨ wz.heap.size ≤ g) : Two w w' gd gx F G' md mx' := by
  have hb := h.bel.size
  refine ⟨h.d.keep hk (fun g hg hf => h.apart g hg hf), h1, h.dn, fun g hg => ?_, fun g hf hg => ?_, below_kept h.bel hk h.xn⟩
  · rcases hs g hg with h2 | h2
    · exact h.xn g h2
    · omega
  · rcases hs g hg with h2 | h2
    · exact h.apart g hf h2
    · have := h.d.lt g hf
      omega
theorem Two.below (h : Two w wz gd gx F G md mx) (hb : Below wz.heap.size wz w') : Two w w' gd gx F G md mx :=
  ⟨h.d.below hb, h.x.below hb, h.dn, h.xn, h.apart, h.bel.trans (hb.mono h.bel.size)⟩
end

/-- how the armed disk and the other one stand -/
structure Rel (md mx : Dk) (left : Int) (keep : List Bool) (k : Nat) : Prop where
  has : md.has = mx.has
  waits : md.waits = mx.waits
  off : md.off = mx.off
  bare : mx.left < 0
  armed : md.off = false → md.left = left ∧ md.surv = keep
  nn : 0 ≤ left
  few : md.waits.length ≤ k
  four : md.has.length = 4
theorem step_off {m : Dk} (h : m.off = true) : m.step = (m, false) := by unfold Dk.step; rw [if_pos h]
theorem step_fail {m : Dk} (h : m.off = false) (h0 : m.left = 0) : m.step = (m.crash m.surv, false) := by unfold Dk.step; rw [if_neg (by rw [h]; decide), if_pos h0]
theorem step_pos {m : Dk} (h : m.off = false) (h0 : 0 < m.left) : m.step = ({ m with left := m.left - 1 }, true) := by unfold Dk.step; rw [if_neg (by rw [h]; decide), if_neg (by omega), if_pos h0]
theorem step_bare {m : Dk} (h : m.off = false) (h0 : m.left < 0) : m.step = (m, true) := by unfold Dk.step; rw [if_neg (by rw [h]; decide), if_neg (by omega), if_neg (by omega)]
theorem crash_on {m : Dk} (h : m.off = false) (s : List Bool) : m.crash s = { m.laid false s with off := true, left := -1 } := by unfold Dk.crash; rw [if_neg (by rw [h]; decide)]
theorem crash_off {m : Dk} (h : m.off = true) (s : List Bool) : m.crash s = m := by unfold Dk.crash; rw [if_pos h]
theorem flush_no {m m' : Dk} (h : m.step = (m', false)) : m.flush = (m', 9) := by unfold Dk.flush; rw [h]; rfl
theorem flush_yes {m m' : Dk} (h : m.step = (m', true)) : m.flush = (m'.laid true [], 0) := by unfold Dk.flush; rw [h]; rfl
section
variable {md mx : Dk} {left : Int} {keep : List Bool} {k : Nat}
theorem Rel.crashed (h : Rel md mx left keep k) (h0 : left = 0) : Rel (md.step.1) (mx.crash keep) left keep k ∧ md.step.2 = false ∧ (mx.crash keep).off = true ∧ md.step.1.off = true := by
  cases ho : md.off
  · have hx : mx.off = false := h.off ▸ ho
    obtain ⟨e1, e2⟩ := h.armed ho
    rw [step_fail ho (by rw [e1, h0]), crash_on hx, crash_on ho, e2]
    refine ⟨⟨?_, rfl, rfl, by simp, by simp, h.nn, by simp [Dk.laid], ?_⟩, rfl, rfl, rfl⟩
    · simp only [Dk.laid]; rw [h.has, h.waits]
    · simp only [Dk.laid, lay_length]; exact h.four
  · have hx : mx.off = true := h.off ▸ ho
    rw [step_off ho, crash_off hx]
    exact ⟨h, rfl, hx, ho⟩
theorem Rel.flush0 (h : Rel md mx left keep k) (h0 : left = 0) : ∃ n : Nat, md.flush.2 = n ∧ (mx.crash keep).flush.2 = n ∧ n = 9 ∧ Rel md.flush.1 (mx.crash keep).flush.1 left keep k := by
  obtain ⟨h1, h2, h3, _⟩ := h.crashed h0
  have e1 := flush_no (m := md) (m' := md.step.1) (by rw [← h2])
  have e2 := flush_no (step_off h3)
  rw [e1, e2]
  exact ⟨9, rfl, rfl, rfl, h1⟩
theorem Rel.flush1 (h : Rel md mx left keep k) (h0 : left ≠ 0) : ∃ n : Nat, md.flush.2 = n ∧ mx.flush.2 = n ∧ ((n = 9 ∧ Rel md.flush.1 mx.flush.1 left keep k) ∨ (n = 0 ∧ Rel md.flush.1 mx.flush.1 (left - 1) keep k)) := by
  have hn := h.nn
  cases ho : md.off
  · have hx : mx.off = false := h.off ▸ ho
    obtain ⟨e1, e2⟩ := h.armed ho
    rw [flush_yes (step_pos ho (by omega)), flush_yes (step_bare hx h.bare)]
    refine ⟨0, rfl, rfl, .inr ⟨rfl, ⟨?_, rfl, h.off, h.bare, fun _ => ⟨by simp [Dk.laid, e1], e2⟩, by omega, by simp [Dk.laid], ?_⟩⟩⟩
    · simp only [Dk.laid]; rw [h.has, h.waits]
    · simp only [Dk.laid, lay_length]; exact h.four
  · have hx : mx.off = true := h.off ▸ ho
    rw [flush_no (step_off ho), flush_no (step_off hx)]
    exact ⟨9, rfl, rfl, .inl ⟨rfl, h⟩⟩
theorem write_in {m : Dk} (h4 : m.has.length = 4) {p : Int} (hp : 0 ≤ p ∧ p < 4) {b : List UInt8} (hb : b.length = 64) : m.write p b = if m.step.2 = true then ({ m.step.1 with waits := m.step.1.waits ++ [(p.toNat, b)] }, 0) else (m.step.1, 9) := by
  unfold Dk.write
  rw [if_neg (by omega), if_neg (by omega)]
theorem write_out {m : Dk} (h4 : m.has.length = 4) {p : Int} (hp : p < 0 ∨ 4 ≤ p) {b : List UInt8} : m.write p b = (m, 4) := by
  unfold Dk.write
  rw [if_pos (by omega)]
theorem Rel.write0 (h : Rel md mx left keep k) (h0 : left = 0) {p : Int} (hp : 0 ≤ p ∧ p < 4) {b : List UInt8} (hb : b.length = 64) : ∃ n : Nat, (md.write p b).2 = n ∧ ((mx.crash keep).write p b).2 = n ∧ n = 9 ∧ Rel (md.write p b).1 ((mx.crash keep).write p b).1 left keep k := by
  obtain ⟨h1, h2, h3, _⟩ := h.crashed h0
  have h4 : (mx.crash keep).has.length = 4 := by rw [← h1.has]; exact h1.four
  rw [write_in h.four hp hb, write_in h4 hp hb, step_off h3, h2]
  exact ⟨9, rfl, rfl, rfl, h1⟩
theorem Rel.write1 (h : Rel md mx left keep k) (h0 : left ≠ 0) {p : Int} (hp : 0 ≤ p ∧ p < 4) {b : List UInt8} (hb : b.length = 64) : ∃ n : Nat, (md.write p b).2 = n ∧ (mx.write p b).2 = n ∧ ((n = 9 ∧ Rel (md.write p b).1 (mx.write p b).1 left keep k) ∨ (n = 0 ∧ Rel (md.write p b).1 (mx.write p b).1 (left - 1) keep (k + 1))) := by
  have hn := h.nn
  have h4 : mx.has.length = 4 := by rw [← h.has]; exact h.four
  rw [write_in h.four hp hb, write_in h4 hp hb]
  cases ho : md.off
  · have hx : mx.off = false := h.off ▸ ho
    obtain ⟨e1, e2⟩ := h.armed ho
    rw [step_pos ho (by omega), step_bare hx h.bare]
    refine ⟨0, rfl, rfl, .inr ⟨rfl, ⟨h.has, by simp [h.waits], h.off, h.bare, fun _ => ⟨by simp [e1], e2⟩, by omega, by simpa using h.few, h.four⟩⟩⟩
  · have hx : mx.off = true := h.off ▸ ho
    rw [step_off ho, step_off hx]
    exact ⟨9, rfl, rfl, .inl ⟨rfl, h⟩⟩
theorem Rel.write2 (h : Rel md mx left keep k) {p : Int} (hp : p < 0 ∨ 4 ≤ p) {b : List UInt8} : ∃ n : Nat, (md.write p b).2 = n ∧ (mx.write p b).2 = n ∧ n = 4 ∧ Rel (md.write p b).1 (mx.write p b).1 left keep k := by
  have h4 : mx.has.length = 4 := by rw [← h.has]; exact h.four
  rw [write_out h.four hp, write_out h4 hp]
  exact ⟨4, rfl, rfl, rfl, h⟩
theorem Rel.more (h : Rel md mx left keep k) {k' : Nat} (hk : k ≤ k') : Rel md mx left keep k' := ⟨h.has, h.waits, h.off, h.bare, h.armed, h.nn, Nat.le_trans h.few hk, h.four⟩
end
/-- both calls answer alike, and the disks stand as they should -/
def Both (r1 r2 : Dk × Nat) (left : Int) (keep : List Bool) (k : Nat) : Prop := ∃ n : Nat, r1.2 = n ∧ r2.2 = n ∧ ((n ≠ 0 ∧ Rel r1.1 r2.1 left keep k) ∨ (n = 0 ∧ Rel r1.1 r2.1 (left - 1) keep k))
section
variable {md mx : Dk} {left : Int} {keep : List Bool} {k : Nat}
theorem both_flush0 (h : Rel md mx left keep k) (h0 : left = 0) : Both md.flush (mx.crash keep).flush left keep (k + 1) := by
  obtain ⟨n, h1, h2, h3, h4⟩ := h.flush0 h0
  exact ⟨n, h1, h2, .inl ⟨by omega, h4.more (by omega)⟩⟩
theorem both_flush1 (h : Rel md mx left keep k) (h0 : left ≠ 0) : Both md.flush mx.flush left keep (k + 1) := by
  obtain ⟨n, h1, h2, h3⟩ := h.flush1 h0
  rcases h3 with ⟨h3, h4⟩ | ⟨h3, h4⟩
  · exact ⟨n, h1, h2, .inl ⟨by omega, h4.more (by omega)⟩⟩
  · exact ⟨n, h1, h2, .inr ⟨h3, h4.more (by omega)⟩⟩
theorem both_write0 (h : Rel md mx left keep k) (h0 : left = 0) {p : Int} (hp : 0 ≤ p ∧ p < 4) (b : List UInt8) (hb : b.length = 64) : Both (md.write p b) ((mx.crash keep).write p b) left keep (k + 1) := by
  obtain ⟨n, h1, h2, h3, h4⟩ := h.write0 h0 hp hb
  exact ⟨n, h1, h2, .inl ⟨by omega, h4.more (by omega)⟩⟩
theorem both_write2 (h : Rel md mx left keep k) {p : Int} (hp : p < 0 ∨ 4 ≤ p) (b : List UInt8) (_hb : b.length = 64) : Both (md.write p b) (mx.write p b) left keep (k + 1) := by
  obtain ⟨n, h1, h2, h3, h4⟩ := h.write2 hp (b := b)
  exact ⟨n, h1, h2, .inl ⟨by omega, h4.more (by omega)⟩⟩
theorem both_write1 (h : Rel md mx left keep k) (h0 : left ≠ 0) (p : Int) (b : List UInt8) (hb : b.length = 64) : Both (md.write p b) (mx.write p b) left keep (k + 1) := by
  by_cases hp : p < 0 ∨ 4 ≤ p
  · exact both_write2 h hp b hb
  · obtain ⟨n, h1, h2, h3⟩ := h.write1 h0 (p := p) (by omega) hb
    rcases h3 with ⟨h3, h4⟩ | ⟨h3, h4⟩
    · exact ⟨n, h1, h2, .inl ⟨by omega, h4.more (by omega)⟩⟩
    · exact ⟨n, h1, h2, .inr ⟨h3, h4⟩⟩
end
theorem bs_conv {P : Program} {w : World} {A : Option Addr} {l : List UInt8} {t e s : TypeId} (h : Bs w w.heap.size A l) {n : Nat} (hn : l.length = n) (ht : P.underlying t = some (.slice e)) (he : P.underlying e = some (.int .u8)) (c : Nat) (hs : P.underlying s = some .string) : ∀ w', Below w.heap.size w w' → (convert t s (.slice A n c)).run P w' = .ok (.string ⟨l.toArray⟩) w' := fun w' hb => by
  subst hn
  exact (h.below hb).str ht he c s hs
theorem dkCrashIs (w : World) (gd : Nat) (F : Nat → Prop) (m : Dk) (h : CodeIs w gd F m) (hw : m.waits.length ≤ 4294967296) (S : Option Addr) (surv : List Bool) (n c : Nat) (hn : surv.length = n) (hS : Vs w w.heap.size S (bvs surv)) (hF : ∀ g, F g → Far S n g) :
    Calls Try.prog 28 #[.pointer (some ⟨gd, 0, none⟩), .slice S n c] w fun e w' => e = .returned (.tuple #[]) ∧ CodeIs w' gd F (m.crash surv) ∧ Kept F w w' := by
  subst hn
  obtain ⟨gc, W, cw, T, h⟩ := h
  refine (dkCrash w gd F m gc W cw T h hw S surv c hS (hF gc h.ownC)).mono ?_
  rintro e w' ⟨rfl, h1, h2⟩
  exact ⟨rfl, ⟨_, _, _, _, h1⟩, h2⟩
theorem crash_waits (m : Dk) (s : List Bool) : (m.crash s).waits.length ≤ m.waits.length := by
  unfold Dk.crash
  split
  · exact Nat.le_refl _
  · simp [Dk.laid]
/-- what a round's statement leaves -/
def Done (w wx : World) (gd gx : Nat) (left : Int) (keep : List Bool) (k : Nat) (e f : Value) : Prop :=
  ∃ (n : Nat) (F G : Nat → Prop) (md mx : Dk), e = .int .i64 (n : Int) ∧ f = .int .i64 (n : Int) ∧ Two w wx gd gx F G md mx ∧ ((n ≠ 0 ∧ Rel md mx left keep k) ∨ (n = 0 ∧ Rel md mx (left - 1) keep k))
end Go.Proofs.Ytdhaikcmgegfoaa
