/-
  DiskArmed: whatever the acts, the number and the flags, the call answers true. Conditions: each theorem's own premises.
-/
import Derived.Test.YtnnjneijdfibnaaDiskAwake
import Derived.Deep.CutRange
namespace Go.Proofs.Ytnnjneijdfibnaa
open Go.RowKit

/-- an act as plain data; its five cells -/
structure ActV where
  do_ : Int
  at_ : Int
  off : Int
  fill : UInt8
  keep : List Bool
def actCells (a : ActV) (S : Option Addr) (c : Nat) : List Value := [.int .i64 a.do_, .int .i64 a.at_, .int .i64 a.off, .int .u8 (a.fill.toNat : Int), .slice S a.keep.length c]
theorem actCells_one (a : ActV) (S : Option Addr) (c : Nat) : ∀ v ∈ actCells a S c, v.oneCell' = true := by
  intro v hv
  simp only [actCells, List.mem_cons, List.not_mem_nil, or_false] at hv
  rcases hv with rfl | rfl | rfl | rfl | rfl <;> rfl
structure ActV.ok (a : ActV) : Prop where
  at1 : -9223372036854775808 ≤ a.at_ ∧ a.at_ ≤ 9223372036854775807
  off1 : -9223372036854775808 ≤ a.off ∧ a.off ≤ 9223372036854775807
  keep1 : a.keep.length ≤ 140737488355328
/-- n acts at A -/
def Acts (w : World) (A : Option Addr) (n : Nat) : Prop := 0 < n → ∃ b o, A = some ⟨b, o, none⟩ ∧ b < w.heap.size ∧
  ∀ i, i < n → ∃ (a : ActV) (S : Option Addr) (c : Nat), a.ok ∧ Cells w b (o + i * 5) (actCells a S c).toArray ∧ Vs w w.heap.size S (bvs a.keep)
theorem Acts.below {w w' : World} {A : Option Addr} {n : Nat} (h : Acts w A n) (hb : Below w.heap.size w w') : Acts w' A n := fun h0 => by
  obtain ⟨b, o, e, hlt, hi⟩ := h h0
  refine ⟨b, o, e, Nat.lt_of_lt_of_le hlt hb.size, fun i hi' => ?_⟩
  obtain ⟨a, S, c, h1, h2, h3⟩ := hi i hi'
  exact ⟨a, S, c, h1, fun j v hv => (hb.cell (p := ⟨b, o + i * 5 + j, none⟩) hlt).trans (h2 j v hv), (h3.below hb).more hb.size⟩
theorem act_size : (Try.prog.info? 44).map (·.size) = some 5 := by kernel_rfl
def act0 : ActV := ⟨0, 0, 0, 0, []⟩
theorem act_zero : (Try.prog.info? 44).map (·.zero) = some (some (.agg (actCells act0 none 0).toArray)) := by kernel_rfl

/-- two disks, apart, in new memory -/
structure Two (w wz : World) (gd gx : Nat) (F G : Nat → Prop) (md mx : Dk) : Prop where
  d : CodeIs wz gd F md
  x : CodeIs wz gx G mx
  dn : ∀ g, F g → w.heap.size ≤ g
  xn : ∀ g, G g → w.heap.size ≤ g
  apart : ∀ g, F g → ¬ G g
  bel : Below w.heap.size w wz
section
variable {w wz w' : World} {gd gx : Nat} {F F' G G' : Nat → Prop} {md mx md' mx' : Dk}
theorem Two.onD (h : Two w wz gd gx F G md mx) (h1 : CodeIs w' gd F' md') (hk : Kept F wz w') (hs : ∀ g, F' g → F g ∨ wz.heap.size ≤ g) : Two w w' gd gx F' G md' mx := by
  have hb := h.bel.size
  refine ⟨h1, h.x.keep hk (fun g hg hf => h.apart g hf hg), fun g hg => ?_, h.xn, fun g hg hG => ?_, below_kept h.bel hk h.dn⟩
  · rcases hs g hg with h2 | h2
    · exact h.dn g h2
    · omega
  · rcases hs g hg with h2 | h2
    · exact h.apart g h2 hG
    · have := h.x.lt g hG
      omega
theorem Two.onX (h : Two w wz gd gx F G md mx) (h1 : CodeIs w' gx G' mx') (hk : Kept G wz w') (hs : ∀ g, G' g → G g ∨ wz.heap.size ≤ g) : Two w w' gd gx F G' md mx' := by
  have hb := h.bel.size
  refine ⟨h.d.keep hk (fun g hg hf => h.apart g hg hf), h1, h.dn, fun g hg => ?_, fun g hf hg => ?_, below_kept h.bel hk h.xn⟩
  · rcases hs g hg with h2 | h2
    · exact h.xn g h2
    · omega
  · rcases hs g hg with h2 | h2
    · exact h.apart g hf h2
    · have := h.d.lt g hf
      omega
theorem Two.below (h : Two w wz gd gx F G md mx) (hb : Below wz.heap.size wz w') : Two w w' gd gx F G md mx :=
  ⟨h.d.below hb, h.x.below hb, h.dn, h.xn, h.apart, h.bel.trans (hb.mono h.bel.size)⟩
end

/-- how the armed disk and the other one stand -/
structure Rel (md mx : Dk) (left : Int) (keep : List Bool) (k : Nat) : Prop where
  has : md.has = mx.has
  waits : md.waits = mx.waits
  off : md.off = mx.off
  bare : mx.left < 0
  armed : md.off = false → md.left = left ∧ md.surv = keep
  nn : 0 ≤ left
  few : md.waits.length ≤ k
  four : md.has.length = 4
theorem step_off {m : Dk} (h : m.off = true) : m.step = (m, false) := by unfold Dk.step; rw [if_pos h]
theorem step_fail {m : Dk} (h : m.off = false) (h0 : m.left = 0) : m.step = (m.crash m.surv, false) := by unfold Dk.step; rw [if_neg (by rw [h]; decide), if_pos h0]
theorem step_pos {m : Dk} (h : m.off = false) (h0 : 0 < m.left) : m.step = ({ m with left := m.left - 1 }, true) := by unfold Dk.step; rw [if_neg (by rw [h]; decide), if_neg (by omega), if_pos h0]
theorem step_bare {m : Dk} (h : m.off = false) (h0 : m.left < 0) : m.step = (m, true) := by unfold Dk.step; rw [if_neg (by rw [h]; decide), if_neg (by omega), if_neg (by omega)]
theorem crash_on {m : Dk} (h : m.off = false) (s : List Bool) : m.crash s = { m.laid false s with off := true, left := -1 } := by unfold Dk.crash; rw [if_neg (by rw [h]; decide)]
theorem crash_off {m : Dk} (h : m.off = true) (s : List Bool) : m.crash s = m := by unfold Dk.crash; rw [if_pos h]
theorem flush_no {m m' : Dk} (h : m.step = (m', false)) : m.flush = (m', 9) := by unfold Dk.flush; rw [h]; rfl
theorem flush_yes {m m' : Dk} (h : m.step = (m', true)) : m.flush = (m'.laid true [], 0) := by unfold Dk.flush; rw [h]; rfl
section
variable {md mx : Dk} {left : Int} {keep : List Bool} {k : Nat}
theorem Rel.crashed (h : Rel md mx left keep k) (h0 : left = 0) : Rel (md.step.1) (mx.crash keep) left keep k ∧ md.step.2 = false ∧ (mx.crash keep).off = true ∧ md.step.1.off = true := by
  cases ho : md.off
  · have hx : mx.off = false := h.off ▸ ho
    obtain ⟨e1, e2⟩ := h.armed ho
    rw [step_fail ho (by rw [e1, h0]), crash_on hx, crash_on ho, e2]
    refine ⟨⟨?_, rfl, rfl, by simp, by simp, h.nn, by simp [Dk.laid], ?_⟩, rfl, rfl, rfl⟩
    · simp only [Dk.laid]; rw [h.has, h.waits]
    · simp only [Dk.laid, lay_length]; exact h.four
  · have hx : mx.off = true := h.off ▸ ho
    rw [step_off ho, crash_off hx]
    exact ⟨h, rfl, hx, ho⟩
theorem Rel.flush0 (h : Rel md mx left keep k) (h0 : left = 0) : ∃ n : Nat, md.flush.2 = n ∧ (mx.crash keep).flush.2 = n ∧ n = 9 ∧ Rel md.flush.1 (mx.crash keep).flush.1 left keep k := by
  obtain ⟨h1, h2, h3, _⟩ := h.crashed h0
  have e1 := flush_no (m := md) (m' := md.step.1) (by rw [← h2])
  have e2 := flush_no (step_off h3)
  rw [e1, e2]
  exact ⟨9, rfl, rfl, rfl, h1⟩
theorem Rel.flush1 (h : Rel md mx left keep k) (h0 : left ≠ 0) : ∃ n : Nat, md.flush.2 = n ∧ mx.flush.2 = n ∧ ((n = 9 ∧ Rel md.flush.1 mx.flush.1 left keep k) ∨ (n = 0 ∧ Rel md.flush.1 mx.flush.1 (left - 1) keep k)) := by
  have hn := h.nn
  cases ho : md.off
  · have hx : mx.off = false := h.off ▸ ho
    obtain ⟨e1, e2⟩ := h.armed ho
    rw [flush_yes (step_pos ho (by omega)), flush_yes (step_bare hx h.bare)]
    refine ⟨0, rfl, rfl, .inr ⟨rfl, ⟨?_, rfl, h.off, h.bare, fun _ => ⟨by simp [Dk.laid, e1], e2⟩, by omega, by simp [Dk.laid], ?_⟩⟩⟩
    · simp only [Dk.laid]; rw [h.has, h.waits]
    · simp only [Dk.laid, lay_length]; exact h.four
  · have hx : mx.off = true := h.off ▸ ho
    rw [flush_no (step_off ho), flush_no (step_off hx)]
    exact ⟨9, rfl, rfl, .inl ⟨rfl, h⟩⟩
theorem write_in {m : Dk} (h4 : m.has.length = 4) {p : Int} (hp : 0 ≤ p ∧ p < 4) {b : List UInt8} (hb : b.length = 64) : m.write p b = if m.step.2 = true then ({ m.step.1 with waits := m.step.1.waits ++ [(p.toNat, b)] }, 0) else (m.step.1, 9) := by
  unfold Dk.write
  rw [if_neg (by omega), if_neg (by omega)]
theorem write_out {m : Dk} (h4 : m.has.length = 4) {p : Int} (hp : p < 0 ∨ 4 ≤ p) {b : List UInt8} : m.write p b = (m, 4) := by
  unfold Dk.write
  rw [if_pos (by omega)]
theorem Rel.write0 (h : Rel md mx left keep k) (h0 : left = 0) {p : Int} (hp : 0 ≤ p ∧ p < 4) {b : List UInt8} (hb : b.length = 64) : ∃ n : Nat, (md.write p b).2 = n ∧ ((mx.crash keep).write p b).2 = n ∧ n = 9 ∧ Rel (md.write p b).1 ((mx.crash keep).write p b).1 left keep k := by
  obtain ⟨h1, h2, h3, _⟩ := h.crashed h0
  have h4 : (mx.crash keep).has.length = 4 := by rw [← h1.has]; exact h1.four
  rw [write_in h.four hp hb, write_in h4 hp hb, step_off h3, h2]
  exact ⟨9, rfl, rfl, rfl, h1⟩
theorem Rel.write1 (h : Rel md mx left keep k) (h0 : left ≠ 0) {p : Int} (hp : 0 ≤ p ∧ p < 4) {b : List UInt8} (hb : b.length = 64) : ∃ n : Nat, (md.write p b).2 = n ∧ (mx.write p b).2 = n ∧ ((n = 9 ∧ Rel (md.write p b).1 (mx.write p b).1 left keep k) ∨ (n = 0 ∧ Rel (md.write p b).1 (mx.write p b).1 (left - 1) keep (k + 1))) := by
  have hn := h.nn
  have h4 : mx.has.length = 4 := by rw [← h.has]; exact h.four
  rw [write_in h.four hp hb, write_in h4 hp hb]
  cases ho : md.off
  · have hx : mx.off = false := h.off ▸ ho
    obtain ⟨e1, e2⟩ := h.armed ho
    rw [step_pos ho (by omega), step_bare hx h.bare]
    refine ⟨0, rfl, rfl, .inr ⟨rfl, ⟨h.has, by simp [h.waits], h.off, h.bare, fun _ => ⟨by simp [e1], e2⟩, by omega, by simpa using h.few, h.four⟩⟩⟩
  · have hx : mx.off = true := h.off ▸ ho
    rw [step_off ho, step_off hx]
    exact ⟨9, rfl, rfl, .inl ⟨rfl, h⟩⟩
theorem Rel.write2 (h : Rel md mx left keep k) {p : Int} (hp : p < 0 ∨ 4 ≤ p) {b : List UInt8} : ∃ n : Nat, (md.write p b).2 = n ∧ (mx.write p b).2 = n ∧ n = 4 ∧ Rel (md.write p b).1 (mx.write p b).1 left keep k := by
  have h4 : mx.has.length = 4 := by rw [← h.has]; exact h.four
  rw [write_out h.four hp, write_out h4 hp]
  exact ⟨4, rfl, rfl, rfl, h⟩
theorem Rel.more (h : Rel md mx left keep k) {k' : Nat} (hk : k ≤ k') : Rel md mx left keep k' := ⟨h.has, h.waits, h.off, h.bare, h.armed, h.nn, Nat.le_trans h.few hk, h.four⟩
end
/-- both calls answer alike, and the disks stand as they should -/
def Both (r1 r2 : Dk × Nat) (left : Int) (keep : List Bool) (k : Nat) : Prop := ∃ n : Nat, r1.2 = n ∧ r2.2 = n ∧ ((n ≠ 0 ∧ Rel r1.1 r2.1 left keep k) ∨ (n = 0 ∧ Rel r1.1 r2.1 (left - 1) keep k))
section
variable {md mx : Dk} {left : Int} {keep : List Bool} {k : Nat}
theorem both_flush0 (h : Rel md mx left keep k) (h0 : left = 0) : Both md.flush (mx.crash keep).flush left keep (k + 1) := by
  obtain ⟨n, h1, h2, h3, h4⟩ := h.flush0 h0
  exact ⟨n, h1, h2, .inl ⟨by omega, h4.more (by omega)⟩⟩
theorem both_flush1 (h : Rel md mx left keep k) (h0 : left ≠ 0) : Both md.flush mx.flush left keep (k + 1) := by
  obtain ⟨n, h1, h2, h3⟩ := h.flush1 h0
  rcases h3 with ⟨h3, h4⟩ | ⟨h3, h4⟩
  · exact ⟨n, h1, h2, .inl ⟨by omega, h4.more (by omega)⟩⟩
  · exact ⟨n, h1, h2, .inr ⟨h3, h4.more (by omega)⟩⟩
theorem both_write0 (h : Rel md mx left keep k) (h0 : left = 0) {p : Int} (hp : 0 ≤ p ∧ p < 4) (b : List UInt8) (hb : b.length = 64) : Both (md.write p b) ((mx.crash keep).write p b) left keep (k + 1) := by
  obtain ⟨n, h1, h2, h3, h4⟩ := h.write0 h0 hp hb
  exact ⟨n, h1, h2, .inl ⟨by omega, h4.more (by omega)⟩⟩
theorem both_write2 (h : Rel md mx left keep k) {p : Int} (hp : p < 0 ∨ 4 ≤ p) (b : List UInt8) (_hb : b.length = 64) : Both (md.write p b) (mx.write p b) left keep (k + 1) := by
  obtain ⟨n, h1, h2, h3, h4⟩ := h.write2 hp (b := b)
  exact ⟨n, h1, h2, .inl ⟨by omega, h4.more (by omega)⟩⟩
theorem both_write1 (h : Rel md mx left keep k) (h0 : left ≠ 0) (p : Int) (b : List UInt8) (hb : b.length = 64) : Both (md.write p b) (mx.write p b) left keep (k + 1) := by
  by_cases hp : p < 0 ∨ 4 ≤ p
  · exact both_write2 h hp b hb
  · obtain ⟨n, h1, h2, h3⟩ := h.write1 h0 (p := p) (by omega) hb
    rcases h3 with ⟨h3, h4⟩ | ⟨h3, h4⟩
    · exact ⟨n, h1, h2, .inl ⟨by omega, h4.more (by omega)⟩⟩
    · exact ⟨n, h1, h2, .inr ⟨h3, h4⟩⟩
end
theorem bs_conv {P : Program} {w : World} {A : Option Addr} {l : List UInt8} {t e s : TypeId} (h : Bs w w.heap.size A l) {n : Nat} (hn : l.length = n) (ht : P.underlying t = some (.slice e)) (he : P.underlying e = some (.int .u8)) (c : Nat) (hs : P.underlying s = some .string) : ∀ w', Below w.heap.size w w' → (convert t s (.slice A n c)).run P w' = .ok (.string ⟨l.toArray⟩) w' := fun w' hb => by
  subst hn
  exact (h.below hb).str ht he c s hs
theorem dkCrashIs (w : World) (gd : Nat) (F : Nat → Prop) (m : Dk) (h : CodeIs w gd F m) (hw : m.waits.length ≤ 4294967296) (S : Option Addr) (surv : List Bool) (n c : Nat) (hn : surv.length = n) (hS : Vs w w.heap.size S (bvs surv)) (hF : ∀ g, F g → Far S n g) :
    Calls Try.prog 17 #[.pointer (some ⟨gd, 0, none⟩), .slice S n c] w fun e w' => e = .returned (.tuple #[]) ∧ CodeIs w' gd F (m.crash surv) ∧ Kept F w w' := by
  subst hn
  obtain ⟨gc, W, cw, T, h⟩ := h
  refine (dkCrash w gd F m gc W cw T h hw S surv c hS (hF gc h.ownC)).mono ?_
  rintro e w' ⟨rfl, h1, h2⟩
  exact ⟨rfl, ⟨_, _, _, _, h1⟩, h2⟩
theorem crash_waits (m : Dk) (s : List Bool) : (m.crash s).waits.length ≤ m.waits.length := by
  unfold Dk.crash
  split
  · exact Nat.le_refl _
  · simp [Dk.laid]
/-- what a round's statement leaves -/
def Done (w wx : World) (gd gx : Nat) (left : Int) (keep : List Bool) (k : Nat) (e f : Value) : Prop :=
  ∃ (n : Nat) (F G : Nat → Prop) (md mx : Dk), e = .int .i64 (n : Int) ∧ f = .int .i64 (n : Int) ∧ Two w wx gd gx F G md mx ∧ ((n ≠ 0 ∧ Rel md mx left keep k) ∨ (n = 0 ∧ Rel md mx (left - 1) keep k))
set_option maxRecDepth 100000 in
set_option maxHeartbeats 4000000 in
set_option linter.unusedSimpArgs false in
theorem diskArmed_calls (A : Option Addr) (na ca : Nat) (n : Int) (S : Option Addr) (keep : List Bool) (c : Nat) (w : World) (hA : Acts w A na) (hna : na ≤ 9223372036854775807) (hn : -9223372036854775808 ≤ n ∧ n ≤ 9223372036854775807) (hS : Vs w w.heap.size S (bvs keep)) (hk : keep.length ≤ 140737488355328) :
    Calls Try.prog 5 #[.slice A na ca, .int .i64 n, .slice S keep.length c] w fun e w' => e = .returned (.bool true) ∧ Below w.heap.size w w' := by
  obtain ⟨nk, enk⟩ : ∃ k, keep.length = k := ⟨_, rfl⟩
  rw [enk]
  have HAr := Lib.hid (And.intro hA (And.intro hS (And.intro hk enk)))
  clear hA hS hk enk
  obtain ⟨left, hl0, hl1, hleft⟩ : ∃ left : Int, 0 ≤ left ∧ left ≤ 29 ∧ left = (if n > 0 then Int.tmod n 30 else 0) := by
    by_cases h : n > 0
    · have h1 := Int.tmod_nonneg 30 (show 0 ≤ n by omega)
      have h2 := Int.tmod_lt_of_pos n (show (0 : Int) < 30 by decide)
      exact ⟨_, h1, by omega, by rw [if_pos h]⟩
    · exact ⟨0, by omega, by omega, by rw [if_neg h]⟩
  have HLf := Lib.hid (And.intro hl0 (And.intro hl1 hleft))
  clear hleft
  go_enter Try.func5, Try.ntmps5
  go_wp2_with fail
  refine (dkNew_yes w 4 (by decide) (by decide)).mono ?_
  rintro e w1 ⟨gd, F0, rfl, h1, hb1, hF1⟩
  have H1 := Lib.hid (And.intro h1 (And.intro hb1 hF1))
  clear h1 hb1 hF1
  go_wp2_with fail
  refine (dkNew_yes w1 4 (by decide) (by decide)).mono ?_
  rintro e w2 ⟨gx, G0, rfl, h2, hb2, hG2⟩
  have ht2 : Two w w2 gd gx F0 G0 (Dk.new 4) (Dk.new 4) := ⟨H1.out.1.below hb2, h2, H1.out.2.2, fun g hg => Nat.le_trans H1.out.2.1.size (hG2 g hg), fun g hf hg => by
    have := hG2 g hg
    have := H1.out.1.lt g hf
    omega, H1.out.2.1.trans (hb2.mono H1.out.2.1.size)⟩
  have H2 := Lib.hid ht2
  clear h2 hb2 hG2 ht2
  have hr0 : Rel ((Dk.new 4).arm left keep) (Dk.new 4) left keep 0 := by
    have e : (Dk.new 4).arm left keep = { Dk.new 4 with left := left, surv := keep } := by
      unfold Dk.arm
      rw [if_neg (by simp [Dk.new]), if_neg (by omega)]
    rw [e]
    exact ⟨rfl, rfl, rfl, by simp [Dk.new], fun _ => ⟨rfl, rfl⟩, hl0, by simp [Dk.new], by simp [Dk.new]⟩
  have HR0 := Lib.hid hr0
  clear hr0
  have harm : Calls Try.prog 14 #[.pointer (some ⟨gd, 0, none⟩), .int .i64 left, .slice S nk c] w2 (CodePost w2 gd F0 ((Dk.new 4).arm left keep) (.tuple #[])) := by
    have := dkArm w2 gd F0 (Dk.new 4) H2.out.d left (by omega) S keep c ((HAr.out.2.1.below H2.out.bel).more H2.out.bel.size) (fun g hg h0 b o e e2 => by
      obtain ⟨b', o', e', hb, _⟩ := HAr.out.2.1 (by rw [bvs_length]; exact h0)
      rw [e] at e'
      injection e' with e'
      injection e' with e1
      have := H2.out.dn g hg
      omega) HAr.out.2.2.1
    rwa [HAr.out.2.2.2] at this
  have HArm := Lib.hid harm
  clear harm
  go_upto_if 31 with fail
  go_cut [11] from 30 to 33 (fun l wx => l = .int .i64 left ∧ wx = w2)
  case first =>
    by_cases hp : n > 0
    · have htm : Int.tmod n 30 = left := by rw [HLf.out.2.2, if_pos hp]
      have hwr : IntKind.i64.wrap left = left := IntWalk.i64_in _ (by omega)
      go_wp2_with fail
      go_meet
      case rel => exact ⟨by first | rfl | rw [htm], rfl⟩
    · have htm : left = 0 := by rw [HLf.out.2.2, if_neg hp]
      subst htm
      go_wp2_with fail
      go_meet
      case rel => exact ⟨rfl, rfl⟩
  case rest =>
    obtain ⟨rfl, hwc⟩ := hcut
    have hwc := hwc.symm
    subst hwc
    go_wp2_with (first | (go_at_call 14; refine HArm.out.mono ?_; rintro e w3 ⟨rfl, F3, h3, hk3, hs3⟩) | fail)
    have ht3 := H2.out.onD h3 hk3 hs3
    have HT3 := Lib.hid ht3
    have hfar : ∀ g, w.heap.size ≤ g → Far S nk g := fun g hg h0 b o e e2 => by
      obtain ⟨b', o', e', hb, _⟩ := HAr.out.2.1 (by rw [bvs_length, HAr.out.2.2.2]; exact h0)
      rw [e] at e'
      injection e' with e'
      injection e' with e1
      omega
    have HFar := Lib.hid hfar
    clear ht3 h3 hk3 hs3 hfar
    go_loopw [11, 12] (fun l i wz => ∃ (k : Nat) (lf : Int) (F G : Nat → Prop) (md mx : Dk), k ≤ na ∧ k ≤ 40 ∧ i = .int .i64 (k : Int) ∧ l = .int .i64 lf ∧ lf ≤ 29 ∧ Two w wz gd gx F G md mx ∧ Rel md mx lf keep k) (fun _ i _ => 40 - (intOf i).toNat)
    case atStart => exact ⟨0, left, F3, G0, _, _, by omega, by omega, rfl, rfl, hl1, HT3.out, HR0.out⟩
    case round =>
      obtain ⟨k, lf, F, G, md, mx, hkn, hk40, rfl, rfl, hlf, ht, hr⟩ := hrel
      have hlf0 : 0 ≤ lf := hr.nn
      have HT := Lib.hid (And.intro ht hr)
      clear ht hr
      by_cases hlt : k < na
      · by_cases hlt2 : k < 40
        · obtain ⟨b, o, eA, hbA, hAi⟩ := (HAr.out.1.below HT.out.1.bel) (by omega)
          obtain ⟨a, Sa, cka, haok, hcells, _⟩ := hAi k hlt
          obtain ⟨X, eX⟩ : ∃ X, actCells a Sa cka = X := ⟨_, rfl⟩
          rw [eX] at hcells
          have HX := Lib.hid (And.intro eX (And.intro hcells eA))
          have hXl : X.length = 5 := by rw [← eX]; rfl
          have hX1 : ∀ v ∈ X, v.oneCell' = true := by rw [← eX]; exact actCells_one a Sa cka
          have HX1 := Lib.hid (And.intro hXl hX1)
          have hki : (k : Int) < (na : Int) := by omega
          have hki2 : (k : Int) < 40 := by omega
          have hk0 : (0 : Int) ≤ (k : Int) := by omega
          subst eA
          clear eX hcells hAi hbA hXl hX1
          go_wp2_with (first | (with_reducible refine st_load 44 ?_; refine stopped ?_) | fail)
          refine go_on ?_
          refine wpList_load_at rfl 44 (.tmp 50) rfl b (o + k * 5) rfl X.toArray _ HX.out.2.1 Try.underlying44 rfl (by rw [List.size_toArray, HX1.out.1]; exact act_size) ?_
          refine wpList_alloc rfl 44 rfl _ act_zero ?_
          intro w4 hb4 hw4 hz4
          obtain ⟨gl, egl⟩ : ∃ g, wr.heap.size = g := ⟨_, rfl⟩
          rw [egl] at hb4 ⊢
          refine wpList_store_whole rfl 44 (.tmp 13) (.tmp 51) rfl gl X rfl rfl 44 (actCells act0 none 0) hb4 (by rw [HX1.out.1]; exact act_size) (by rw [HX1.out.1]; rfl) HX1.out.2 ?_
          intro w5 hb5 hg5
          simp only [Act.put, List.setIfInBounds_toArray, List.set_cons_zero, List.set_cons_succ]
          have hbel5 : Below wr.heap.size wr w5 := hw4.trans (only_below hg5 (by omega) (fun g e => by cases e; omega))
          have ht5 := HT.out.1.below hbel5
          have hcd : w5.cell? ⟨gl, 0, none⟩ = some (.int .i64 a.do_) := by rw [hb5.cell, ← HX.out.1]; rfl
          have hca : w5.cell? ⟨gl, 1, none⟩ = some (.int .i64 a.at_) := by rw [hb5.cell, ← HX.out.1]; rfl
          have hcf : w5.cell? ⟨gl, 3, none⟩ = some (.int .u8 (a.fill.toNat : Int)) := by rw [hb5.cell, ← HX.out.1]; rfl
          have hFo : ∀ g, F g → g ≠ gl := fun g hg => by have := HT.out.1.d.lt g hg; omega
          have hGo : ∀ g, G g → g ≠ gl := fun g hg => by have := HT.out.1.x.lt g hg; omega
          have HI := Lib.hid (And.intro ht5 (And.intro HT.out.2 (And.intro hFo (And.intro hGo (And.intro hb5 haok)))))
          clear ht5 hFo hGo hb5 haok hb4 hw4 hz4 hg5 hbel5
          obtain ⟨pd, epd⟩ : ∃ x, a.do_ = x := ⟨_, rfl⟩
          obtain ⟨pa, epa⟩ : ∃ x, a.at_ = x := ⟨_, rfl⟩
          obtain ⟨fl, efl⟩ : ∃ x, a.fill.toNat = x := ⟨_, rfl⟩
          rw [epd] at hcd
          rw [epa] at hca
          rw [efl] at hcf
          have HAt := Lib.hid (And.intro epd (And.intro epa efl))
          clear epd epa efl
          go_upto_if 54 with fail
          go_cut [14, 15] from 38 to 115 (fun e f wx => Done w wx gd gx lf keep (k + 1) e f)
          case first =>
            by_cases h4 : pd = 4
            · by_cases h0 : lf = 0
              · have hbo := both_flush0 HI.out.2.1 h0
                subst h0
                go_wp2_with fail
                refine (dkCrashIs w5 gx G mx HI.out.1.x (by have h1 := HI.out.2.1.waits; have h2 := HI.out.2.1.few; rw [← h1]; omega) S keep nk c HAr.out.2.2.2 ((HAr.out.2.1.below HI.out.1.bel).more HI.out.1.bel.size) (fun g hg => HFar.out g (HI.out.1.xn g hg))).mono ?_
                rintro e w6 ⟨rfl, h6, hk6⟩
                have HT6 := Lib.hid (HI.out.1.onX h6 hk6 (fun _ => .inl))
                have hca6 : w6.cell? ⟨gl, 1, none⟩ = some (.int .i64 pa) := (World.cell?_of_block (hk6.block gl HI.out.2.2.2.2.1.lt (fun hg => HI.out.2.2.2.1 gl hg rfl))).trans hca
                have hcf6 : w6.cell? ⟨gl, 3, none⟩ = some (.int .u8 (fl : Int)) := (World.cell?_of_block (hk6.block gl HI.out.2.2.2.2.1.lt (fun hg => HI.out.2.2.2.1 gl hg rfl))).trans hcf
                have hlt6 : gl < w6.heap.size := Nat.lt_of_lt_of_le HI.out.2.2.2.2.1.lt hk6.size
                clear h6 hk6
                go_wp2_with fail
                refine (dkFlush w6 gd F md HT6.out.d (by have := HI.out.2.1.few; omega)).mono ?_
                rintro e w7 ⟨rfl, h7, hk7⟩
                have HT7 := Lib.hid (HT6.out.onD h7 hk7 (fun _ => .inl))
                obtain ⟨nn, e1, e2, hrel⟩ := hbo
                rw [e1]
                clear h7 hk7 hca6 hcf6 hlt6
                go_wp2_with fail
                refine (dkFlush w7 gx G (mx.crash keep) HT7.out.x (by have h3 := crash_waits mx keep; have h1 := HI.out.2.1.waits; have h2 := HI.out.2.1.few; rw [← h1] at h3; omega)).mono ?_
                rintro e w8 ⟨rfl, h8, hk8⟩
                have HT8 := Lib.hid (HT7.out.onX h8 hk8 (fun _ => .inl))
                rw [e2]
                have HRel := Lib.hid hrel
                clear h8 hk8 hrel e1 e2
                go_wp2_with fail
                go_meet
                case rel => exact ⟨nn, F, G, _, _, rfl, rfl, HT8.out, HRel.out⟩
              · have hbo := both_flush1 HI.out.2.1 h0
                have HT6 := Lib.hid HI.out.1
                have hca6 := hca
                have hcf6 := hcf
                have hlt6 : gl < w5.heap.size := HI.out.2.2.2.2.1.lt
                go_wp2_with fail
                refine (dkFlush w5 gd F md HT6.out.d (by have := HI.out.2.1.few; omega)).mono ?_
                rintro e w7 ⟨rfl, h7, hk7⟩
                have HT7 := Lib.hid (HT6.out.onD h7 hk7 (fun _ => .inl))
                obtain ⟨nn, e1, e2, hrel⟩ := hbo
                rw [e1]
                clear h7 hk7 hca6 hcf6 hlt6
                go_wp2_with fail
                refine (dkFlush w7 gx G mx HT7.out.x (by have h1 := HI.out.2.1.waits; have h2 := HI.out.2.1.few; rw [← h1]; omega)).mono ?_
                rintro e w8 ⟨rfl, h8, hk8⟩
                have HT8 := Lib.hid (HT7.out.onX h8 hk8 (fun _ => .inl))
                rw [e2]
                have HRel := Lib.hid hrel
                clear h8 hk8 hrel e1 e2
                go_wp2_with fail
                go_meet
                case rel => exact ⟨nn, F, G, _, _, rfl, rfl, HT8.out, HRel.out⟩
            · by_cases h0 : lf = 0
              · by_cases hp1 : 0 ≤ pa
                · have hge : pa ≥ 0 := hp1
                  by_cases hp2 : pa < 4
                  · have hbo := fun b hb => both_write0 HI.out.2.1 h0 (p := pa) ⟨hp1, hp2⟩ b hb
                    subst h0
                    go_wp2_with fail
                    refine (dkCrashIs w5 gx G mx HI.out.1.x (by have h1 := HI.out.2.1.waits; have h2 := HI.out.2.1.few; rw [← h1]; omega) S keep nk c HAr.out.2.2.2 ((HAr.out.2.1.below HI.out.1.bel).more HI.out.1.bel.size) (fun g hg => HFar.out g (HI.out.1.xn g hg))).mono ?_
                    rintro e w6 ⟨rfl, h6, hk6⟩
                    have HT6 := Lib.hid (HI.out.1.onX h6 hk6 (fun _ => .inl))
                    have hca6 : w6.cell? ⟨gl, 1, none⟩ = some (.int .i64 pa) := (World.cell?_of_block (hk6.block gl HI.out.2.2.2.2.1.lt (fun hg => HI.out.2.2.2.1 gl hg rfl))).trans hca
                    have hcf6 : w6.cell? ⟨gl, 3, none⟩ = some (.int .u8 (fl : Int)) := (World.cell?_of_block (hk6.block gl HI.out.2.2.2.2.1.lt (fun hg => HI.out.2.2.2.1 gl hg rfl))).trans hcf
                    have hlt6 : gl < w6.heap.size := Nat.lt_of_lt_of_le HI.out.2.2.2.2.1.lt hk6.size
                    clear h6 hk6
                    go_wp2_with fail
                    obtain ⟨bb, ebb⟩ : ∃ x : List UInt8, x = List.replicate 64 a.fill := ⟨_, rfl⟩
                    have hbb : bb.length = 64 := by rw [ebb]; simp
                    have HSec : ∀ w : World, Calls Try.prog 20 #[.int .u8 (fl : Int), .int .i64 0] w (OwnPost w bb) := fun w => by
                      rw [← HAt.out.2.2, ebb]
                      exact sector_any w a.fill 0
                    have HSec := Lib.hid HSec
                    obtain ⟨nn, e1, e2, hrel⟩ := (hbo bb hbb)
                    have HRel := Lib.hid (And.intro hrel (And.intro e1 (And.intro e2 hbb)))
                    clear ebb hbb hrel e1 e2
                    have ht6 := HT6.out.below ((Below.refl w6.heap.size w6).drew)
                    have HTd := Lib.hid ht6
                    clear ht6
                    have hS0 : (fun w' : World => w'.cell? ⟨gl, 1, none⟩ = some (.int .i64 pa) ∧ w'.cell? ⟨gl, 3, none⟩ = some (.int .u8 (fl : Int))) w6.drew := ⟨hca6, hcf6⟩
                    refine wp_region_held_drew (S := fun w' => w'.cell? ⟨gl, 1, none⟩ = some (.int .i64 pa) ∧ w'.cell? ⟨gl, 3, none⟩ = some (.int .u8 (fl : Int))) (by kernel_rfl) hS0 (fun hHeld => ?_)
                    refine wpAnyH_take (i := 0) (v := ?_) (List.getElem?_toArray.trans (List.getElem?_cons_zero)) (by kernel_rfl) (by kernel_rfl) (by kernel_rfl) (fun _ _ _ h => h) (Or.inl ⟨by rfl, ?_⟩) (by assumption) ?_
                    rotate_left
                    · intro w' hSw; (try dsimp only at hSw); go_simp; try with_reducible rfl
                    try simp only [Act.put, List.setIfInBounds_toArray, List.set_cons_zero, List.set_cons_succ]
                    refine wpAnyH_take (i := 1) (v := ?_) (List.getElem?_toArray.trans (List.getElem?_cons_succ.trans (List.getElem?_cons_zero))) (by kernel_rfl) (by kernel_rfl) (by kernel_rfl) (fun _ _ _ h => h) (Or.inl ⟨by rfl, ?_⟩) (by assumption) ?_
                    rotate_left
                    · intro w' hSw; (try dsimp only at hSw); go_simp; try with_reducible rfl
                    try simp only [Act.put, List.setIfInBounds_toArray, List.set_cons_zero, List.set_cons_succ]
                    refine wpAnyH_take (i := 2) (v := ?_) (List.getElem?_toArray.trans (List.getElem?_cons_succ.trans (List.getElem?_cons_succ.trans (List.getElem?_cons_zero)))) (by kernel_rfl) (by kernel_rfl) (by kernel_rfl) (fun _ _ _ h => h) (Or.inl ⟨by rfl, ?_⟩) (by assumption) ?_
                    rotate_left
                    · intro w' hSw; (try dsimp only at hSw); go_simp; try with_reducible rfl
                    try simp only [Act.put, List.setIfInBounds_toArray, List.set_cons_zero, List.set_cons_succ]
                    refine wpAnyH_take (i := 3) (v := ?_) (List.getElem?_toArray.trans (List.getElem?_cons_succ.trans (List.getElem?_cons_succ.trans (List.getElem?_cons_succ.trans (List.getElem?_cons_zero))))) (by kernel_rfl) (by kernel_rfl) (by kernel_rfl) (fun _ _ _ h => h) (Or.inl ⟨by rfl, ?_⟩) (by assumption) ?_
                    rotate_left
                    · intro w' hSw; (try dsimp only at hSw); go_simp; try with_reducible rfl
                    try simp only [Act.put, List.setIfInBounds_toArray, List.set_cons_zero, List.set_cons_succ]
                    refine wpAnyH_take (i := 4) (v := ?_) (List.getElem?_toArray.trans (List.getElem?_cons_succ.trans (List.getElem?_cons_succ.trans (List.getElem?_cons_succ.trans (List.getElem?_cons_succ.trans (List.getElem?_cons_zero)))))) (by kernel_rfl) (by kernel_rfl) (by kernel_rfl) (fun _ _ _ h => h) (Or.inl ⟨by rfl, ?_⟩) (by assumption) ?_
                    rotate_left
                    · intro w' hSw; (try dsimp only at hSw); go_simp; try with_reducible rfl
                    try simp only [Act.put, List.setIfInBounds_toArray, List.set_cons_zero, List.set_cons_succ]
                    refine wpAnyH_take (i := 7) (v := ?_) (List.getElem?_toArray.trans (List.getElem?_cons_succ.trans (List.getElem?_cons_succ.trans (List.getElem?_cons_succ.trans (List.getElem?_cons_succ.trans (List.getElem?_cons_succ.trans (List.getElem?_cons_succ.trans (List.getElem?_cons_succ.trans (List.getElem?_cons_zero))))))))) (by kernel_rfl) (by kernel_rfl) (by kernel_rfl) (fun _ _ _ h => h) (Or.inl ⟨by rfl, ?_⟩) (by assumption) ?_
                    rotate_left
                    · intro w' hSw; (try dsimp only at hSw); go_simp; try with_reducible rfl
                    try simp only [Act.put, List.setIfInBounds_toArray, List.set_cons_zero, List.set_cons_succ]
                    refine wpAnyH_take (i := 8) (v := ?_) (List.getElem?_toArray.trans (List.getElem?_cons_succ.trans (List.getElem?_cons_succ.trans (List.getElem?_cons_succ.trans (List.getElem?_cons_succ.trans (List.getElem?_cons_succ.trans (List.getElem?_cons_succ.trans (List.getElem?_cons_succ.trans (List.getElem?_cons_succ.trans (List.getElem?_cons_zero)))))))))) (by kernel_rfl) (by kernel_rfl) (by kernel_rfl) (fun _ _ _ h => h) (Or.inl ⟨by rfl, ?_⟩) (by assumption) ?_
                    rotate_left
                    · intro w' hSw; (try dsimp only at hSw); go_simp; try with_reducible rfl
                    try simp only [Act.put, List.setIfInBounds_toArray, List.set_cons_zero, List.set_cons_succ]
                    refine wpAnyH_take (i := 9) (v := ?_) (List.getElem?_toArray.trans (List.getElem?_cons_succ.trans (List.getElem?_cons_succ.trans (List.getElem?_cons_succ.trans (List.getElem?_cons_succ.trans (List.getElem?_cons_succ.trans (List.getElem?_cons_succ.trans (List.getElem?_cons_succ.trans (List.getElem?_cons_succ.trans (List.getElem?_cons_succ.trans (List.getElem?_cons_zero))))))))))) (by kernel_rfl) (by kernel_rfl) (by kernel_rfl) (fun _ _ _ h => h) (Or.inl ⟨by rfl, ?_⟩) (by assumption) ?_
                    rotate_left
                    · intro w' hSw; (try dsimp only at hSw); go_simp; try with_reducible rfl
                    try simp only [Act.put, List.setIfInBounds_toArray, List.set_cons_zero, List.set_cons_succ]
                    refine wpAnyH_take (i := 10) (v := ?_) (List.getElem?_toArray.trans (List.getElem?_cons_succ.trans (List.getElem?_cons_succ.trans (List.getElem?_cons_succ.trans (List.getElem?_cons_succ.trans (List.getElem?_cons_succ.trans (List.getElem?_cons_succ.trans (List.getElem?_cons_succ.trans (List.getElem?_cons_succ.trans (List.getElem?_cons_succ.trans (List.getElem?_cons_succ.trans (List.getElem?_cons_zero)))))))))))) (by kernel_rfl) (by kernel_rfl) (by kernel_rfl) (fun _ _ _ h => h) (Or.inl ⟨by rfl, ?_⟩) (by assumption) ?_
                    rotate_left
                    · intro w' hSw; (try dsimp only at hSw); go_simp; try with_reducible rfl
                    try simp only [Act.put, List.setIfInBounds_toArray, List.set_cons_zero, List.set_cons_succ]
                    refine wpAnyH_take (i := 11) (v := ?_) (List.getElem?_toArray.trans (List.getElem?_cons_succ.trans (List.getElem?_cons_succ.trans (List.getElem?_cons_succ.trans (List.getElem?_cons_succ.trans (List.getElem?_cons_succ.trans (List.getElem?_cons_succ.trans (List.getElem?_cons_succ.trans (List.getElem?_cons_succ.trans (List.getElem?_cons_succ.trans (List.getElem?_cons_succ.trans (List.getElem?_cons_succ.trans (List.getElem?_cons_zero))))))))))))) (by kernel_rfl) (by kernel_rfl) (by kernel_rfl) (fun _ _ _ h => h) (Or.inl ⟨by rfl, ?_⟩) (by assumption) ?_
                    rotate_left
                    · intro w' hSw; (try dsimp only at hSw); go_simp; try with_reducible rfl
                    try simp only [Act.put, List.setIfInBounds_toArray, List.set_cons_zero, List.set_cons_succ]
                    refine wpAnyH_ready (rs := [5]) (by kernel_rfl) (by simp) ?_
                    refine AllReadyH.cons (List.getElem?_toArray.trans (List.getElem?_cons_succ.trans (List.getElem?_cons_succ.trans (List.getElem?_cons_succ.trans (List.getElem?_cons_succ.trans (List.getElem?_cons_succ.trans (List.getElem?_cons_zero))))))) (fun K hK => ?_) AllReadyH.nil
                    go_simp
                    refine (HSec.out _).mono ?_
                    rintro e w7 ⟨v7, rfl, hown7, hb7⟩
                    obtain ⟨A7, c7, rfl, _, hA7⟩ := Held.own hown7 HTd.out.d.lt
                    have HT7 := Lib.hid (HTd.out.below hb7)
                    have hS7 : (fun w' : World => w'.cell? ⟨gl, 1, none⟩ = some (.int .i64 pa) ∧ w'.cell? ⟨gl, 3, none⟩ = some (.int .u8 (fl : Int))) w7 := ⟨(hb7.cell (p := ⟨gl, 1, none⟩) hlt6).trans hca6, (hb7.cell (p := ⟨gl, 3, none⟩) hlt6).trans hcf6⟩
                    have hlt7 : gl < w7.heap.size := Nat.lt_of_lt_of_le hlt6 hb7.size
                    have HA7 := Lib.hid hA7
                    rw [HRel.out.2.2.2]
                    clear hown7 hb7 hA7
                    refine hK.out _ _ hS7 (fun hHeld => ?_)
                    clear hK K
                    try simp only [Act.put, List.setIfInBounds_toArray, List.set_cons_zero, List.set_cons_succ]
                    refine wpAnyH_ready (rs := [6]) (by kernel_rfl) (by simp) ?_
                    refine AllReadyH.cons (List.getElem?_toArray.trans (List.getElem?_cons_succ.trans (List.getElem?_cons_succ.trans (List.getElem?_cons_succ.trans (List.getElem?_cons_succ.trans (List.getElem?_cons_succ.trans (List.getElem?_cons_succ.trans (List.getElem?_cons_zero)))))))) (fun K hK => ?_) AllReadyH.nil
                    go_simp
                    have hw7 := dkWrite w7 gd F md HT7.out.d (by have := HI.out.2.1.few; omega) pa A7 bb c7 HA7.out.1 HA7.out.2
                    rw [HRel.out.2.2.2, HRel.out.2.1] at hw7
                    refine hw7.mono ?_
                    rintro e w8 ⟨rfl, F8, h8, hk8, hs8⟩
                    have HT8 := Lib.hid (HT7.out.onD h8 hk8 hs8)
                    have hS8 : (fun w' : World => w'.cell? ⟨gl, 1, none⟩ = some (.int .i64 pa) ∧ w'.cell? ⟨gl, 3, none⟩ = some (.int .u8 (fl : Int))) w8 := ⟨(World.cell?_of_block (hk8.block gl hlt7 (fun hg => HI.out.2.2.1 gl hg rfl))).trans hS7.1, (World.cell?_of_block (hk8.block gl hlt7 (fun hg => HI.out.2.2.1 gl hg rfl))).trans hS7.2⟩
                    have hlt8 : gl < w8.heap.size := Nat.lt_of_lt_of_le hlt7 hk8.size
                    clear hw7 h8 hk8 hs8
                    refine hK.out _ _ hS8 (fun hHeld => ?_)
                    clear hK K
                    try simp only [Act.put, List.setIfInBounds_toArray, List.set_cons_zero, List.set_cons_succ]
                    refine wpAnyH_ready (rs := [12]) (by kernel_rfl) (by simp) ?_
                    refine AllReadyH.cons (List.getElem?_toArray.trans (List.getElem?_cons_succ.trans (List.getElem?_cons_succ.trans (List.getElem?_cons_succ.trans (List.getElem?_cons_succ.trans (List.getElem?_cons_succ.trans (List.getElem?_cons_succ.trans (List.getElem?_cons_succ.trans (List.getElem?_cons_succ.trans (List.getElem?_cons_succ.trans (List.getElem?_cons_succ.trans (List.getElem?_cons_succ.trans (List.getElem?_cons_succ.trans (List.getElem?_cons_zero)))))))))))))) (fun K hK => ?_) AllReadyH.nil
                    go_simp
                    refine (HSec.out w8).mono ?_
                    rintro e w9 ⟨v9, rfl, hown9, hb9⟩
                    obtain ⟨A9, c9, rfl, _, hA9⟩ := Held.own hown9 HT8.out.x.lt
                    have HT9 := Lib.hid (HT8.out.below hb9)
                    have hS9 : (fun w' : World => w'.cell? ⟨gl, 1, none⟩ = some (.int .i64 pa) ∧ w'.cell? ⟨gl, 3, none⟩ = some (.int .u8 (fl : Int))) w9 := ⟨(hb9.cell (p := ⟨gl, 1, none⟩) hlt8).trans hS8.1, (hb9.cell (p := ⟨gl, 3, none⟩) hlt8).trans hS8.2⟩
                    have hlt9 : gl < w9.heap.size := Nat.lt_of_lt_of_le hlt8 hb9.size
                    have HA9 := Lib.hid hA9
                    rw [HRel.out.2.2.2]
                    clear hown9 hb9 hA9
                    refine hK.out _ _ hS9 (fun hHeld => ?_)
                    clear hK K
                    try simp only [Act.put, List.setIfInBounds_toArray, List.set_cons_zero, List.set_cons_succ]
                    refine wpAnyH_ready (rs := [13]) (by kernel_rfl) (by simp) ?_
                    refine AllReadyH.cons (List.getElem?_toArray.trans (List.getElem?_cons_succ.trans (List.getElem?_cons_succ.trans (List.getElem?_cons_succ.trans (List.getElem?_cons_succ.trans (List.getElem?_cons_succ.trans (List.getElem?_cons_succ.trans (List.getElem?_cons_succ.trans (List.getElem?_cons_succ.trans (List.getElem?_cons_succ.trans (List.getElem?_cons_succ.trans (List.getElem?_cons_succ.trans (List.getElem?_cons_succ.trans (List.getElem?_cons_succ.trans (List.getElem?_cons_zero))))))))))))))) (fun K hK => ?_) AllReadyH.nil
                    go_simp
                    have hw9 := dkWrite w9 gx G (mx.crash keep) HT9.out.x (by have h3 := crash_waits mx keep; have h1 := HI.out.2.1.waits; have h2 := HI.out.2.1.few; rw [← h1] at h3; omega) pa A9 bb c9 HA9.out.1 HA9.out.2
                    rw [HRel.out.2.2.2, HRel.out.2.2.1] at hw9
                    refine hw9.mono ?_
                    rintro e w10 ⟨rfl, G10, h10, hk10, hs10⟩
                    have HT10 := Lib.hid (HT9.out.onX h10 hk10 hs10)
                    have hS10 : (fun w' : World => w'.cell? ⟨gl, 1, none⟩ = some (.int .i64 pa) ∧ w'.cell? ⟨gl, 3, none⟩ = some (.int .u8 (fl : Int))) w10 := ⟨(World.cell?_of_block (hk10.block gl hlt9 (fun hg => HI.out.2.2.2.1 gl hg rfl))).trans hS9.1, (World.cell?_of_block (hk10.block gl hlt9 (fun hg => HI.out.2.2.2.1 gl hg rfl))).trans hS9.2⟩
                    clear hw9 h10 hk10 hs10
                    refine hK.out _ _ hS10 (fun hHeld => ?_)
                    clear hK K
                    try simp only [Act.put, List.setIfInBounds_toArray, List.set_cons_zero, List.set_cons_succ]
                    refine wpAnyH_take (i := 14) (v := ?_) (List.getElem?_toArray.trans (List.getElem?_cons_succ.trans (List.getElem?_cons_succ.trans (List.getElem?_cons_succ.trans (List.getElem?_cons_succ.trans (List.getElem?_cons_succ.trans (List.getElem?_cons_succ.trans (List.getElem?_cons_succ.trans (List.getElem?_cons_succ.trans (List.getElem?_cons_succ.trans (List.getElem?_cons_succ.trans (List.getElem?_cons_succ.trans (List.getElem?_cons_succ.trans (List.getElem?_cons_succ.trans (List.getElem?_cons_succ.trans (List.getElem?_cons_zero)))))))))))))))) (by kernel_rfl) (by kernel_rfl) (by kernel_rfl) (fun _ _ _ h => h) (Or.inl ⟨by rfl, ?_⟩) (by assumption) ?_
                    rotate_left
                    · intro w' hSw; (try dsimp only at hSw); go_simp; try with_reducible rfl
                    try simp only [Act.put, List.setIfInBounds_toArray, List.set_cons_zero, List.set_cons_succ]
                    refine wpAnyH_take (i := 15) (v := ?_) (List.getElem?_toArray.trans (List.getElem?_cons_succ.trans (List.getElem?_cons_succ.trans (List.getElem?_cons_succ.trans (List.getElem?_cons_succ.trans (List.getElem?_cons_succ.trans (List.getElem?_cons_succ.trans (List.getElem?_cons_succ.trans (List.getElem?_cons_succ.trans (List.getElem?_cons_succ.trans (List.getElem?_cons_succ.trans (List.getElem?_cons_succ.trans (List.getElem?_cons_succ.trans (List.getElem?_cons_succ.trans (List.getElem?_cons_succ.trans (List.getElem?_cons_succ.trans (List.getElem?_cons_zero))))))))))))))))) (by kernel_rfl) (by kernel_rfl) (by kernel_rfl) (fun _ _ _ h => h) (Or.inl ⟨by rfl, ?_⟩) (by assumption) ?_
                    rotate_left
                    · intro w' hSw; (try dsimp only at hSw); go_simp; try with_reducible rfl
                    try simp only [Act.put, List.setIfInBounds_toArray, List.set_cons_zero, List.set_cons_succ]
                    refine wpAnyH_done (by kernel_rfl) ?_ _
                    go_wp2_with fail
                    go_meet
                    case rel => exact ⟨nn, F8, G10, _, _, rfl, rfl, HT10.out, HRel.out.1⟩
                  · have hbo := fun b hb => both_write2 HI.out.2.1 (p := pa) (.inr (by omega)) b hb
                    subst h0
                    have HT6 := Lib.hid HI.out.1
                    have hca6 := hca
                    have hcf6 := hcf
                    have hlt6 : gl < w5.heap.size := HI.out.2.2.2.2.1.lt
                    go_wp2_with fail
                    obtain ⟨bb, ebb⟩ : ∃ x : List UInt8, x = List.replicate 64 a.fill := ⟨_, rfl⟩
                    have hbb : bb.length = 64 := by rw [ebb]; simp
                    have HSec : ∀ w : World, Calls Try.prog 20 #[.int .u8 (fl : Int), .int .i64 0] w (OwnPost w bb) := fun w => by
                      rw [← HAt.out.2.2, ebb]
                      exact sector_any w a.fill 0
                    have HSec := Lib.hid HSec
                    obtain ⟨nn, e1, e2, hrel⟩ := (hbo bb hbb)
                    have HRel := Lib.hid (And.intro hrel (And.intro e1 (And.intro e2 hbb)))
                    clear ebb hbb hrel e1 e2
                    have ht6 := HT6.out.below ((Below.refl w5.heap.size w5).drew)
                    have HTd := Lib.hid ht6
                    clear ht6
                    have hS0 : (fun w' : World => w'.cell? ⟨gl, 1, none⟩ = some (.int .i64 pa) ∧ w'.cell? ⟨gl, 3, none⟩ = some (.int .u8 (fl : Int))) w5.drew := ⟨hca6, hcf6⟩
                    refine wp_region_held_drew (S := fun w' => w'.cell? ⟨gl, 1, none⟩ = some (.int .i64 pa) ∧ w'.cell? ⟨gl, 3, none⟩ = some (.int .u8 (fl : Int))) (by kernel_rfl) hS0 (fun hHeld => ?_)
                    refine wpAnyH_take (i := 0) (v := ?_) (List.getElem?_toArray.trans (List.getElem?_cons_zero)) (by kernel_rfl) (by kernel_rfl) (by kernel_rfl) (fun _ _ _ h => h) (Or.inl ⟨by rfl, ?_⟩) (by assumption) ?_
                    rotate_left
                    · intro w' hSw; (try dsimp only at hSw); go_simp; try with_reducible rfl
                    try simp only [Act.put, List.setIfInBounds_toArray, List.set_cons_zero, List.set_cons_succ]
                    refine wpAnyH_take (i := 1) (v := ?_) (List.getElem?_toArray.trans (List.getElem?_cons_succ.trans (List.getElem?_cons_zero))) (by kernel_rfl) (by kernel_rfl) (by kernel_rfl) (fun _ _ _ h => h) (Or.inl ⟨by rfl, ?_⟩) (by assumption) ?_
                    rotate_left
                    · intro w' hSw; (try dsimp only at hSw); go_simp; try with_reducible rfl
                    try simp only [Act.put, List.setIfInBounds_toArray, List.set_cons_zero, List.set_cons_succ]
                    refine wpAnyH_take (i := 2) (v := ?_) (List.getElem?_toArray.trans (List.getElem?_cons_succ.trans (List.getElem?_cons_succ.trans (List.getElem?_cons_zero)))) (by kernel_rfl) (by kernel_rfl) (by kernel_rfl) (fun _ _ _ h => h) (Or.inl ⟨by rfl, ?_⟩) (by assumption) ?_
                    rotate_left
                    · intro w' hSw; (try dsimp only at hSw); go_simp; try with_reducible rfl
                    try simp only [Act.put, List.setIfInBounds_toArray, List.set_cons_zero, List.set_cons_succ]
                    refine wpAnyH_take (i := 3) (v := ?_) (List.getElem?_toArray.trans (List.getElem?_cons_succ.trans (List.getElem?_cons_succ.trans (List.getElem?_cons_succ.trans (List.getElem?_cons_zero))))) (by kernel_rfl) (by kernel_rfl) (by kernel_rfl) (fun _ _ _ h => h) (Or.inl ⟨by rfl, ?_⟩) (by assumption) ?_
                    rotate_left
                    · intro w' hSw; (try dsimp only at hSw); go_simp; try with_reducible rfl
                    try simp only [Act.put, List.setIfInBounds_toArray, List.set_cons_zero, List.set_cons_succ]
                    refine wpAnyH_take (i := 4) (v := ?_) (List.getElem?_toArray.trans (List.getElem?_cons_succ.trans (List.getElem?_cons_succ.trans (List.getElem?_cons_succ.trans (List.getElem?_cons_succ.trans (List.getElem?_cons_zero)))))) (by kernel_rfl) (by kernel_rfl) (by kernel_rfl) (fun _ _ _ h => h) (Or.inl ⟨by rfl, ?_⟩) (by assumption) ?_
                    rotate_left
                    · intro w' hSw; (try dsimp only at hSw); go_simp; try with_reducible rfl
                    try simp only [Act.put, List.setIfInBounds_toArray, List.set_cons_zero, List.set_cons_succ]
                    refine wpAnyH_take (i := 7) (v := ?_) (List.getElem?_toArray.trans (List.getElem?_cons_succ.trans (List.getElem?_cons_succ.trans (List.getElem?_cons_succ.trans (List.getElem?_cons_succ.trans (List.getElem?_cons_succ.trans (List.getElem?_cons_succ.trans (List.getElem?_cons_succ.trans (List.getElem?_cons_zero))))))))) (by kernel_rfl) (by kernel_rfl) (by kernel_rfl) (fun _ _ _ h => h) (Or.inl ⟨by rfl, ?_⟩) (by assumption) ?_
                    rotate_left
                    · intro w' hSw; (try dsimp only at hSw); go_simp; try with_reducible rfl
                    try simp only [Act.put, List.setIfInBounds_toArray, List.set_cons_zero, List.set_cons_succ]
                    refine wpAnyH_take (i := 8) (v := ?_) (List.getElem?_toArray.trans (List.getElem?_cons_succ.trans (List.getElem?_cons_succ.trans (List.getElem?_cons_succ.trans (List.getElem?_cons_succ.trans (List.getElem?_cons_succ.trans (List.getElem?_cons_succ.trans (List.getElem?_cons_succ.trans (List.getElem?_cons_succ.trans (List.getElem?_cons_zero)))))))))) (by kernel_rfl) (by kernel_rfl) (by kernel_rfl) (fun _ _ _ h => h) (Or.inl ⟨by rfl, ?_⟩) (by assumption) ?_
                    rotate_left
                    · intro w' hSw; (try dsimp only at hSw); go_simp; try with_reducible rfl
                    try simp only [Act.put, List.setIfInBounds_toArray, List.set_cons_zero, List.set_cons_succ]
                    refine wpAnyH_take (i := 9) (v := ?_) (List.getElem?_toArray.trans (List.getElem?_cons_succ.trans (List.getElem?_cons_succ.trans (List.getElem?_cons_succ.trans (List.getElem?_cons_succ.trans (List.getElem?_cons_succ.trans (List.getElem?_cons_succ.trans (List.getElem?_cons_succ.trans (List.getElem?_cons_succ.trans (List.getElem?_cons_succ.trans (List.getElem?_cons_zero))))))))))) (by kernel_rfl) (by kernel_rfl) (by kernel_rfl) (fun _ _ _ h => h) (Or.inl ⟨by rfl, ?_⟩) (by assumption) ?_
                    rotate_left
                    · intro w' hSw; (try dsimp only at hSw); go_simp; try with_reducible rfl
                    try simp only [Act.put, List.setIfInBounds_toArray, List.set_cons_zero, List.set_cons_succ]
                    refine wpAnyH_take (i := 10) (v := ?_) (List.getElem?_toArray.trans (List.getElem?_cons_succ.trans (List.getElem?_cons_succ.trans (List.getElem?_cons_succ.trans (List.getElem?_cons_succ.trans (List.getElem?_cons_succ.trans (List.getElem?_cons_succ.trans (List.getElem?_cons_succ.trans (List.getElem?_cons_succ.trans (List.getElem?_cons_succ.trans (List.getElem?_cons_succ.trans (List.getElem?_cons_zero)))))))))))) (by kernel_rfl) (by kernel_rfl) (by kernel_rfl) (fun _ _ _ h => h) (Or.inl ⟨by rfl, ?_⟩) (by assumption) ?_
                    rotate_left
                    · intro w' hSw; (try dsimp only at hSw); go_simp; try with_reducible rfl
                    try simp only [Act.put, List.setIfInBounds_toArray, List.set_cons_zero, List.set_cons_succ]
                    refine wpAnyH_take (i := 11) (v := ?_) (List.getElem?_toArray.trans (List.getElem?_cons_succ.trans (List.getElem?_cons_succ.trans (List.getElem?_cons_succ.trans (List.getElem?_cons_succ.trans (List.getElem?_cons_succ.trans (List.getElem?_cons_succ.trans (List.getElem?_cons_succ.trans (List.getElem?_cons_succ.trans (List.getElem?_cons_succ.trans (List.getElem?_cons_succ.trans (List.getElem?_cons_succ.trans (List.getElem?_cons_zero))))))))))))) (by kernel_rfl) (by kernel_rfl) (by kernel_rfl) (fun _ _ _ h => h) (Or.inl ⟨by rfl, ?_⟩) (by assumption) ?_
                    rotate_left
                    · intro w' hSw; (try dsimp only at hSw); go_simp; try with_reducible rfl
                    try simp only [Act.put, List.setIfInBounds_toArray, List.set_cons_zero, List.set_cons_succ]
                    refine wpAnyH_ready (rs := [5]) (by kernel_rfl) (by simp) ?_
                    refine AllReadyH.cons (List.getElem?_toArray.trans (List.getElem?_cons_succ.trans (List.getElem?_cons_succ.trans (List.getElem?_cons_succ.trans (List.getElem?_cons_succ.trans (List.getElem?_cons_succ.trans (List.getElem?_cons_zero))))))) (fun K hK => ?_) AllReadyH.nil
                    go_simp
                    refine (HSec.out _).mono ?_
                    rintro e w7 ⟨v7, rfl, hown7, hb7⟩
                    obtain ⟨A7, c7, rfl, _, hA7⟩ := Held.own hown7 HTd.out.d.lt
                    have HT7 := Lib.hid (HTd.out.below hb7)
                    have hS7 : (fun w' : World => w'.cell? ⟨gl, 1, none⟩ = some (.int .i64 pa) ∧ w'.cell? ⟨gl, 3, none⟩ = some (.int .u8 (fl : Int))) w7 := ⟨(hb7.cell (p := ⟨gl, 1, none⟩) hlt6).trans hca6, (hb7.cell (p := ⟨gl, 3, none⟩) hlt6).trans hcf6⟩
                    have hlt7 : gl < w7.heap.size := Nat.lt_of_lt_of_le hlt6 hb7.size
                    have HA7 := Lib.hid hA7
                    rw [HRel.out.2.2.2]
                    clear hown7 hb7 hA7
                    refine hK.out _ _ hS7 (fun hHeld => ?_)
                    clear hK K
                    try simp only [Act.put, List.setIfInBounds_toArray, List.set_cons_zero, List.set_cons_succ]
                    refine wpAnyH_ready (rs := [6]) (by kernel_rfl) (by simp) ?_
                    refine AllReadyH.cons (List.getElem?_toArray.trans (List.getElem?_cons_succ.trans (List.getElem?_cons_succ.trans (List.getElem?_cons_succ.trans (List.getElem?_cons_succ.trans (List.getElem?_cons_succ.trans (List.getElem?_cons_succ.trans (List.getElem?_cons_zero)))))))) (fun K hK => ?_) AllReadyH.nil
                    go_simp
                    have hw7 := dkWrite w7 gd F md HT7.out.d (by have := HI.out.2.1.few; omega) pa A7 bb c7 HA7.out.1 HA7.out.2
                    rw [HRel.out.2.2.2, HRel.out.2.1] at hw7
                    refine hw7.mono ?_
                    rintro e w8 ⟨rfl, F8, h8, hk8, hs8⟩
                    have HT8 := Lib.hid (HT7.out.onD h8 hk8 hs8)
                    have hS8 : (fun w' : World => w'.cell? ⟨gl, 1, none⟩ = some (.int .i64 pa) ∧ w'.cell? ⟨gl, 3, none⟩ = some (.int .u8 (fl : Int))) w8 := ⟨(World.cell?_of_block (hk8.block gl hlt7 (fun hg => HI.out.2.2.1 gl hg rfl))).trans hS7.1, (World.cell?_of_block (hk8.block gl hlt7 (fun hg => HI.out.2.2.1 gl hg rfl))).trans hS7.2⟩
                    have hlt8 : gl < w8.heap.size := Nat.lt_of_lt_of_le hlt7 hk8.size
                    clear hw7 h8 hk8 hs8
                    refine hK.out _ _ hS8 (fun hHeld => ?_)
                    clear hK K
                    try simp only [Act.put, List.setIfInBounds_toArray, List.set_cons_zero, List.set_cons_succ]
                    refine wpAnyH_ready (rs := [12]) (by kernel_rfl) (by simp) ?_
                    refine AllReadyH.cons (List.getElem?_toArray.trans (List.getElem?_cons_succ.trans (List.getElem?_cons_succ.trans (List.getElem?_cons_succ.trans (List.getElem?_cons_succ.trans (List.getElem?_cons_succ.trans (List.getElem?_cons_succ.trans (List.getElem?_cons_succ.trans (List.getElem?_cons_succ.trans (List.getElem?_cons_succ.trans (List.getElem?_cons_succ.trans (List.getElem?_cons_succ.trans (List.getElem?_cons_succ.trans (List.getElem?_cons_zero)))))))))))))) (fun K hK => ?_) AllReadyH.nil
                    go_simp
                    refine (HSec.out w8).mono ?_
                    rintro e w9 ⟨v9, rfl, hown9, hb9⟩
                    obtain ⟨A9, c9, rfl, _, hA9⟩ := Held.own hown9 HT8.out.x.lt
                    have HT9 := Lib.hid (HT8.out.below hb9)
                    have hS9 : (fun w' : World => w'.cell? ⟨gl, 1, none⟩ = some (.int .i64 pa) ∧ w'.cell? ⟨gl, 3, none⟩ = some (.int .u8 (fl : Int))) w9 := ⟨(hb9.cell (p := ⟨gl, 1, none⟩) hlt8).trans hS8.1, (hb9.cell (p := ⟨gl, 3, none⟩) hlt8).trans hS8.2⟩
                    have hlt9 : gl < w9.heap.size := Nat.lt_of_lt_of_le hlt8 hb9.size
                    have HA9 := Lib.hid hA9
                    rw [HRel.out.2.2.2]
                    clear hown9 hb9 hA9
                    refine hK.out _ _ hS9 (fun hHeld => ?_)
                    clear hK K
                    try simp only [Act.put, List.setIfInBounds_toArray, List.set_cons_zero, List.set_cons_succ]
                    refine wpAnyH_ready (rs := [13]) (by kernel_rfl) (by simp) ?_
                    refine AllReadyH.cons (List.getElem?_toArray.trans (List.getElem?_cons_succ.trans (List.getElem?_cons_succ.trans (List.getElem?_cons_succ.trans (List.getElem?_cons_succ.trans (List.getElem?_cons_succ.trans (List.getElem?_cons_succ.trans (List.getElem?_cons_succ.trans (List.getElem?_cons_succ.trans (List.getElem?_cons_succ.trans (List.getElem?_cons_succ.trans (List.getElem?_cons_succ.trans (List.getElem?_cons_succ.trans (List.getElem?_cons_succ.trans (List.getElem?_cons_zero))))))))))))))) (fun K hK => ?_) AllReadyH.nil
                    go_simp
                    have hw9 := dkWrite w9 gx G mx HT9.out.x (by have h1 := HI.out.2.1.waits; have h2 := HI.out.2.1.few; rw [← h1]; omega) pa A9 bb c9 HA9.out.1 HA9.out.2
                    rw [HRel.out.2.2.2, HRel.out.2.2.1] at hw9
                    refine hw9.mono ?_
                    rintro e w10 ⟨rfl, G10, h10, hk10, hs10⟩
                    have HT10 := Lib.hid (HT9.out.onX h10 hk10 hs10)
                    have hS10 : (fun w' : World => w'.cell? ⟨gl, 1, none⟩ = some (.int .i64 pa) ∧ w'.cell? ⟨gl, 3, none⟩ = some (.int .u8 (fl : Int))) w10 := ⟨(World.cell?_of_block (hk10.block gl hlt9 (fun hg => HI.out.2.2.2.1 gl hg rfl))).trans hS9.1, (World.cell?_of_block (hk10.block gl hlt9 (fun hg => HI.out.2.2.2.1 gl hg rfl))).trans hS9.2⟩
                    clear hw9 h10 hk10 hs10
                    refine hK.out _ _ hS10 (fun hHeld => ?_)
                    clear hK K
                    try simp only [Act.put, List.setIfInBounds_toArray, List.set_cons_zero, List.set_cons_succ]
                    refine wpAnyH_take (i := 14) (v := ?_) (List.getElem?_toArray.trans (List.getElem?_cons_succ.trans (List.getElem?_cons_succ.trans (List.getElem?_cons_succ.trans (List.getElem?_cons_succ.trans (List.getElem?_cons_succ.trans (List.getElem?_cons_succ.trans (List.getElem?_cons_succ.trans (List.getElem?_cons_succ.trans (List.getElem?_cons_succ.trans (List.getElem?_cons_succ.trans (List.getElem?_cons_succ.trans (List.getElem?_cons_succ.trans (List.getElem?_cons_succ.trans (List.getElem?_cons_succ.trans (List.getElem?_cons_zero)))))))))))))))) (by kernel_rfl) (by kernel_rfl) (by kernel_rfl) (fun _ _ _ h => h) (Or.inl ⟨by rfl, ?_⟩) (by assumption) ?_
                    rotate_left
                    · intro w' hSw; (try dsimp only at hSw); go_simp; try with_reducible rfl
                    try simp only [Act.put, List.setIfInBounds_toArray, List.set_cons_zero, List.set_cons_succ]
                    refine wpAnyH_take (i := 15) (v := ?_) (List.getElem?_toArray.trans (List.getElem?_cons_succ.trans (List.getElem?_cons_succ.trans (List.getElem?_cons_succ.trans (List.getElem?_cons_succ.trans (List.getElem?_cons_succ.trans (List.getElem?_cons_succ.trans (List.getElem?_cons_succ.trans (List.getElem?_cons_succ.trans (List.getElem?_cons_succ.trans (List.getElem?_cons_succ.trans (List.getElem?_cons_succ.trans (List.getElem?_cons_succ.trans (List.getElem?_cons_succ.trans (List.getElem?_cons_succ.trans (List.getElem?_cons_succ.trans (List.getElem?_cons_zero))))))))))))))))) (by kernel_rfl) (by kernel_rfl) (by kernel_rfl) (fun _ _ _ h => h) (Or.inl ⟨by rfl, ?_⟩) (by assumption) ?_
                    rotate_left
                    · intro w' hSw; (try dsimp only at hSw); go_simp; try with_reducible rfl
                    try simp only [Act.put, List.setIfInBounds_toArray, List.set_cons_zero, List.set_cons_succ]
                    refine wpAnyH_done (by kernel_rfl) ?_ _
                    go_wp2_with fail
                    go_meet
                    case rel => exact ⟨nn, F8, G10, _, _, rfl, rfl, HT10.out, HRel.out.1⟩
                · have hge : ¬ pa ≥ 0 := hp1
                  have hbo := fun b hb => both_write2 HI.out.2.1 (p := pa) (.inl (by omega)) b hb
                  subst h0
                  have HT6 := Lib.hid HI.out.1
                  have hca6 := hca
                  have hcf6 := hcf
                  have hlt6 : gl < w5.heap.size := HI.out.2.2.2.2.1.lt
                  go_wp2_with fail
                  obtain ⟨bb, ebb⟩ : ∃ x : List UInt8, x = List.replicate 64 a.fill := ⟨_, rfl⟩
                  have hbb : bb.length = 64 := by rw [ebb]; simp
                  have HSec : ∀ w : World, Calls Try.prog 20 #[.int .u8 (fl : Int), .int .i64 0] w (OwnPost w bb) := fun w => by
                    rw [← HAt.out.2.2, ebb]
                    exact sector_any w a.fill 0
                  have HSec := Lib.hid HSec
                  obtain ⟨nn, e1, e2, hrel⟩ := (hbo bb hbb)
                  have HRel := Lib.hid (And.intro hrel (And.intro e1 (And.intro e2 hbb)))
                  clear ebb hbb hrel e1 e2
                  have ht6 := HT6.out.below ((Below.refl w5.heap.size w5).drew)
                  have HTd := Lib.hid ht6
                  clear ht6
                  have hS0 : (fun w' : World => w'.cell? ⟨gl, 1, none⟩ = some (.int .i64 pa) ∧ w'.cell? ⟨gl, 3, none⟩ = some (.int .u8 (fl : Int))) w5.drew := ⟨hca6, hcf6⟩
                  refine wp_region_held_drew (S := fun w' => w'.cell? ⟨gl, 1, none⟩ = some (.int .i64 pa) ∧ w'.cell? ⟨gl, 3, none⟩ = some (.int .u8 (fl : Int))) (by kernel_rfl) hS0 (fun hHeld => ?_)
                  refine wpAnyH_take (i := 0) (v := ?_) (List.getElem?_toArray.trans (List.getElem?_cons_zero)) (by kernel_rfl) (by kernel_rfl) (by kernel_rfl) (fun _ _ _ h => h) (Or.inl ⟨by rfl, ?_⟩) (by assumption) ?_
                  rotate_left
                  · intro w' hSw; (try dsimp only at hSw); go_simp; try with_reducible rfl
                  try simp only [Act.put, List.setIfInBounds_toArray, List.set_cons_zero, List.set_cons_succ]
                  refine wpAnyH_take (i := 1) (v := ?_) (List.getElem?_toArray.trans (List.getElem?_cons_succ.trans (List.getElem?_cons_zero))) (by kernel_rfl) (by kernel_rfl) (by kernel_rfl) (fun _ _ _ h => h) (Or.inl ⟨by rfl, ?_⟩) (by assumption) ?_
                  rotate_left
                  · intro w' hSw; (try dsimp only at hSw); go_simp; try with_reducible rfl
                  try simp only [Act.put, List.setIfInBounds_toArray, List.set_cons_zero, List.set_cons_succ]
                  refine wpAnyH_take (i := 2) (v := ?_) (List.getElem?_toArray.trans (List.getElem?_cons_succ.trans (List.getElem?_cons_succ.trans (List.getElem?_cons_zero)))) (by kernel_rfl) (by kernel_rfl) (by kernel_rfl) (fun _ _ _ h => h) (Or.inl ⟨by rfl, ?_⟩) (by assumption) ?_
                  rotate_left
                  · intro w' hSw; (try dsimp only at hSw); go_simp; try with_reducible rfl
                  try simp only [Act.put, List.setIfInBounds_toArray, List.set_cons_zero, List.set_cons_succ]
                  refine wpAnyH_take (i := 3) (v := ?_) (List.getElem?_toArray.trans (List.getElem?_cons_succ.trans (List.getElem?_cons_succ.trans (List.getElem?_cons_succ.trans (List.getElem?_cons_zero))))) (by kernel_rfl) (by kernel_rfl) (by kernel_rfl) (fun _ _ _ h => h) (Or.inl ⟨by rfl, ?_⟩) (by assumption) ?_
                  rotate_left
                  · intro w' hSw; (try dsimp only at hSw); go_simp; try with_reducible rfl
                  try simp only [Act.put, List.setIfInBounds_toArray, List.set_cons_zero, List.set_cons_succ]
                  refine wpAnyH_take (i := 4) (v := ?_) (List.getElem?_toArray.trans (List.getElem?_cons_succ.trans (List.getElem?_cons_succ.trans (List.getElem?_cons_succ.trans (List.getElem?_cons_succ.trans (List.getElem?_cons_zero)))))) (by kernel_rfl) (by kernel_rfl) (by kernel_rfl) (fun _ _ _ h => h) (Or.inl ⟨by rfl, ?_⟩) (by assumption) ?_
                  rotate_left
                  · intro w' hSw; (try dsimp only at hSw); go_simp; try with_reducible rfl
                  try simp only [Act.put, List.setIfInBounds_toArray, List.set_cons_zero, List.set_cons_succ]
                  refine wpAnyH_take (i := 7) (v := ?_) (List.getElem?_toArray.trans (List.getElem?_cons_succ.trans (List.getElem?_cons_succ.trans (List.getElem?_cons_succ.trans (List.getElem?_cons_succ.trans (List.getElem?_cons_succ.trans (List.getElem?_cons_succ.trans (List.getElem?_cons_succ.trans (List.getElem?_cons_zero))))))))) (by kernel_rfl) (by kernel_rfl) (by kernel_rfl) (fun _ _ _ h => h) (Or.inl ⟨by rfl, ?_⟩) (by assumption) ?_
                  rotate_left
                  · intro w' hSw; (try dsimp only at hSw); go_simp; try with_reducible rfl
                  try simp only [Act.put, List.setIfInBounds_toArray, List.set_cons_zero, List.set_cons_succ]
                  refine wpAnyH_take (i := 8) (v := ?_) (List.getElem?_toArray.trans (List.getElem?_cons_succ.trans (List.getElem?_cons_succ.trans (List.getElem?_cons_succ.trans (List.getElem?_cons_succ.trans (List.getElem?_cons_succ.trans (List.getElem?_cons_succ.trans (List.getElem?_cons_succ.trans (List.getElem?_cons_succ.trans (List.getElem?_cons_zero)))))))))) (by kernel_rfl) (by kernel_rfl) (by kernel_rfl) (fun _ _ _ h => h) (Or.inl ⟨by rfl, ?_⟩) (by assumption) ?_
                  rotate_left
                  · intro w' hSw; (try dsimp only at hSw); go_simp; try with_reducible rfl
                  try simp only [Act.put, List.setIfInBounds_toArray, List.set_cons_zero, List.set_cons_succ]
                  refine wpAnyH_take (i := 9) (v := ?_) (List.getElem?_toArray.trans (List.getElem?_cons_succ.trans (List.getElem?_cons_succ.trans (List.getElem?_cons_succ.trans (List.getElem?_cons_succ.trans (List.getElem?_cons_succ.trans (List.getElem?_cons_succ.trans (List.getElem?_cons_succ.trans (List.getElem?_cons_succ.trans (List.getElem?_cons_succ.trans (List.getElem?_cons_zero))))))))))) (by kernel_rfl) (by kernel_rfl) (by kernel_rfl) (fun _ _ _ h => h) (Or.inl ⟨by rfl, ?_⟩) (by assumption) ?_
                  rotate_left
                  · intro w' hSw; (try dsimp only at hSw); go_simp; try with_reducible rfl
                  try simp only [Act.put, List.setIfInBounds_toArray, List.set_cons_zero, List.set_cons_succ]
                  refine wpAnyH_take (i := 10) (v := ?_) (List.getElem?_toArray.trans (List.getElem?_cons_succ.trans (List.getElem?_cons_succ.trans (List.getElem?_cons_succ.trans (List.getElem?_cons_succ.trans (List.getElem?_cons_succ.trans (List.getElem?_cons_succ.trans (List.getElem?_cons_succ.trans (List.getElem?_cons_succ.trans (List.getElem?_cons_succ.trans (List.getElem?_cons_succ.trans (List.getElem?_cons_zero)))))))))))) (by kernel_rfl) (by kernel_rfl) (by kernel_rfl) (fun _ _ _ h => h) (Or.inl ⟨by rfl, ?_⟩) (by assumption) ?_
                  rotate_left
                  · intro w' hSw; (try dsimp only at hSw); go_simp; try with_reducible rfl
                  try simp only [Act.put, List.setIfInBounds_toArray, List.set_cons_zero, List.set_cons_succ]
                  refine wpAnyH_take (i := 11) (v := ?_) (List.getElem?_toArray.trans (List.getElem?_cons_succ.trans (List.getElem?_cons_succ.trans (List.getElem?_cons_succ.trans (List.getElem?_cons_succ.trans (List.getElem?_cons_succ.trans (List.getElem?_cons_succ.trans (List.getElem?_cons_succ.trans (List.getElem?_cons_succ.trans (List.getElem?_cons_succ.trans (List.getElem?_cons_succ.trans (List.getElem?_cons_succ.trans (List.getElem?_cons_zero))))))))))))) (by kernel_rfl) (by kernel_rfl) (by kernel_rfl) (fun _ _ _ h => h) (Or.inl ⟨by rfl, ?_⟩) (by assumption) ?_
                  rotate_left
                  · intro w' hSw; (try dsimp only at hSw); go_simp; try with_reducible rfl
                  try simp only [Act.put, List.setIfInBounds_toArray, List.set_cons_zero, List.set_cons_succ]
                  refine wpAnyH_ready (rs := [5]) (by kernel_rfl) (by simp) ?_
                  refine AllReadyH.cons (List.getElem?_toArray.trans (List.getElem?_cons_succ.trans (List.getElem?_cons_succ.trans (List.getElem?_cons_succ.trans (List.getElem?_cons_succ.trans (List.getElem?_cons_succ.trans (List.getElem?_cons_zero))))))) (fun K hK => ?_) AllReadyH.nil
                  go_simp
                  refine (HSec.out _).mono ?_
                  rintro e w7 ⟨v7, rfl, hown7, hb7⟩
                  obtain ⟨A7, c7, rfl, _, hA7⟩ := Held.own hown7 HTd.out.d.lt
                  have HT7 := Lib.hid (HTd.out.below hb7)
                  have hS7 : (fun w' : World => w'.cell? ⟨gl, 1, none⟩ = some (.int .i64 pa) ∧ w'.cell? ⟨gl, 3, none⟩ = some (.int .u8 (fl : Int))) w7 := ⟨(hb7.cell (p := ⟨gl, 1, none⟩) hlt6).trans hca6, (hb7.cell (p := ⟨gl, 3, none⟩) hlt6).trans hcf6⟩
                  have hlt7 : gl < w7.heap.size := Nat.lt_of_lt_of_le hlt6 hb7.size
                  have HA7 := Lib.hid hA7
                  rw [HRel.out.2.2.2]
                  clear hown7 hb7 hA7
                  refine hK.out _ _ hS7 (fun hHeld => ?_)
                  clear hK K
                  try simp only [Act.put, List.setIfInBounds_toArray, List.set_cons_zero, List.set_cons_succ]
                  refine wpAnyH_ready (rs := [6]) (by kernel_rfl) (by simp) ?_
                  refine AllReadyH.cons (List.getElem?_toArray.trans (List.getElem?_cons_succ.trans (List.getElem?_cons_succ.trans (List.getElem?_cons_succ.trans (List.getElem?_cons_succ.trans (List.getElem?_cons_succ.trans (List.getElem?_cons_succ.trans (List.getElem?_cons_zero)))))))) (fun K hK => ?_) AllReadyH.nil
                  go_simp
                  have hw7 := dkWrite w7 gd F md HT7.out.d (by have := HI.out.2.1.few; omega) pa A7 bb c7 HA7.out.1 HA7.out.2
                  rw [HRel.out.2.2.2, HRel.out.2.1] at hw7
                  refine hw7.mono ?_
                  rintro e w8 ⟨rfl, F8, h8, hk8, hs8⟩
                  have HT8 := Lib.hid (HT7.out.onD h8 hk8 hs8)
                  have hS8 : (fun w' : World => w'.cell? ⟨gl, 1, none⟩ = some (.int .i64 pa) ∧ w'.cell? ⟨gl, 3, none⟩ = some (.int .u8 (fl : Int))) w8 := ⟨(World.cell?_of_block (hk8.block gl hlt7 (fun hg => HI.out.2.2.1 gl hg rfl))).trans hS7.1, (World.cell?_of_block (hk8.block gl hlt7 (fun hg => HI.out.2.2.1 gl hg rfl))).trans hS7.2⟩
                  have hlt8 : gl < w8.heap.size := Nat.lt_of_lt_of_le hlt7 hk8.size
                  clear hw7 h8 hk8 hs8
                  refine hK.out _ _ hS8 (fun hHeld => ?_)
                  clear hK K
                  try simp only [Act.put, List.setIfInBounds_toArray, List.set_cons_zero, List.set_cons_succ]
                  refine wpAnyH_ready (rs := [12]) (by kernel_rfl) (by simp) ?_
                  refine AllReadyH.cons (List.getElem?_toArray.trans (List.getElem?_cons_succ.trans (List.getElem?_cons_succ.trans (List.getElem?_cons_succ.trans (List.getElem?_cons_succ.trans (List.getElem?_cons_succ.trans (List.getElem?_cons_succ.trans (List.getElem?_cons_succ.trans (List.getElem?_cons_succ.trans (List.getElem?_cons_succ.trans (List.getElem?_cons_succ.trans (List.getElem?_cons_succ.trans (List.getElem?_cons_succ.trans (List.getElem?_cons_zero)))))))))))))) (fun K hK => ?_) AllReadyH.nil
                  go_simp
                  refine (HSec.out w8).mono ?_
                  rintro e w9 ⟨v9, rfl, hown9, hb9⟩
                  obtain ⟨A9, c9, rfl, _, hA9⟩ := Held.own hown9 HT8.out.x.lt
                  have HT9 := Lib.hid (HT8.out.below hb9)
                  have hS9 : (fun w' : World => w'.cell? ⟨gl, 1, none⟩ = some (.int .i64 pa) ∧ w'.cell? ⟨gl, 3, none⟩ = some (.int .u8 (fl : Int))) w9 := ⟨(hb9.cell (p := ⟨gl, 1, none⟩) hlt8).trans hS8.1, (hb9.cell (p := ⟨gl, 3, none⟩) hlt8).trans hS8.2⟩
                  have hlt9 : gl < w9.heap.size := Nat.lt_of_lt_of_le hlt8 hb9.size
                  have HA9 := Lib.hid hA9
                  rw [HRel.out.2.2.2]
                  clear hown9 hb9 hA9
                  refine hK.out _ _ hS9 (fun hHeld => ?_)
                  clear hK K
                  try simp only [Act.put, List.setIfInBounds_toArray, List.set_cons_zero, List.set_cons_succ]
                  refine wpAnyH_ready (rs := [13]) (by kernel_rfl) (by simp) ?_
                  refine AllReadyH.cons (List.getElem?_toArray.trans (List.getElem?_cons_succ.trans (List.getElem?_cons_succ.trans (List.getElem?_cons_succ.trans (List.getElem?_cons_succ.trans (List.getElem?_cons_succ.trans (List.getElem?_cons_succ.trans (List.getElem?_cons_succ.trans (List.getElem?_cons_succ.trans (List.getElem?_cons_succ.trans (List.getElem?_cons_succ.trans (List.getElem?_cons_succ.trans (List.getElem?_cons_succ.trans (List.getElem?_cons_succ.trans (List.getElem?_cons_zero))))))))))))))) (fun K hK => ?_) AllReadyH.nil
                  go_simp
                  have hw9 := dkWrite w9 gx G mx HT9.out.x (by have h1 := HI.out.2.1.waits; have h2 := HI.out.2.1.few; rw [← h1]; omega) pa A9 bb c9 HA9.out.1 HA9.out.2
                  rw [HRel.out.2.2.2, HRel.out.2.2.1] at hw9
                  refine hw9.mono ?_
                  rintro e w10 ⟨rfl, G10, h10, hk10, hs10⟩
                  have HT10 := Lib.hid (HT9.out.onX h10 hk10 hs10)
                  have hS10 : (fun w' : World => w'.cell? ⟨gl, 1, none⟩ = some (.int .i64 pa) ∧ w'.cell? ⟨gl, 3, none⟩ = some (.int .u8 (fl : Int))) w10 := ⟨(World.cell?_of_block (hk10.block gl hlt9 (fun hg => HI.out.2.2.2.1 gl hg rfl))).trans hS9.1, (World.cell?_of_block (hk10.block gl hlt9 (fun hg => HI.out.2.2.2.1 gl hg rfl))).trans hS9.2⟩
                  clear hw9 h10 hk10 hs10
                  refine hK.out _ _ hS10 (fun hHeld => ?_)
                  clear hK K
                  try simp only [Act.put, List.setIfInBounds_toArray, List.set_cons_zero, List.set_cons_succ]
                  refine wpAnyH_take (i := 14) (v := ?_) (List.getElem?_toArray.trans (List.getElem?_cons_succ.trans (List.getElem?_cons_succ.trans (List.getElem?_cons_succ.trans (List.getElem?_cons_succ.trans (List.getElem?_cons_succ.trans (List.getElem?_cons_succ.trans (List.getElem?_cons_succ.trans (List.getElem?_cons_succ.trans (List.getElem?_cons_succ.trans (List.getElem?_cons_succ.trans (List.getElem?_cons_succ.trans (List.getElem?_cons_succ.trans (List.getElem?_cons_succ.trans (List.getElem?_cons_succ.trans (List.getElem?_cons_zero)))))))))))))))) (by kernel_rfl) (by kernel_rfl) (by kernel_rfl) (fun _ _ _ h => h) (Or.inl ⟨by rfl, ?_⟩) (by assumption) ?_
                  rotate_left
                  · intro w' hSw; (try dsimp only at hSw); go_simp; try with_reducible rfl
                  try simp only [Act.put, List.setIfInBounds_toArray, List.set_cons_zero, List.set_cons_succ]
                  refine wpAnyH_take (i := 15) (v := ?_) (List.getElem?_toArray.trans (List.getElem?_cons_succ.trans (List.getElem?_cons_succ.trans (List.getElem?_cons_succ.trans (List.getElem?_cons_succ.trans (List.getElem?_cons_succ.trans (List.getElem?_cons_succ.trans (List.getElem?_cons_succ.trans (List.getElem?_cons_succ.trans (List.getElem?_cons_succ.trans (List.getElem?_cons_succ.trans (List.getElem?_cons_succ.trans (List.getElem?_cons_succ.trans (List.getElem?_cons_succ.trans (List.getElem?_cons_succ.trans (List.getElem?_cons_succ.trans (List.getElem?_cons_zero))))))))))))))))) (by kernel_rfl) (by kernel_rfl) (by kernel_rfl) (fun _ _ _ h => h) (Or.inl ⟨by rfl, ?_⟩) (by assumption) ?_
                  rotate_left
                  · intro w' hSw; (try dsimp only at hSw); go_simp; try with_reducible rfl
                  try simp only [Act.put, List.setIfInBounds_toArray, List.set_cons_zero, List.set_cons_succ]
                  refine wpAnyH_done (by kernel_rfl) ?_ _
                  go_wp2_with fail
                  go_meet
                  case rel => exact ⟨nn, F8, G10, _, _, rfl, rfl, HT10.out, HRel.out.1⟩
              · have hbo := fun b hb => both_write1 HI.out.2.1 h0 pa b hb
                have HT6 := Lib.hid HI.out.1
                have hca6 := hca
                have hcf6 := hcf
                have hlt6 : gl < w5.heap.size := HI.out.2.2.2.2.1.lt
                go_wp2_with fail
                obtain ⟨bb, ebb⟩ : ∃ x : List UInt8, x = List.replicate 64 a.fill := ⟨_, rfl⟩
                have hbb : bb.length = 64 := by rw [ebb]; simp
                have HSec : ∀ w : World, Calls Try.prog 20 #[.int .u8 (fl : Int), .int .i64 0] w (OwnPost w bb) := fun w => by
                  rw [← HAt.out.2.2, ebb]
                  exact sector_any w a.fill 0
                have HSec := Lib.hid HSec
                obtain ⟨nn, e1, e2, hrel⟩ := (hbo bb hbb)
                have HRel := Lib.hid (And.intro hrel (And.intro e1 (And.intro e2 hbb)))
                clear ebb hbb hrel e1 e2
                have ht6 := HT6.out.below ((Below.refl w5.heap.size w5).drew)
                have HTd := Lib.hid ht6
                clear ht6
                have hS0 : (fun w' : World => w'.cell? ⟨gl, 1, none⟩ = some (.int .i64 pa) ∧ w'.cell? ⟨gl, 3, none⟩ = some (.int .u8 (fl : Int))) w5.drew := ⟨hca6, hcf6⟩
                refine wp_region_held_drew (S := fun w' => w'.cell? ⟨gl, 1, none⟩ = some (.int .i64 pa) ∧ w'.cell? ⟨gl, 3, none⟩ = some (.int .u8 (fl : Int))) (by kernel_rfl) hS0 (fun hHeld => ?_)
                refine wpAnyH_take (i := 0) (v := ?_) (List.getElem?_toArray.trans (List.getElem?_cons_zero)) (by kernel_rfl) (by kernel_rfl) (by kernel_rfl) (fun _ _ _ h => h) (Or.inl ⟨by rfl, ?_⟩) (by assumption) ?_
                rotate_left
                · intro w' hSw; (try dsimp only at hSw); go_simp; try with_reducible rfl
                try simp only [Act.put, List.setIfInBounds_toArray, List.set_cons_zero, List.set_cons_succ]
                refine wpAnyH_take (i := 1) (v := ?_) (List.getElem?_toArray.trans (List.getElem?_cons_succ.trans (List.getElem?_cons_zero))) (by kernel_rfl) (by kernel_rfl) (by kernel_rfl) (fun _ _ _ h => h) (Or.inl ⟨by rfl, ?_⟩) (by assumption) ?_
                rotate_left
                · intro w' hSw; (try dsimp only at hSw); go_simp; try with_reducible rfl
                try simp only [Act.put, List.setIfInBounds_toArray, List.set_cons_zero, List.set_cons_succ]
                refine wpAnyH_take (i := 2) (v := ?_) (List.getElem?_toArray.trans (List.getElem?_cons_succ.trans (List.getElem?_cons_succ.trans (List.getElem?_cons_zero)))) (by kernel_rfl) (by kernel_rfl) (by kernel_rfl) (fun _ _ _ h => h) (Or.inl ⟨by rfl, ?_⟩) (by assumption) ?_
                rotate_left
                · intro w' hSw; (try dsimp only at hSw); go_simp; try with_reducible rfl
                try simp only [Act.put, List.setIfInBounds_toArray, List.set_cons_zero, List.set_cons_succ]
                refine wpAnyH_take (i := 3) (v := ?_) (List.getElem?_toArray.trans (List.getElem?_cons_succ.trans (List.getElem?_cons_succ.trans (List.getElem?_cons_succ.trans (List.getElem?_cons_zero))))) (by kernel_rfl) (by kernel_rfl) (by kernel_rfl) (fun _ _ _ h => h) (Or.inl ⟨by rfl, ?_⟩) (by assumption) ?_
                rotate_left
                · intro w' hSw; (try dsimp only at hSw); go_simp; try with_reducible rfl
                try simp only [Act.put, List.setIfInBounds_toArray, List.set_cons_zero, List.set_cons_succ]
                refine wpAnyH_take (i := 4) (v := ?_) (List.getElem?_toArray.trans (List.getElem?_cons_succ.trans (List.getElem?_cons_succ.trans (List.getElem?_cons_succ.trans (List.getElem?_cons_succ.trans (List.getElem?_cons_zero)))))) (by kernel_rfl) (by kernel_rfl) (by kernel_rfl) (fun _ _ _ h => h) (Or.inl ⟨by rfl, ?_⟩) (by assumption) ?_
                rotate_left
                · intro w' hSw; (try dsimp only at hSw); go_simp; try with_reducible rfl
                try simp only [Act.put, List.setIfInBounds_toArray, List.set_cons_zero, List.set_cons_succ]
                refine wpAnyH_take (i := 7) (v := ?_) (List.getElem?_toArray.trans (List.getElem?_cons_succ.trans (List.getElem?_cons_succ.trans (List.getElem?_cons_succ.trans (List.getElem?_cons_succ.trans (List.getElem?_cons_succ.trans (List.getElem?_cons_succ.trans (List.getElem?_cons_succ.trans (List.getElem?_cons_zero))))))))) (by kernel_rfl) (by kernel_rfl) (by kernel_rfl) (fun _ _ _ h => h) (Or.inl ⟨by rfl, ?_⟩) (by assumption) ?_
                rotate_left
                · intro w' hSw; (try dsimp only at hSw); go_simp; try with_reducible rfl
                try simp only [Act.put, List.setIfInBounds_toArray, List.set_cons_zero, List.set_cons_succ]
                refine wpAnyH_take (i := 8) (v := ?_) (List.getElem?_toArray.trans (List.getElem?_cons_succ.trans (List.getElem?_cons_succ.trans (List.getElem?_cons_succ.trans (List.getElem?_cons_succ.trans (List.getElem?_cons_succ.trans (List.getElem?_cons_succ.trans (List.getElem?_cons_succ.trans (List.getElem?_cons_succ.trans (List.getElem?_cons_zero)))))))))) (by kernel_rfl) (by kernel_rfl) (by kernel_rfl) (fun _ _ _ h => h) (Or.inl ⟨by rfl, ?_⟩) (by assumption) ?_
                rotate_left
                · intro w' hSw; (try dsimp only at hSw); go_simp; try with_reducible rfl
                try simp only [Act.put, List.setIfInBounds_toArray, List.set_cons_zero, List.set_cons_succ]
                refine wpAnyH_take (i := 9) (v := ?_) (List.getElem?_toArray.trans (List.getElem?_cons_succ.trans (List.getElem?_cons_succ.trans (List.getElem?_cons_succ.trans (List.getElem?_cons_succ.trans (List.getElem?_cons_succ.trans (List.getElem?_cons_succ.trans (List.getElem?_cons_succ.trans (List.getElem?_cons_succ.trans (List.getElem?_cons_succ.trans (List.getElem?_cons_zero))))))))))) (by kernel_rfl) (by kernel_rfl) (by kernel_rfl) (fun _ _ _ h => h) (Or.inl ⟨by rfl, ?_⟩) (by assumption) ?_
                rotate_left
                · intro w' hSw; (try dsimp only at hSw); go_simp; try with_reducible rfl
                try simp only [Act.put, List.setIfInBounds_toArray, List.set_cons_zero, List.set_cons_succ]
                refine wpAnyH_take (i := 10) (v := ?_) (List.getElem?_toArray.trans (List.getElem?_cons_succ.trans (List.getElem?_cons_succ.trans (List.getElem?_cons_succ.trans (List.getElem?_cons_succ.trans (List.getElem?_cons_succ.trans (List.getElem?_cons_succ.trans (List.getElem?_cons_succ.trans (List.getElem?_cons_succ.trans (List.getElem?_cons_succ.trans (List.getElem?_cons_succ.trans (List.getElem?_cons_zero)))))))))))) (by kernel_rfl) (by kernel_rfl) (by kernel_rfl) (fun _ _ _ h => h) (Or.inl ⟨by rfl, ?_⟩) (by assumption) ?_
                rotate_left
                · intro w' hSw; (try dsimp only at hSw); go_simp; try with_reducible rfl
                try simp only [Act.put, List.setIfInBounds_toArray, List.set_cons_zero, List.set_cons_succ]
                refine wpAnyH_take (i := 11) (v := ?_) (List.getElem?_toArray.trans (List.getElem?_cons_succ.trans (List.getElem?_cons_succ.trans (List.getElem?_cons_succ.trans (List.getElem?_cons_succ.trans (List.getElem?_cons_succ.trans (List.getElem?_cons_succ.trans (List.getElem?_cons_succ.trans (List.getElem?_cons_succ.trans (List.getElem?_cons_succ.trans (List.getElem?_cons_succ.trans (List.getElem?_cons_succ.trans (List.getElem?_cons_zero))))))))))))) (by kernel_rfl) (by kernel_rfl) (by kernel_rfl) (fun _ _ _ h => h) (Or.inl ⟨by rfl, ?_⟩) (by assumption) ?_
                rotate_left
                · intro w' hSw; (try dsimp only at hSw); go_simp; try with_reducible rfl
                try simp only [Act.put, List.setIfInBounds_toArray, List.set_cons_zero, List.set_cons_succ]
                refine wpAnyH_ready (rs := [5]) (by kernel_rfl) (by simp) ?_
                refine AllReadyH.cons (List.getElem?_toArray.trans (List.getElem?_cons_succ.trans (List.getElem?_cons_succ.trans (List.getElem?_cons_succ.trans (List.getElem?_cons_succ.trans (List.getElem?_cons_succ.trans (List.getElem?_cons_zero))))))) (fun K hK => ?_) AllReadyH.nil
                go_simp
                refine (HSec.out _).mono ?_
                rintro e w7 ⟨v7, rfl, hown7, hb7⟩
                obtain ⟨A7, c7, rfl, _, hA7⟩ := Held.own hown7 HTd.out.d.lt
                have HT7 := Lib.hid (HTd.out.below hb7)
                have hS7 : (fun w' : World => w'.cell? ⟨gl, 1, none⟩ = some (.int .i64 pa) ∧ w'.cell? ⟨gl, 3, none⟩ = some (.int .u8 (fl : Int))) w7 := ⟨(hb7.cell (p := ⟨gl, 1, none⟩) hlt6).trans hca6, (hb7.cell (p := ⟨gl, 3, none⟩) hlt6).trans hcf6⟩
                have hlt7 : gl < w7.heap.size := Nat.lt_of_lt_of_le hlt6 hb7.size
                have HA7 := Lib.hid hA7
                rw [HRel.out.2.2.2]
                clear hown7 hb7 hA7
                refine hK.out _ _ hS7 (fun hHeld => ?_)
                clear hK K
                try simp only [Act.put, List.setIfInBounds_toArray, List.set_cons_zero, List.set_cons_succ]
                refine wpAnyH_ready (rs := [6]) (by kernel_rfl) (by simp) ?_
                refine AllReadyH.cons (List.getElem?_toArray.trans (List.getElem?_cons_succ.trans (List.getElem?_cons_succ.trans (List.getElem?_cons_succ.trans (List.getElem?_cons_succ.trans (List.getElem?_cons_succ.trans (List.getElem?_cons_succ.trans (List.getElem?_cons_zero)))))))) (fun K hK => ?_) AllReadyH.nil
                go_simp
                have hw7 := dkWrite w7 gd F md HT7.out.d (by have := HI.out.2.1.few; omega) pa A7 bb c7 HA7.out.1 HA7.out.2
                rw [HRel.out.2.2.2, HRel.out.2.1] at hw7
                refine hw7.mono ?_
                rintro e w8 ⟨rfl, F8, h8, hk8, hs8⟩
                have HT8 := Lib.hid (HT7.out.onD h8 hk8 hs8)
                have hS8 : (fun w' : World => w'.cell? ⟨gl, 1, none⟩ = some (.int .i64 pa) ∧ w'.cell? ⟨gl, 3, none⟩ = some (.int .u8 (fl : Int))) w8 := ⟨(World.cell?_of_block (hk8.block gl hlt7 (fun hg => HI.out.2.2.1 gl hg rfl))).trans hS7.1, (World.cell?_of_block (hk8.block gl hlt7 (fun hg => HI.out.2.2.1 gl hg rfl))).trans hS7.2⟩
                have hlt8 : gl < w8.heap.size := Nat.lt_of_lt_of_le hlt7 hk8.size
                clear hw7 h8 hk8 hs8
                refine hK.out _ _ hS8 (fun hHeld => ?_)
                clear hK K
                try simp only [Act.put, List.setIfInBounds_toArray, List.set_cons_zero, List.set_cons_succ]
                refine wpAnyH_ready (rs := [12]) (by kernel_rfl) (by simp) ?_
                refine AllReadyH.cons (List.getElem?_toArray.trans (List.getElem?_cons_succ.trans (List.getElem?_cons_succ.trans (List.getElem?_cons_succ.trans (List.getElem?_cons_succ.trans (List.getElem?_cons_succ.trans (List.getElem?_cons_succ.trans (List.getElem?_cons_succ.trans (List.getElem?_cons_succ.trans (List.getElem?_cons_succ.trans (List.getElem?_cons_succ.trans (List.getElem?_cons_succ.trans (List.getElem?_cons_succ.trans (List.getElem?_cons_zero)))))))))))))) (fun K hK => ?_) AllReadyH.nil
                go_simp
                refine (HSec.out w8).mono ?_
                rintro e w9 ⟨v9, rfl, hown9, hb9⟩
                obtain ⟨A9, c9, rfl, _, hA9⟩ := Held.own hown9 HT8.out.x.lt
                have HT9 := Lib.hid (HT8.out.below hb9)
                have hS9 : (fun w' : World => w'.cell? ⟨gl, 1, none⟩ = some (.int .i64 pa) ∧ w'.cell? ⟨gl, 3, none⟩ = some (.int .u8 (fl : Int))) w9 := ⟨(hb9.cell (p := ⟨gl, 1, none⟩) hlt8).trans hS8.1, (hb9.cell (p := ⟨gl, 3, none⟩) hlt8).trans hS8.2⟩
                have hlt9 : gl < w9.heap.size := Nat.lt_of_lt_of_le hlt8 hb9.size
                have HA9 := Lib.hid hA9
                rw [HRel.out.2.2.2]
                clear hown9 hb9 hA9
                refine hK.out _ _ hS9 (fun hHeld => ?_)
                clear hK K
                try simp only [Act.put, List.setIfInBounds_toArray, List.set_cons_zero, List.set_cons_succ]
                refine wpAnyH_ready (rs := [13]) (by kernel_rfl) (by simp) ?_
                refine AllReadyH.cons (List.getElem?_toArray.trans (List.getElem?_cons_succ.trans (List.getElem?_cons_succ.trans (List.getElem?_cons_succ.trans (List.getElem?_cons_succ.trans (List.getElem?_cons_succ.trans (List.getElem?_cons_succ.trans (List.getElem?_cons_succ.trans (List.getElem?_cons_succ.trans (List.getElem?_cons_succ.trans (List.getElem?_cons_succ.trans (List.getElem?_cons_succ.trans (List.getElem?_cons_succ.trans (List.getElem?_cons_succ.trans (List.getElem?_cons_zero))))))))))))))) (fun K hK => ?_) AllReadyH.nil
                go_simp
                have hw9 := dkWrite w9 gx G mx HT9.out.x (by have h1 := HI.out.2.1.waits; have h2 := HI.out.2.1.few; rw [← h1]; omega) pa A9 bb c9 HA9.out.1 HA9.out.2
                rw [HRel.out.2.2.2, HRel.out.2.2.1] at hw9
                refine hw9.mono ?_
                rintro e w10 ⟨rfl, G10, h10, hk10, hs10⟩
                have HT10 := Lib.hid (HT9.out.onX h10 hk10 hs10)
                have hS10 : (fun w' : World => w'.cell? ⟨gl, 1, none⟩ = some (.int .i64 pa) ∧ w'.cell? ⟨gl, 3, none⟩ = some (.int .u8 (fl : Int))) w10 := ⟨(World.cell?_of_block (hk10.block gl hlt9 (fun hg => HI.out.2.2.2.1 gl hg rfl))).trans hS9.1, (World.cell?_of_block (hk10.block gl hlt9 (fun hg => HI.out.2.2.2.1 gl hg rfl))).trans hS9.2⟩
                clear hw9 h10 hk10 hs10
                refine hK.out _ _ hS10 (fun hHeld => ?_)
                clear hK K
                try simp only [Act.put, List.setIfInBounds_toArray, List.set_cons_zero, List.set_cons_succ]
                refine wpAnyH_take (i := 14) (v := ?_) (List.getElem?_toArray.trans (List.getElem?_cons_succ.trans (List.getElem?_cons_succ.trans (List.getElem?_cons_succ.trans (List.getElem?_cons_succ.trans (List.getElem?_cons_succ.trans (List.getElem?_cons_succ.trans (List.getElem?_cons_succ.trans (List.getElem?_cons_succ.trans (List.getElem?_cons_succ.trans (List.getElem?_cons_succ.trans (List.getElem?_cons_succ.trans (List.getElem?_cons_succ.trans (List.getElem?_cons_succ.trans (List.getElem?_cons_succ.trans (List.getElem?_cons_zero)))))))))))))))) (by kernel_rfl) (by kernel_rfl) (by kernel_rfl) (fun _ _ _ h => h) (Or.inl ⟨by rfl, ?_⟩) (by assumption) ?_
                rotate_left
                · intro w' hSw; (try dsimp only at hSw); go_simp; try with_reducible rfl
                try simp only [Act.put, List.setIfInBounds_toArray, List.set_cons_zero, List.set_cons_succ]
                refine wpAnyH_take (i := 15) (v := ?_) (List.getElem?_toArray.trans (List.getElem?_cons_succ.trans (List.getElem?_cons_succ.trans (List.getElem?_cons_succ.trans (List.getElem?_cons_succ.trans (List.getElem?_cons_succ.trans (List.getElem?_cons_succ.trans (List.getElem?_cons_succ.trans (List.getElem?_cons_succ.trans (List.getElem?_cons_succ.trans (List.getElem?_cons_succ.trans (List.getElem?_cons_succ.trans (List.getElem?_cons_succ.trans (List.getElem?_cons_succ.trans (List.getElem?_cons_succ.trans (List.getElem?_cons_succ.trans (List.getElem?_cons_zero))))))))))))))))) (by kernel_rfl) (by kernel_rfl) (by kernel_rfl) (fun _ _ _ h => h) (Or.inl ⟨by rfl, ?_⟩) (by assumption) ?_
                rotate_left
                · intro w' hSw; (try dsimp only at hSw); go_simp; try with_reducible rfl
                try simp only [Act.put, List.setIfInBounds_toArray, List.set_cons_zero, List.set_cons_succ]
                refine wpAnyH_done (by kernel_rfl) ?_ _
                go_wp2_with fail
                go_meet
                case rel => exact ⟨nn, F8, G10, _, _, rfl, rfl, HT10.out, HRel.out.1⟩
          case rest =>
            obtain ⟨nn, F1, G1, md1, mx1, rfl, rfl, ht, hrel⟩ := hcut
            have HT1 := Lib.hid ht
            clear ht
            rcases hrel with ⟨hn0, hr⟩ | ⟨hn0, hr⟩
            · have hni : ¬ (nn : Int) = 0 := by omega
              have HR1 := Lib.hid hr
              have hd : Below wc.heap.size wc wc.drew := (Below.refl _ _).drew
              obtain ⟨bo, ebo⟩ : ∃ b, (!md1.off) = b := ⟨_, rfl⟩
              have hbx : (!mx1.off) = bo := by rw [← HR1.out.off]; exact ebo
              obtain ⟨L, eL⟩ : ∃ L, md1.has.flatten = L := ⟨_, rfl⟩
              have hLx : mx1.has.flatten = L := by rw [← HR1.out.has]; exact eL
              obtain ⟨nL, enL⟩ : ∃ n, L.length = n := ⟨_, rfl⟩
              have HLL := Lib.hid (And.intro ebo (And.intro hbx (And.intro eL (And.intro hLx enL))))
              clear hr ebo hbx eL hLx enL
              go_wp2_with fail
              refine wp_region_held_drew (S := fun w' => Below wc.heap.size wc w') (by kernel_rfl) hd (fun hHeld => ?_)
              refine wpAnyH_take (i := 0) (v := ?_) (List.getElem?_toArray.trans (List.getElem?_cons_zero)) (by kernel_rfl) (by kernel_rfl) (by kernel_rfl) (fun _ _ _ h => h) (Or.inl ⟨by rfl, ?_⟩) (by assumption) ?_
              rotate_left
              · intro w' hSw; (try dsimp only at hSw); go_simp; try with_reducible rfl
              try simp only [Act.put, List.setIfInBounds_toArray, List.set_cons_zero, List.set_cons_succ]
              refine wpAnyH_take (i := 1) (v := ?_) (List.getElem?_toArray.trans (List.getElem?_cons_succ.trans (List.getElem?_cons_zero))) (by kernel_rfl) (by kernel_rfl) (by kernel_rfl) (fun _ _ _ h => h) (Or.inl ⟨by rfl, ?_⟩) (by assumption) ?_
              rotate_left
              · intro w' hSw; (try dsimp only at hSw); go_simp; try with_reducible rfl
              try simp only [Act.put, List.setIfInBounds_toArray, List.set_cons_zero, List.set_cons_succ]
              refine wpAnyH_take (i := 2) (v := ?_) (List.getElem?_toArray.trans (List.getElem?_cons_succ.trans (List.getElem?_cons_succ.trans (List.getElem?_cons_zero)))) (by kernel_rfl) (by kernel_rfl) (by kernel_rfl) (fun _ _ _ h => h) (Or.inl ⟨by rfl, ?_⟩) (by assumption) ?_
              rotate_left
              · intro w' hSw; (try dsimp only at hSw); go_simp; try with_reducible rfl
              try simp only [Act.put, List.setIfInBounds_toArray, List.set_cons_zero, List.set_cons_succ]
              refine wpAnyH_take (i := 3) (v := ?_) (List.getElem?_toArray.trans (List.getElem?_cons_succ.trans (List.getElem?_cons_succ.trans (List.getElem?_cons_succ.trans (List.getElem?_cons_zero))))) (by kernel_rfl) (by kernel_rfl) (by kernel_rfl) (fun _ _ _ h => h) (Or.inl ⟨by rfl, ?_⟩) (by assumption) ?_
              rotate_left
              · intro w' hSw; (try dsimp only at hSw); go_simp; try with_reducible rfl
              try simp only [Act.put, List.setIfInBounds_toArray, List.set_cons_zero, List.set_cons_succ]
              refine wpAnyH_take (i := 4) (v := ?_) (List.getElem?_toArray.trans (List.getElem?_cons_succ.trans (List.getElem?_cons_succ.trans (List.getElem?_cons_succ.trans (List.getElem?_cons_succ.trans (List.getElem?_cons_zero)))))) (by kernel_rfl) (by kernel_rfl) (by kernel_rfl) (fun _ _ _ h => h) (Or.inl ⟨by rfl, ?_⟩) (by assumption) ?_
              rotate_left
              · intro w' hSw; (try dsimp only at hSw); go_simp; try with_reducible rfl
              try simp only [Act.put, List.setIfInBounds_toArray, List.set_cons_zero, List.set_cons_succ]
              refine wpAnyH_take (i := 6) (v := ?_) (List.getElem?_toArray.trans (List.getElem?_cons_succ.trans (List.getElem?_cons_succ.trans (List.getElem?_cons_succ.trans (List.getElem?_cons_succ.trans (List.getElem?_cons_succ.trans (List.getElem?_cons_succ.trans (List.getElem?_cons_zero)))))))) (by kernel_rfl) (by kernel_rfl) (by kernel_rfl) (fun _ _ _ h => h) (Or.inl ⟨by rfl, ?_⟩) (by assumption) ?_
              rotate_left
              · intro w' hSw; (try dsimp only at hSw); go_simp; try with_reducible rfl
              try simp only [Act.put, List.setIfInBounds_toArray, List.set_cons_zero, List.set_cons_succ]
              refine wpAnyH_ready (rs := [5]) (by kernel_rfl) (by simp) ?_
              refine AllReadyH.cons (List.getElem?_toArray.trans (List.getElem?_cons_succ.trans (List.getElem?_cons_succ.trans (List.getElem?_cons_succ.trans (List.getElem?_cons_succ.trans (List.getElem?_cons_succ.trans (List.getElem?_cons_zero))))))) (fun K hK => ?_) AllReadyH.nil
              go_simp
              refine (dkOn _ gd F1 md1 (HT1.out.d.below hd)).mono ?_
              rintro e w' ⟨rfl, rfl⟩
              rw [HLL.out.1]
              refine hK.out _ _ hd (fun hHeld => ?_)
              clear hK K
              try simp only [Act.put, List.setIfInBounds_toArray, List.set_cons_zero, List.set_cons_succ]
              refine wpAnyH_ready (rs := [7]) (by kernel_rfl) (by simp) ?_
              refine AllReadyH.cons (List.getElem?_toArray.trans (List.getElem?_cons_succ.trans (List.getElem?_cons_succ.trans (List.getElem?_cons_succ.trans (List.getElem?_cons_succ.trans (List.getElem?_cons_succ.trans (List.getElem?_cons_succ.trans (List.getElem?_cons_succ.trans (List.getElem?_cons_zero))))))))) (fun K hK => ?_) AllReadyH.nil
              go_simp
              refine (dkOn _ gx G1 mx1 (HT1.out.x.below hd)).mono ?_
              rintro e w' ⟨rfl, rfl⟩
              rw [HLL.out.2.1]
              refine hK.out _ _ hd (fun hHeld => ?_)
              clear hK K
              try simp only [Act.put, List.setIfInBounds_toArray, List.set_cons_zero, List.set_cons_succ]
              refine wpAnyH_take (i := 8) (v := ?_) (List.getElem?_toArray.trans (List.getElem?_cons_succ.trans (List.getElem?_cons_succ.trans (List.getElem?_cons_succ.trans (List.getElem?_cons_succ.trans (List.getElem?_cons_succ.trans (List.getElem?_cons_succ.trans (List.getElem?_cons_succ.trans (List.getElem?_cons_succ.trans (List.getElem?_cons_zero)))))))))) (by kernel_rfl) (by kernel_rfl) (by kernel_rfl) (fun _ _ _ h => h) (Or.inl ⟨by rfl, ?_⟩) (by assumption) ?_
              rotate_left
              · intro w' hSw; (try dsimp only at hSw); go_simp; try with_reducible rfl
              try simp only [Act.put, List.setIfInBounds_toArray, List.set_cons_zero, List.set_cons_succ]
              refine wpAnyH_take (i := 9) (v := ?_) (List.getElem?_toArray.trans (List.getElem?_cons_succ.trans (List.getElem?_cons_succ.trans (List.getElem?_cons_succ.trans (List.getElem?_cons_succ.trans (List.getElem?_cons_succ.trans (List.getElem?_cons_succ.trans (List.getElem?_cons_succ.trans (List.getElem?_cons_succ.trans (List.getElem?_cons_succ.trans (List.getElem?_cons_zero))))))))))) (by kernel_rfl) (by kernel_rfl) (by kernel_rfl) (fun _ _ _ h => h) (Or.inl ⟨by rfl, ?_⟩) (by assumption) ?_
              rotate_left
              · intro w' hSw; (try dsimp only at hSw); go_simp; try with_reducible rfl
              try simp only [Act.put, List.setIfInBounds_toArray, List.set_cons_zero, List.set_cons_succ]
              refine wpAnyH_take (i := 10) (v := ?_) (List.getElem?_toArray.trans (List.getElem?_cons_succ.trans (List.getElem?_cons_succ.trans (List.getElem?_cons_succ.trans (List.getElem?_cons_succ.trans (List.getElem?_cons_succ.trans (List.getElem?_cons_succ.trans (List.getElem?_cons_succ.trans (List.getElem?_cons_succ.trans (List.getElem?_cons_succ.trans (List.getElem?_cons_succ.trans (List.getElem?_cons_zero)))))))))))) (by kernel_rfl) (by kernel_rfl) (by kernel_rfl) (fun _ _ _ h => h) (Or.inl ⟨by rfl, ?_⟩) (by assumption) ?_
              rotate_left
              · intro w' hSw; (try dsimp only at hSw); go_simp; try with_reducible rfl
              try simp only [Act.put, List.setIfInBounds_toArray, List.set_cons_zero, List.set_cons_succ]
              refine wpAnyH_take (i := 11) (v := ?_) (List.getElem?_toArray.trans (List.getElem?_cons_succ.trans (List.getElem?_cons_succ.trans (List.getElem?_cons_succ.trans (List.getElem?_cons_succ.trans (List.getElem?_cons_succ.trans (List.getElem?_cons_succ.trans (List.getElem?_cons_succ.trans (List.getElem?_cons_succ.trans (List.getElem?_cons_succ.trans (List.getElem?_cons_succ.trans (List.getElem?_cons_succ.trans (List.getElem?_cons_zero))))))))))))) (by kernel_rfl) (by kernel_rfl) (by kernel_rfl) (fun _ _ _ h => h) (Or.inl ⟨by rfl, ?_⟩) (by assumption) ?_
              rotate_left
              · intro w' hSw; (try dsimp only at hSw); go_simp; try with_reducible rfl
              try simp only [Act.put, List.setIfInBounds_toArray, List.set_cons_zero, List.set_cons_succ]
              refine wpAnyH_take (i := 14) (v := ?_) (List.getElem?_toArray.trans (List.getElem?_cons_succ.trans (List.getElem?_cons_succ.trans (List.getElem?_cons_succ.trans (List.getElem?_cons_succ.trans (List.getElem?_cons_succ.trans (List.getElem?_cons_succ.trans (List.getElem?_cons_succ.trans (List.getElem?_cons_succ.trans (List.getElem?_cons_succ.trans (List.getElem?_cons_succ.trans (List.getElem?_cons_succ.trans (List.getElem?_cons_succ.trans (List.getElem?_cons_succ.trans (List.getElem?_cons_succ.trans (List.getElem?_cons_zero)))))))))))))))) (by kernel_rfl) (by kernel_rfl) (by kernel_rfl) (fun _ _ _ h => h) (Or.inl ⟨by rfl, ?_⟩) (by assumption) ?_
              rotate_left
              · intro w' hSw; (try dsimp only at hSw); go_simp; try with_reducible rfl
              try simp only [Act.put, List.setIfInBounds_toArray, List.set_cons_zero, List.set_cons_succ]
              refine wpAnyH_ready (rs := [12]) (by kernel_rfl) (by simp) ?_
              refine AllReadyH.cons (List.getElem?_toArray.trans (List.getElem?_cons_succ.trans (List.getElem?_cons_succ.trans (List.getElem?_cons_succ.trans (List.getElem?_cons_succ.trans (List.getElem?_cons_succ.trans (List.getElem?_cons_succ.trans (List.getElem?_cons_succ.trans (List.getElem?_cons_succ.trans (List.getElem?_cons_succ.trans (List.getElem?_cons_succ.trans (List.getElem?_cons_succ.trans (List.getElem?_cons_succ.trans (List.getElem?_cons_zero)))))))))))))) (fun K hK => ?_) AllReadyH.nil
              go_simp
              refine (dkImage _ gd F1 md1 (HT1.out.d.below hd)).mono ?_
              rintro e w4 ⟨v4, rfl, hown4, hb4⟩
              rw [HLL.out.2.2.1] at hown4
              obtain ⟨A4, c4, rfl, hbs4, _⟩ := hown4.slice
              rw [HLL.out.2.2.2.2]
              have hB4 : Below wc.heap.size wc w4 := hd.trans (hb4.mono hd.size)
              have hC4 := bs_conv (P := Try.prog) hbs4 HLL.out.2.2.2.2 Try.underlying27 Try.underlying5 c4 Try.underlying9
              clear hown4 hbs4 hb4
              refine hK.out _ _ hB4 (fun hHeld => ?_)
              clear hK K
              try simp only [Act.put, List.setIfInBounds_toArray, List.set_cons_zero, List.set_cons_succ]
              refine wpAnyH_swap (S' := fun w' => Below w4.heap.size w4 w') (fun w' h => hB4.trans (h.mono hB4.size)) _ _ _ _ ?_
              have hr4 := Below.refl w4.heap.size w4
              refine wpAnyH_take (i := 13) (v := ?_) (List.getElem?_toArray.trans (List.getElem?_cons_succ.trans (List.getElem?_cons_succ.trans (List.getElem?_cons_succ.trans (List.getElem?_cons_succ.trans (List.getElem?_cons_succ.trans (List.getElem?_cons_succ.trans (List.getElem?_cons_succ.trans (List.getElem?_cons_succ.trans (List.getElem?_cons_succ.trans (List.getElem?_cons_succ.trans (List.getElem?_cons_succ.trans (List.getElem?_cons_succ.trans (List.getElem?_cons_succ.trans (List.getElem?_cons_zero))))))))))))))) (by kernel_rfl) (by kernel_rfl) (by kernel_rfl) (fun _ _ _ h => h) (Or.inl ⟨by rfl, ?_⟩) (by assumption) ?_
              rotate_left
              · intro w' hSw; (try dsimp only at hSw); go_simp; try with_reducible rfl
              try simp only [Act.put, List.setIfInBounds_toArray, List.set_cons_zero, List.set_cons_succ]
              refine wpAnyH_ready (rs := [15]) (by kernel_rfl) (by simp) ?_
              refine AllReadyH.cons (List.getElem?_toArray.trans (List.getElem?_cons_succ.trans (List.getElem?_cons_succ.trans (List.getElem?_cons_succ.trans (List.getElem?_cons_succ.trans (List.getElem?_cons_succ.trans (List.getElem?_cons_succ.trans (List.getElem?_cons_succ.trans (List.getElem?_cons_succ.trans (List.getElem?_cons_succ.trans (List.getElem?_cons_succ.trans (List.getElem?_cons_succ.trans (List.getElem?_cons_succ.trans (List.getElem?_cons_succ.trans (List.getElem?_cons_succ.trans (List.getElem?_cons_succ.trans (List.getElem?_cons_zero))))))))))))))))) (fun K hK => ?_) AllReadyH.nil
              go_simp
              refine (dkImage _ gx G1 mx1 (HT1.out.x.below hB4)).mono ?_
              rintro e w5 ⟨v5, rfl, hown5, hb5⟩
              rw [HLL.out.2.2.2.1] at hown5
              obtain ⟨A5, c5, rfl, hbs5, _⟩ := hown5.slice
              rw [HLL.out.2.2.2.2]
              have hB5 : Below wc.heap.size wc w5 := hB4.trans (hb5.mono hB4.size)
              have hC5 := bs_conv (P := Try.prog) hbs5 HLL.out.2.2.2.2 Try.underlying27 Try.underlying5 c5 Try.underlying9
              clear hown5 hbs5
              refine hK.out _ _ hb5 (fun hHeld => ?_)
              clear hK K
              try simp only [Act.put, List.setIfInBounds_toArray, List.set_cons_zero, List.set_cons_succ]
              refine wpAnyH_swap (S' := fun w' => Below w5.heap.size w5 w') (fun w' h => hb5.trans (h.mono hb5.size)) _ _ _ _ ?_
              have hr5 := Below.refl w5.heap.size w5
              refine wpAnyH_take (i := 16) (v := ?_) (List.getElem?_toArray.trans (List.getElem?_cons_succ.trans (List.getElem?_cons_succ.trans (List.getElem?_cons_succ.trans (List.getElem?_cons_succ.trans (List.getElem?_cons_succ.trans (List.getElem?_cons_succ.trans (List.getElem?_cons_succ.trans (List.getElem?_cons_succ.trans (List.getElem?_cons_succ.trans (List.getElem?_cons_succ.trans (List.getElem?_cons_succ.trans (List.getElem?_cons_succ.trans (List.getElem?_cons_succ.trans (List.getElem?_cons_succ.trans (List.getElem?_cons_succ.trans (List.getElem?_cons_succ.trans (List.getElem?_cons_zero)))))))))))))))))) (by kernel_rfl) (by kernel_rfl) (by kernel_rfl) (fun _ _ _ h => h) (Or.inl ⟨by rfl, ?_⟩) (by assumption) ?_
              rotate_left
              · intro w' hSw; (try dsimp only at hSw); go_simp; try with_reducible rfl
              try simp only [Act.put, List.setIfInBounds_toArray, List.set_cons_zero, List.set_cons_succ]
              refine wpAnyH_take (i := 17) (v := ?_) (List.getElem?_toArray.trans (List.getElem?_cons_succ.trans (List.getElem?_cons_succ.trans (List.getElem?_cons_succ.trans (List.getElem?_cons_succ.trans (List.getElem?_cons_succ.trans (List.getElem?_cons_succ.trans (List.getElem?_cons_succ.trans (List.getElem?_cons_succ.trans (List.getElem?_cons_succ.trans (List.getElem?_cons_succ.trans (List.getElem?_cons_succ.trans (List.getElem?_cons_succ.trans (List.getElem?_cons_succ.trans (List.getElem?_cons_succ.trans (List.getElem?_cons_succ.trans (List.getElem?_cons_succ.trans (List.getElem?_cons_succ.trans (List.getElem?_cons_zero))))))))))))))))))) (by kernel_rfl) (by kernel_rfl) (by kernel_rfl) (fun _ _ _ h => h) (Or.inl ⟨by rfl, ?_⟩) (by assumption) ?_
              rotate_left
              · intro w' hSw; (try dsimp only at hSw); go_simp; try with_reducible rfl
              try simp only [Act.put, List.setIfInBounds_toArray, List.set_cons_zero, List.set_cons_succ]
              refine wpAnyH_take (i := 18) (v := ?_) (List.getElem?_toArray.trans (List.getElem?_cons_succ.trans (List.getElem?_cons_succ.trans (List.getElem?_cons_succ.trans (List.getElem?_cons_succ.trans (List.getElem?_cons_succ.trans (List.getElem?_cons_succ.trans (List.getElem?_cons_succ.trans (List.getElem?_cons_succ.trans (List.getElem?_cons_succ.trans (List.getElem?_cons_succ.trans (List.getElem?_cons_succ.trans (List.getElem?_cons_succ.trans (List.getElem?_cons_succ.trans (List.getElem?_cons_succ.trans (List.getElem?_cons_succ.trans (List.getElem?_cons_succ.trans (List.getElem?_cons_succ.trans (List.getElem?_cons_succ.trans (List.getElem?_cons_zero)))))))))))))))))))) (by kernel_rfl) (by kernel_rfl) (by kernel_rfl) (fun _ _ _ h => h) (Or.inl ⟨by rfl, ?_⟩) (by assumption) ?_
              rotate_left
              · intro w' hSw; (try dsimp only at hSw); go_simp; try with_reducible rfl
              try simp only [Act.put, List.setIfInBounds_toArray, List.set_cons_zero, List.set_cons_succ]
              refine wpAnyH_done (by kernel_rfl) ?_ _
              go_wp2_with fail
              go_roundw
              case rel => exact ⟨k + 1, lf, F1, G1, md1, mx1, by omega, by omega, by go_num, rfl, by omega, HT1.out.below hB5, HR1.out⟩
              case measure => simp [intOf]; omega
            · subst hn0
              have HR1 := Lib.hid hr
              have hd : Below wc.heap.size wc wc.drew := (Below.refl _ _).drew
              obtain ⟨bo, ebo⟩ : ∃ b, (!md1.off) = b := ⟨_, rfl⟩
              have hbx : (!mx1.off) = bo := by rw [← HR1.out.off]; exact ebo
              obtain ⟨L, eL⟩ : ∃ L, md1.has.flatten = L := ⟨_, rfl⟩
              have hLx : mx1.has.flatten = L := by rw [← HR1.out.has]; exact eL
              obtain ⟨nL, enL⟩ : ∃ n, L.length = n := ⟨_, rfl⟩
              have HLL := Lib.hid (And.intro ebo (And.intro hbx (And.intro eL (And.intro hLx enL))))
              clear hr ebo hbx eL hLx enL
              go_wp2_with fail
              refine wp_region_held_drew (S := fun w' => Below wc.heap.size wc w') (by kernel_rfl) hd (fun hHeld => ?_)
              refine wpAnyH_take (i := 0) (v := ?_) (List.getElem?_toArray.trans (List.getElem?_cons_zero)) (by kernel_rfl) (by kernel_rfl) (by kernel_rfl) (fun _ _ _ h => h) (Or.inl ⟨by rfl, ?_⟩) (by assumption) ?_
              rotate_left
              · intro w' hSw; (try dsimp only at hSw); go_simp; try with_reducible rfl
              try simp only [Act.put, List.setIfInBounds_toArray, List.set_cons_zero, List.set_cons_succ]
              refine wpAnyH_take (i := 1) (v := ?_) (List.getElem?_toArray.trans (List.getElem?_cons_succ.trans (List.getElem?_cons_zero))) (by kernel_rfl) (by kernel_rfl) (by kernel_rfl) (fun _ _ _ h => h) (Or.inl ⟨by rfl, ?_⟩) (by assumption) ?_
              rotate_left
              · intro w' hSw; (try dsimp only at hSw); go_simp; try with_reducible rfl
              try simp only [Act.put, List.setIfInBounds_toArray, List.set_cons_zero, List.set_cons_succ]
              refine wpAnyH_take (i := 2) (v := ?_) (List.getElem?_toArray.trans (List.getElem?_cons_succ.trans (List.getElem?_cons_succ.trans (List.getElem?_cons_zero)))) (by kernel_rfl) (by kernel_rfl) (by kernel_rfl) (fun _ _ _ h => h) (Or.inl ⟨by rfl, ?_⟩) (by assumption) ?_
              rotate_left
              · intro w' hSw; (try dsimp only at hSw); go_simp; try with_reducible rfl
              try simp only [Act.put, List.setIfInBounds_toArray, List.set_cons_zero, List.set_cons_succ]
              refine wpAnyH_take (i := 3) (v := ?_) (List.getElem?_toArray.trans (List.getElem?_cons_succ.trans (List.getElem?_cons_succ.trans (List.getElem?_cons_succ.trans (List.getElem?_cons_zero))))) (by kernel_rfl) (by kernel_rfl) (by kernel_rfl) (fun _ _ _ h => h) (Or.inl ⟨by rfl, ?_⟩) (by assumption) ?_
              rotate_left
              · intro w' hSw; (try dsimp only at hSw); go_simp; try with_reducible rfl
              try simp only [Act.put, List.setIfInBounds_toArray, List.set_cons_zero, List.set_cons_succ]
              refine wpAnyH_take (i := 4) (v := ?_) (List.getElem?_toArray.trans (List.getElem?_cons_succ.trans (List.getElem?_cons_succ.trans (List.getElem?_cons_succ.trans (List.getElem?_cons_succ.trans (List.getElem?_cons_zero)))))) (by kernel_rfl) (by kernel_rfl) (by kernel_rfl) (fun _ _ _ h => h) (Or.inl ⟨by rfl, ?_⟩) (by assumption) ?_
              rotate_left
              · intro w' hSw; (try dsimp only at hSw); go_simp; try with_reducible rfl
              try simp only [Act.put, List.setIfInBounds_toArray, List.set_cons_zero, List.set_cons_succ]
              refine wpAnyH_take (i := 6) (v := ?_) (List.getElem?_toArray.trans (List.getElem?_cons_succ.trans (List.getElem?_cons_succ.trans (List.getElem?_cons_succ.trans (List.getElem?_cons_succ.trans (List.getElem?_cons_succ.trans (List.getElem?_cons_succ.trans (List.getElem?_cons_zero)))))))) (by kernel_rfl) (by kernel_rfl) (by kernel_rfl) (fun _ _ _ h => h) (Or.inl ⟨by rfl, ?_⟩) (by assumption) ?_
              rotate_left
              · intro w' hSw; (try dsimp only at hSw); go_simp; try with_reducible rfl
              try simp only [Act.put, List.setIfInBounds_toArray, List.set_cons_zero, List.set_cons_succ]
              refine wpAnyH_ready (rs := [5]) (by kernel_rfl) (by simp) ?_
              refine AllReadyH.cons (List.getElem?_toArray.trans (List.getElem?_cons_succ.trans (List.getElem?_cons_succ.trans (List.getElem?_cons_succ.trans (List.getElem?_cons_succ.trans (List.getElem?_cons_succ.trans (List.getElem?_cons_zero))))))) (fun K hK => ?_) AllReadyH.nil
              go_simp
              refine (dkOn _ gd F1 md1 (HT1.out.d.below hd)).mono ?_
              rintro e w' ⟨rfl, rfl⟩
              rw [HLL.out.1]
              refine hK.out _ _ hd (fun hHeld => ?_)
              clear hK K
              try simp only [Act.put, List.setIfInBounds_toArray, List.set_cons_zero, List.set_cons_succ]
              refine wpAnyH_ready (rs := [7]) (by kernel_rfl) (by simp) ?_
              refine AllReadyH.cons (List.getElem?_toArray.trans (List.getElem?_cons_succ.trans (List.getElem?_cons_succ.trans (List.getElem?_cons_succ.trans (List.getElem?_cons_succ.trans (List.getElem?_cons_succ.trans (List.getElem?_cons_succ.trans (List.getElem?_cons_succ.trans (List.getElem?_cons_zero))))))))) (fun K hK => ?_) AllReadyH.nil
              go_simp
              refine (dkOn _ gx G1 mx1 (HT1.out.x.below hd)).mono ?_
              rintro e w' ⟨rfl, rfl⟩
              rw [HLL.out.2.1]
              refine hK.out _ _ hd (fun hHeld => ?_)
              clear hK K
              try simp only [Act.put, List.setIfInBounds_toArray, List.set_cons_zero, List.set_cons_succ]
              refine wpAnyH_take (i := 8) (v := ?_) (List.getElem?_toArray.trans (List.getElem?_cons_succ.trans (List.getElem?_cons_succ.trans (List.getElem?_cons_succ.trans (List.getElem?_cons_succ.trans (List.getElem?_cons_succ.trans (List.getElem?_cons_succ.trans (List.getElem?_cons_succ.trans (List.getElem?_cons_succ.trans (List.getElem?_cons_zero)))))))))) (by kernel_rfl) (by kernel_rfl) (by kernel_rfl) (fun _ _ _ h => h) (Or.inl ⟨by rfl, ?_⟩) (by assumption) ?_
              rotate_left
              · intro w' hSw; (try dsimp only at hSw); go_simp; try with_reducible rfl
              try simp only [Act.put, List.setIfInBounds_toArray, List.set_cons_zero, List.set_cons_succ]
              refine wpAnyH_take (i := 9) (v := ?_) (List.getElem?_toArray.trans (List.getElem?_cons_succ.trans (List.getElem?_cons_succ.trans (List.getElem?_cons_succ.trans (List.getElem?_cons_succ.trans (List.getElem?_cons_succ.trans (List.getElem?_cons_succ.trans (List.getElem?_cons_succ.trans (List.getElem?_cons_succ.trans (List.getElem?_cons_succ.trans (List.getElem?_cons_zero))))))))))) (by kernel_rfl) (by kernel_rfl) (by kernel_rfl) (fun _ _ _ h => h) (Or.inl ⟨by rfl, ?_⟩) (by assumption) ?_
              rotate_left
              · intro w' hSw; (try dsimp only at hSw); go_simp; try with_reducible rfl
              try simp only [Act.put, List.setIfInBounds_toArray, List.set_cons_zero, List.set_cons_succ]
              refine wpAnyH_take (i := 10) (v := ?_) (List.getElem?_toArray.trans (List.getElem?_cons_succ.trans (List.getElem?_cons_succ.trans (List.getElem?_cons_succ.trans (List.getElem?_cons_succ.trans (List.getElem?_cons_succ.trans (List.getElem?_cons_succ.trans (List.getElem?_cons_succ.trans (List.getElem?_cons_succ.trans (List.getElem?_cons_succ.trans (List.getElem?_cons_succ.trans (List.getElem?_cons_zero)))))))))))) (by kernel_rfl) (by kernel_rfl) (by kernel_rfl) (fun _ _ _ h => h) (Or.inl ⟨by rfl, ?_⟩) (by assumption) ?_
              rotate_left
              · intro w' hSw; (try dsimp only at hSw); go_simp; try with_reducible rfl
              try simp only [Act.put, List.setIfInBounds_toArray, List.set_cons_zero, List.set_cons_succ]
              refine wpAnyH_take (i := 11) (v := ?_) (List.getElem?_toArray.trans (List.getElem?_cons_succ.trans (List.getElem?_cons_succ.trans (List.getElem?_cons_succ.trans (List.getElem?_cons_succ.trans (List.getElem?_cons_succ.trans (List.getElem?_cons_succ.trans (List.getElem?_cons_succ.trans (List.getElem?_cons_succ.trans (List.getElem?_cons_succ.trans (List.getElem?_cons_succ.trans (List.getElem?_cons_succ.trans (List.getElem?_cons_zero))))))))))))) (by kernel_rfl) (by kernel_rfl) (by kernel_rfl) (fun _ _ _ h => h) (Or.inl ⟨by rfl, ?_⟩) (by assumption) ?_
              rotate_left
              · intro w' hSw; (try dsimp only at hSw); go_simp; try with_reducible rfl
              try simp only [Act.put, List.setIfInBounds_toArray, List.set_cons_zero, List.set_cons_succ]
              refine wpAnyH_take (i := 14) (v := ?_) (List.getElem?_toArray.trans (List.getElem?_cons_succ.trans (List.getElem?_cons_succ.trans (List.getElem?_cons_succ.trans (List.getElem?_cons_succ.trans (List.getElem?_cons_succ.trans (List.getElem?_cons_succ.trans (List.getElem?_cons_succ.trans (List.getElem?_cons_succ.trans (List.getElem?_cons_succ.trans (List.getElem?_cons_succ.trans (List.getElem?_cons_succ.trans (List.getElem?_cons_succ.trans (List.getElem?_cons_succ.trans (List.getElem?_cons_succ.trans (List.getElem?_cons_zero)))))))))))))))) (by kernel_rfl) (by kernel_rfl) (by kernel_rfl) (fun _ _ _ h => h) (Or.inl ⟨by rfl, ?_⟩) (by assumption) ?_
              rotate_left
              · intro w' hSw; (try dsimp only at hSw); go_simp; try with_reducible rfl
              try simp only [Act.put, List.setIfInBounds_toArray, List.set_cons_zero, List.set_cons_succ]
              refine wpAnyH_ready (rs := [12]) (by kernel_rfl) (by simp) ?_
              refine AllReadyH.cons (List.getElem?_toArray.trans (List.getElem?_cons_succ.trans (List.getElem?_cons_succ.trans (List.getElem?_cons_succ.trans (List.getElem?_cons_succ.trans (List.getElem?_cons_succ.trans (List.getElem?_cons_succ.trans (List.getElem?_cons_succ.trans (List.getElem?_cons_succ.trans (List.getElem?_cons_succ.trans (List.getElem?_cons_succ.trans (List.getElem?_cons_succ.trans (List.getElem?_cons_succ.trans (List.getElem?_cons_zero)))))))))))))) (fun K hK => ?_) AllReadyH.nil
              go_simp
              refine (dkImage _ gd F1 md1 (HT1.out.d.below hd)).mono ?_
              rintro e w4 ⟨v4, rfl, hown4, hb4⟩
              rw [HLL.out.2.2.1] at hown4
              obtain ⟨A4, c4, rfl, hbs4, _⟩ := hown4.slice
              rw [HLL.out.2.2.2.2]
              have hB4 : Below wc.heap.size wc w4 := hd.trans (hb4.mono hd.size)
              have hC4 := bs_conv (P := Try.prog) hbs4 HLL.out.2.2.2.2 Try.underlying27 Try.underlying5 c4 Try.underlying9
              clear hown4 hbs4 hb4
              refine hK.out _ _ hB4 (fun hHeld => ?_)
              clear hK K
              try simp only [Act.put, List.setIfInBounds_toArray, List.set_cons_zero, List.set_cons_succ]
              refine wpAnyH_swap (S' := fun w' => Below w4.heap.size w4 w') (fun w' h => hB4.trans (h.mono hB4.size)) _ _ _ _ ?_
              have hr4 := Below.refl w4.heap.size w4
              refine wpAnyH_take (i := 13) (v := ?_) (List.getElem?_toArray.trans (List.getElem?_cons_succ.trans (List.getElem?_cons_succ.trans (List.getElem?_cons_succ.trans (List.getElem?_cons_succ.trans (List.getElem?_cons_succ.trans (List.getElem?_cons_succ.trans (List.getElem?_cons_succ.trans (List.getElem?_cons_succ.trans (List.getElem?_cons_succ.trans (List.getElem?_cons_succ.trans (List.getElem?_cons_succ.trans (List.getElem?_cons_succ.trans (List.getElem?_cons_succ.trans (List.getElem?_cons_zero))))))))))))))) (by kernel_rfl) (by kernel_rfl) (by kernel_rfl) (fun _ _ _ h => h) (Or.inl ⟨by rfl, ?_⟩) (by assumption) ?_
              rotate_left
              · intro w' hSw; (try dsimp only at hSw); go_simp; try with_reducible rfl
              try simp only [Act.put, List.setIfInBounds_toArray, List.set_cons_zero, List.set_cons_succ]
              refine wpAnyH_ready (rs := [15]) (by kernel_rfl) (by simp) ?_
              refine AllReadyH.cons (List.getElem?_toArray.trans (List.getElem?_cons_succ.trans (List.getElem?_cons_succ.trans (List.getElem?_cons_succ.trans (List.getElem?_cons_succ.trans (List.getElem?_cons_succ.trans (List.getElem?_cons_succ.trans (List.getElem?_cons_succ.trans (List.getElem?_cons_succ.trans (List.getElem?_cons_succ.trans (List.getElem?_cons_succ.trans (List.getElem?_cons_succ.trans (List.getElem?_cons_succ.trans (List.getElem?_cons_succ.trans (List.getElem?_cons_succ.trans (List.getElem?_cons_succ.trans (List.getElem?_cons_zero))))))))))))))))) (fun K hK => ?_) AllReadyH.nil
              go_simp
              refine (dkImage _ gx G1 mx1 (HT1.out.x.below hB4)).mono ?_
              rintro e w5 ⟨v5, rfl, hown5, hb5⟩
              rw [HLL.out.2.2.2.1] at hown5
              obtain ⟨A5, c5, rfl, hbs5, _⟩ := hown5.slice
              rw [HLL.out.2.2.2.2]
              have hB5 : Below wc.heap.size wc w5 := hB4.trans (hb5.mono hB4.size)
              have hC5 := bs_conv (P := Try.prog) hbs5 HLL.out.2.2.2.2 Try.underlying27 Try.underlying5 c5 Try.underlying9
              clear hown5 hbs5
              refine hK.out _ _ hb5 (fun hHeld => ?_)
              clear hK K
              try simp only [Act.put, List.setIfInBounds_toArray, List.set_cons_zero, List.set_cons_succ]
              refine wpAnyH_swap (S' := fun w' => Below w5.heap.size w5 w') (fun w' h => hb5.trans (h.mono hb5.size)) _ _ _ _ ?_
              have hr5 := Below.refl w5.heap.size w5
              refine wpAnyH_take (i := 16) (v := ?_) (List.getElem?_toArray.trans (List.getElem?_cons_succ.trans (List.getElem?_cons_succ.trans (List.getElem?_cons_succ.trans (List.getElem?_cons_succ.trans (List.getElem?_cons_succ.trans (List.getElem?_cons_succ.trans (List.getElem?_cons_succ.trans (List.getElem?_cons_succ.trans (List.getElem?_cons_succ.trans (List.getElem?_cons_succ.trans (List.getElem?_cons_succ.trans (List.getElem?_cons_succ.trans (List.getElem?_cons_succ.trans (List.getElem?_cons_succ.trans (List.getElem?_cons_succ.trans (List.getElem?_cons_succ.trans (List.getElem?_cons_zero)))))))))))))))))) (by kernel_rfl) (by kernel_rfl) (by kernel_rfl) (fun _ _ _ h => h) (Or.inl ⟨by rfl, ?_⟩) (by assumption) ?_
              rotate_left
              · intro w' hSw; (try dsimp only at hSw); go_simp; try with_reducible rfl
              try simp only [Act.put, List.setIfInBounds_toArray, List.set_cons_zero, List.set_cons_succ]
              refine wpAnyH_take (i := 17) (v := ?_) (List.getElem?_toArray.trans (List.getElem?_cons_succ.trans (List.getElem?_cons_succ.trans (List.getElem?_cons_succ.trans (List.getElem?_cons_succ.trans (List.getElem?_cons_succ.trans (List.getElem?_cons_succ.trans (List.getElem?_cons_succ.trans (List.getElem?_cons_succ.trans (List.getElem?_cons_succ.trans (List.getElem?_cons_succ.trans (List.getElem?_cons_succ.trans (List.getElem?_cons_succ.trans (List.getElem?_cons_succ.trans (List.getElem?_cons_succ.trans (List.getElem?_cons_succ.trans (List.getElem?_cons_succ.trans (List.getElem?_cons_succ.trans (List.getElem?_cons_zero))))))))))))))))))) (by kernel_rfl) (by kernel_rfl) (by kernel_rfl) (fun _ _ _ h => h) (Or.inl ⟨by rfl, ?_⟩) (by assumption) ?_
              rotate_left
              · intro w' hSw; (try dsimp only at hSw); go_simp; try with_reducible rfl
              try simp only [Act.put, List.setIfInBounds_toArray, List.set_cons_zero, List.set_cons_succ]
              refine wpAnyH_take (i := 18) (v := ?_) (List.getElem?_toArray.trans (List.getElem?_cons_succ.trans (List.getElem?_cons_succ.trans (List.getElem?_cons_succ.trans (List.getElem?_cons_succ.trans (List.getElem?_cons_succ.trans (List.getElem?_cons_succ.trans (List.getElem?_cons_succ.trans (List.getElem?_cons_succ.trans (List.getElem?_cons_succ.trans (List.getElem?_cons_succ.trans (List.getElem?_cons_succ.trans (List.getElem?_cons_succ.trans (List.getElem?_cons_succ.trans (List.getElem?_cons_succ.trans (List.getElem?_cons_succ.trans (List.getElem?_cons_succ.trans (List.getElem?_cons_succ.trans (List.getElem?_cons_succ.trans (List.getElem?_cons_zero)))))))))))))))))))) (by kernel_rfl) (by kernel_rfl) (by kernel_rfl) (fun _ _ _ h => h) (Or.inl ⟨by rfl, ?_⟩) (by assumption) ?_
              rotate_left
              · intro w' hSw; (try dsimp only at hSw); go_simp; try with_reducible rfl
              try simp only [Act.put, List.setIfInBounds_toArray, List.set_cons_zero, List.set_cons_succ]
              refine wpAnyH_done (by kernel_rfl) ?_ _
              go_wp2_with fail
              go_roundw
              case rel => exact ⟨k + 1, lf - 1, F1, G1, md1, mx1, by omega, by omega, by go_num, rfl, by omega, HT1.out.below hB5, HR1.out⟩
              case measure => simp [intOf]; omega

        · have hki : (k : Int) < (na : Int) := by omega
          have hki2 : ¬ (k : Int) < 40 := by omega
          go_wp2_with (go_at_call 7; refine (diskAwake _).mono ?_; rintro e w' ⟨rfl, hb⟩)
          go_ret
          exact ⟨rfl, HT.out.1.bel.trans (hb.mono HT.out.1.bel.size)⟩
      · have hki : ¬ (k : Int) < (na : Int) := by omega
        go_wp2_with (go_at_call 7; refine (diskAwake _).mono ?_; rintro e w' ⟨rfl, hb⟩)
        go_ret
        exact ⟨rfl, HT.out.1.bel.trans (hb.mono HT.out.1.bel.size)⟩
end Go.Proofs.Ytnnjneijdfibnaa
