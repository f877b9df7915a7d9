/-
  Disk model: sectors, writes that wait, power, arming, as plain data. No conditions.
-/
import Derived.Test.YtdhaikcmgegfoaaRow
namespace Go.Proofs.Ytdhaikcmgegfoaa
open Go.RowKit

/-- a disk's content: sectors, pending writes (the eldest first), is the power off, calls left (below 0: not armed), survivors -/
structure Dk where
  has : List (List UInt8)
  waits : List (Nat × List UInt8)
  off : Bool
  left : Int
  surv : List Bool

def nought : List UInt8 := List.replicate 64 0
theorem nought_length : nought.length = 64 := by simp [nought]
/-- a string's value, and lists of them -/
def sv (l : List UInt8) : Value := .string ⟨l.toArray⟩
def svs (l : List (List UInt8)) : List Value := l.map sv
theorem svs_length (l : List (List UInt8)) : (svs l).length = l.length := by simp [svs]
theorem svs_append (a b : List (List UInt8)) : svs (a ++ b) = svs a ++ svs b := by simp [svs]
theorem svs_one (l : List (List UInt8)) : ∀ u ∈ svs l, u.oneCell' = true := by
  intro u hu
  simp only [svs, List.mem_map] at hu
  obtain ⟨_, _, rfl⟩ := hu
  rfl
theorem svs_get {l : List (List UInt8)} {j : Nat} (h : j < l.length) : (svs l)[j]? = some (sv (l.getD j [])) := by simp [svs, h, List.getD]
def bvs (l : List Bool) : List Value := l.map Value.bool
theorem bvs_length (l : List Bool) : (bvs l).length = l.length := by simp [bvs]
theorem bvs_get {l : List Bool} {j : Nat} (h : j < l.length) : (bvs l)[j]? = some (.bool (l.getD j false)) := by simp [bvs, h, List.getD]
theorem bvs_one (l : List Bool) : ∀ u ∈ bvs l, u.oneCell' = true := by
  intro u hu
  simp only [bvs, List.mem_map] at hu
  obtain ⟨_, _, rfl⟩ := hu
  rfl
/-- the reference's writes: two cells each -/
def wvs : List (Nat × List UInt8) → List Value
  | [] => []
  | p :: r => .int .i64 (p.1 : Int) :: sv p.2 :: wvs r
theorem wvs_length : ∀ l : List (Nat × List UInt8), (wvs l).length = l.length * 2
  | [] => rfl
  | _ :: r => by simp only [wvs, List.length_cons, wvs_length r]; omega
theorem wvs_append : ∀ a b : List (Nat × List UInt8), wvs (a ++ b) = wvs a ++ wvs b
  | [], _ => rfl
  | _ :: r, b => by simp only [List.cons_append, wvs, wvs_append r b]
theorem wvs_one : ∀ l : List (Nat × List UInt8), ∀ u ∈ wvs l, u.oneCell' = true
  | [], u, hu => by simp [wvs] at hu
  | p :: r, u, hu => by
    simp only [wvs, List.mem_cons] at hu
    rcases hu with rfl | rfl | hu
    · rfl
    · rfl
    · exact wvs_one r u hu
theorem wvs_get : ∀ {l : List (Nat × List UInt8)} {j : Nat}, j < l.length → (wvs l)[j * 2]? = some (.int .i64 ((l.getD j (0, [])).1 : Int)) ∧ (wvs l)[j * 2 + 1]? = some (sv (l.getD j (0, [])).2)
  | p :: r, 0, _ => ⟨rfl, rfl⟩
  | p :: r, j + 1, h => by
    have := wvs_get (l := r) (j := j) (by simpa using h)
    have e : (j + 1) * 2 = j * 2 + 1 + 1 := by omega
    rw [e]
    simpa [wvs] using this

/-- the writes that count laid into the sectors, the first of them being the i-th -/
def lay (all : Bool) (surv : List Bool) : Nat → List (Nat × List UInt8) → List (List UInt8) → List (List UInt8)
  | _, [], h => h
  | i, p :: r, h => lay all surv (i + 1) r (if all || surv.getD i false then h.set p.1 p.2 else h)
theorem lay_length (all : Bool) (surv : List Bool) : ∀ (ws : List (Nat × List UInt8)) (i : Nat) (h : List (List UInt8)), (lay all surv i ws h).length = h.length
  | [], _, _ => rfl
  | p :: r, i, h => by
    rw [lay, lay_length all surv r]
    split <;> simp
/-- the first i of them -/
theorem lay_step (all : Bool) (surv : List Bool) (h : List (List UInt8)) (ws : List (Nat × List UInt8)) (i : Nat) (hi : i < ws.length) :
    lay all surv 0 (ws.take (i + 1)) h = (if all || surv.getD i false then (lay all surv 0 (ws.take i) h).set (ws.getD i (0, [])).1 (ws.getD i (0, [])).2 else lay all surv 0 (ws.take i) h) := by
  have gen : ∀ (a : List (Nat × List UInt8)) (p : Nat × List UInt8) (k : Nat) (h : List (List UInt8)), lay all surv k (a ++ [p]) h = (if all || surv.getD (k + a.length) false then (lay all surv k a h).set p.1 p.2 else lay all surv k a h) := by
    intro a
    induction a with
    | nil => intro p k h; rfl
    | cons q r ih =>
      intro p k h
      simp only [List.cons_append, lay, ih, List.length_cons]
      rw [show k + 1 + r.length = k + (r.length + 1) by omega]
  have e : ws.take (i + 1) = ws.take i ++ [ws.getD i (0, [])] := by
    rw [List.take_add_one]
    simp [hi, List.getD]
  rw [e, gen, Nat.zero_add, List.length_take, Nat.min_eq_left (by omega)]

def Dk.laid (d : Dk) (all : Bool) (surv : List Bool) : Dk := { d with has := lay all surv 0 d.waits d.has, waits := [] }
def Dk.crash (d : Dk) (surv : List Bool) : Dk := if d.off then d else { d.laid false surv with off := true, left := -1 }
def Dk.step (d : Dk) : Dk × Bool := if d.off then (d, false) else if d.left = 0 then (d.crash d.surv, false) else if 0 < d.left then ({ d with left := d.left - 1 }, true) else (d, true)
/-- what every disk keeps -/
structure Dk.ok (d : Dk) : Prop where
  small : d.has.length ≤ 256
  len : ∀ s ∈ d.has, s.length = 64
  at_ : ∀ p ∈ d.waits, p.1 < d.has.length ∧ p.2.length = 64
  leftB : -1 ≤ d.left ∧ d.left ≤ 9223372036854775807
theorem lay_len (all : Bool) (surv : List Bool) : ∀ (ws : List (Nat × List UInt8)) (i : Nat) (h : List (List UInt8)), (∀ s ∈ h, s.length = 64) → (∀ p ∈ ws, p.2.length = 64) → ∀ s ∈ lay all surv i ws h, s.length = 64
  | [], _, _, hh, _ => hh
  | p :: r, i, h, hh, hw => by
    rw [lay]
    refine lay_len all surv r (i + 1) _ ?_ (fun q hq => hw q (by simp [hq]))
    split
    · intro s hs
      rcases List.mem_or_eq_of_mem_set hs with h1 | rfl
      · exact hh s h1
      · exact hw p (by simp)
    · exact hh
theorem Dk.laid_ok {d : Dk} (h : d.ok) (all : Bool) (surv : List Bool) : (d.laid all surv).ok :=
  ⟨by simp only [Dk.laid, lay_length]; exact h.small, lay_len all surv _ _ _ h.len (fun p hp => (h.at_ p hp).2), by simp [Dk.laid], h.leftB⟩
theorem Dk.crash_ok {d : Dk} (h : d.ok) (surv : List Bool) : (d.crash surv).ok := by
  unfold Dk.crash
  split
  · exact h
  · exact ⟨(Dk.laid_ok h false surv).small, (Dk.laid_ok h false surv).len, (Dk.laid_ok h false surv).at_, by simp⟩
theorem Dk.step_ok {d : Dk} (h : d.ok) : d.step.1.ok := by
  unfold Dk.step
  split
  · exact h
  · split
    · exact Dk.crash_ok h _
    · split
      · exact ⟨h.small, h.len, h.at_, by have := h.leftB; simp; omega⟩
      · exact h

/-- the reference's disk as a value: five cells -/
def refCells (A W S : Option Addr) (ca cw cs : Nat) (d : Dk) : List Value :=
  [.slice A d.has.length ca, .slice W d.waits.length cw, .bool d.off, .int .i64 d.left, .slice S d.surv.length cs]
structure RefIs (w : World) (B : Nat) (cells : List Value) (d : Dk) : Prop where
  ok : d.ok
  cells : ∃ A W S ca cw cs, cells = refCells A W S ca cw cs d ∧ Vs w B A (svs d.has) ∧ Vs w B W (wvs d.waits) ∧ Vs w B S (bvs d.surv)
theorem RefIs.below {w w' : World} {B : Nat} {cells : List Value} {d : Dk} (h : RefIs w B cells d) (hb : Below B w w') : RefIs w' B cells d := by
  obtain ⟨ho, A, W, S, ca, cw, cs, e, h1, h2, h3⟩ := h
  exact ⟨ho, A, W, S, ca, cw, cs, e, h1.below hb, h2.below hb, h3.below hb⟩
theorem RefIs.more {w : World} {B B' : Nat} {cells : List Value} {d : Dk} (h : RefIs w B cells d) (hB : B ≤ B') : RefIs w B' cells d := by
  obtain ⟨ho, A, W, S, ca, cw, cs, e, h1, h2, h3⟩ := h
  exact ⟨ho, A, W, S, ca, cw, cs, e, h1.more hB, h2.more hB, h3.more hB⟩
end Go.Proofs.Ytdhaikcmgegfoaa
