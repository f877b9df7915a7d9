/-
  The machine as plain data: a place, registers, words, a state, a trap; a step, a run, whether it may be. No conditions.
-/
import Derived.Test.YthgiehlfmdobkaaDoorCodeData
namespace Go.Proofs.YthgiehlfmdobkaaDoor
open Go.RowKit

structure Mach where
  p : Int
  r : Nat → Int
  mem : List Int
  s : Int
  t : Int
def trapM (M : Mach) (c : Int) : Mach × Int × Int := ({ M with s := 2, t := c }, 3, c)
def setR (M : Mach) (a : Nat) (v : Int) : Mach := { M with r := fun j => if j = a then v else M.r j }
def step1 (M : Mach) : Mach := { M with p := M.p + 1 }
def twoM (op : Nat) (a b : Int) : Int :=
  if op = 3 then wrap64 (a + b)
  else if op = 4 then wrap64 (a - b)
  else if op = 5 then wrap64 (a * b)
  else if op = 6 then wrap64 (a.tdiv b)
  else if op = 7 then a.tmod b
  else if op = 8 then bits .and .i64 a b
  else if op = 9 then bits .or .i64 a b
  else if op = 10 then bits .xor .i64 a b
  else if op = 11 then (if a < b then 1 else 0)
  else (if a = b then 1 else 0)
def findM (mem : List Int) (base : Int) (c : Nat) : Option Nat := if 0 ≤ base + c ∧ base + c < mem.length then some (base + c).toNat else none
/-- the effect of an instruction -/
def doM (i : Ins) (M : Mach) : Mach × Int × Int :=
  if formedB i = false then trapM M 83
  else if i.op = 0 then ({ M with s := 1 }, 2, 0)
  else if i.op = 1 then (step1 (setR M i.a i.numS), 0, 0)
  else if i.op = 2 then (step1 (setR M i.a (M.r i.b)), 0, 0)
  else if i.op ≤ 12 then (if (i.op = 6 ∨ i.op = 7) ∧ M.r i.c = 0 then trapM M 80 else (step1 (setR M i.a (twoM i.op (M.r i.b) (M.r i.c))), 0, 0))
  else if i.op ≤ 14 then (match findM M.mem (M.r i.b) i.c with
    | none => trapM M 81
    | some k => if i.op = 13 then (step1 (setR M i.a (M.mem.getD k 0)), 0, 0) else (step1 { M with mem := M.mem.set k (M.r i.a) }, 0, 0))
  else if i.op = 15 ∨ (i.op = 16 ∧ M.r i.a = 0) then ({ M with p := i.num }, 0, 0)
  else if i.op = 16 then (step1 M, 0, 0)
  else (step1 M, 1, i.a)
def stepM (l : List Ins) (M : Mach) : Mach × Int × Int :=
  if M.s ≠ 0 then (M, 0, 0)
  else if M.p < 0 ∨ (l.length : Int) ≤ M.p then trapM M 82
  else doM (l.getD M.p.toNat i0) M
def runM (l : List Ins) : Nat → Mach → Mach × Int × Int × Nat
  | 0, M => (M, 0, 0, 0)
  | k + 1, M =>
    if M.s ≠ 0 then (M, 0, 0, 0)
    else if (stepM l M).2.1 ≠ 0 then ((stepM l M).1, (stepM l M).2.1, (stepM l M).2.2, 1)
    else ((runM l k (stepM l M).1).1, (runM l k (stepM l M).1).2.1, (runM l k (stepM l M).1).2.2.1, (runM l k (stepM l M).1).2.2.2 + 1)
def newM (words : Int) : Mach := ⟨0, fun _ => 0, List.replicate (min words 64).toNat 0, 0, 0⟩
def mayM (M : Mach) : Bool := decide (0 ≤ M.p ∧ M.p ≤ 65535 ∧ M.mem.length ≤ 64 ∧ ((M.s = 2 ∧ 80 ≤ M.t ∧ M.t ≤ 83) ∨ ((M.s = 0 ∨ M.s = 1) ∧ M.t = 0)))

/-- what a step leaves, and what it comes to -/
structure Stepped (M x : Mach) (kd nm : Int) : Prop where
  len : x.mem.length = M.mem.length
  one : (x.r = M.r ∧ x.mem = M.mem) ∨ (kd = 0 ∧ x.mem = M.mem ∧ ∃ a, ∀ j, j ≠ a → x.r j = M.r j) ∨ (kd = 0 ∧ x.r = M.r ∧ ∃ k v, x.mem = M.mem.set k v)
  stays : x.s = M.s ∨ (M.s = 0 ∧ ((kd = 2 ∧ x.s = 1) ∨ (kd = 3 ∧ x.s = 2 ∧ x.t = nm ∧ x.p = M.p)))
theorem stepped_trap (M : Mach) (c : Int) (h : M.s = 0) : Stepped M (trapM M c).1 (trapM M c).2.1 (trapM M c).2.2 :=
  ⟨rfl, .inl ⟨rfl, rfl⟩, .inr ⟨h, .inr ⟨rfl, rfl, rfl, rfl⟩⟩⟩
theorem stepped_set (M : Mach) (a : Nat) (v : Int) : Stepped M (step1 (setR M a v)) 0 0 :=
  ⟨rfl, .inr (.inl ⟨rfl, rfl, a, fun _ hj => if_neg hj⟩), .inl rfl⟩
theorem doM_stepped (i : Ins) (M : Mach) (h : M.s = 0) : Stepped M (doM i M).1 (doM i M).2.1 (doM i M).2.2 := by
  unfold doM
  split
  · exact stepped_trap M 83 h
  · split
    · exact ⟨rfl, .inl ⟨rfl, rfl⟩, .inr ⟨h, .inl ⟨rfl, rfl⟩⟩⟩
    · split
      · exact stepped_set M _ _
      · split
        · exact stepped_set M _ _
        · split
          · split
            · exact stepped_trap M 80 h
            · exact stepped_set M _ _
          · split
            · split
              · exact stepped_trap M 81 h
              · split
                · exact stepped_set M _ _
                · exact ⟨by simp [step1], .inr (.inr ⟨rfl, rfl, _, _, rfl⟩), .inl rfl⟩
            · split
              · exact ⟨rfl, .inl ⟨rfl, rfl⟩, .inl rfl⟩
              · split
                · exact ⟨rfl, .inl ⟨rfl, rfl⟩, .inl rfl⟩
                · exact ⟨rfl, .inl ⟨rfl, rfl⟩, .inl rfl⟩
theorem stepM_stepped (l : List Ins) (M : Mach) : Stepped M (stepM l M).1 (stepM l M).2.1 (stepM l M).2.2 := by
  unfold stepM
  split
  · exact ⟨rfl, .inl ⟨rfl, rfl⟩, .inl rfl⟩
  · rename_i h
    have h0 : M.s = 0 := by omega
    split
    · exact stepped_trap M 82 h0
    · exact doM_stepped _ M h0
/-- a machine on its way through a list of n instructions -/
structure On (n : Nat) (M : Mach) : Prop where
  p0 : 0 ≤ M.p
  pn : M.p < n
  st : (M.s = 2 ∧ 80 ≤ M.t ∧ M.t ≤ 83) ∨ ((M.s = 0 ∨ M.s = 1) ∧ M.t = 0)
theorem On.may {n : Nat} {M : Mach} (h : On n M) (hn : n ≤ 65536) (hm : M.mem.length ≤ 64) : mayM M = true :=
  decide_eq_true ⟨h.p0, by have := h.pn; omega, hm, h.st⟩
theorem on_new {n : Nat} (h : 0 < n) (words : Int) : On n (newM words) := ⟨Int.le_refl _, by show (0 : Int) < n; omega, .inr ⟨.inl rfl, rfl⟩⟩
theorem new_len (words : Int) : (newM words).mem.length ≤ 64 := by simp [newM]; omega
/-- of a program, on its way: the step's event is no trap but 80 and 81, and it stays on its way -/
theorem doM_on {l : List Ins} (hp : (checkL l).1 = 0) {M : Mach} (hM : On l.length M) (h : M.s = 0) :
    On l.length (doM (l.getD M.p.toNat i0) M).1 ∧ ((doM (l.getD M.p.toNat i0) M).2.1 = 3 → (doM (l.getD M.p.toNat i0) M).2.2 = 80 ∨ (doM (l.getD M.p.toNat i0) M).2.2 = 81) := by
  obtain ⟨h1, h2, h3, h4⟩ := prog_facts hp
  obtain ⟨a, ea⟩ : ∃ a : Nat, M.p = (a : Int) := ⟨M.p.toNat, by have := hM.p0; omega⟩
  have hp0 := hM.p0
  have hpn := hM.pn
  have ha : a < l.length := by omega
  have hw := h3 a ha
  have ea' : M.p.toNat = a := by omega
  rw [ea']
  have hlast : (l.getD a i0).op ≠ 0 → (l.getD a i0).op ≠ 15 → a + 1 < l.length := fun g0 g15 => by
    rcases Nat.lt_or_ge (a + 1) l.length with h | h
    · exact h
    · exfalso
      have ea : l.length - 1 = a := by omega
      rw [ea] at h4
      omega
  have ht0 : M.t = 0 := by have := hM.st; omega
  obtain ⟨i, ei⟩ : ∃ i, l.getD a i0 = i := ⟨_, rfl⟩
  rw [ei] at hw hlast ⊢
  have hf : ¬ formedB i = false := fun hf => by unfold wrongAt at hw; rw [if_pos hf] at hw; cases hw
  have nx : (i.op ≠ 0 → i.op ≠ 15 → ∀ x : Mach, x.p = M.p → x.s = 0 → x.t = 0 → On l.length (step1 x)) := fun g0 g15 x e1 e2 e3 => by
    have := hlast g0 g15
    exact ⟨by show 0 ≤ x.p + 1; omega, by show x.p + 1 < (l.length : Int); omega, .inr ⟨.inl e2, e3⟩⟩
  have tr : ∀ c : Int, c = 80 ∨ c = 81 → On l.length (trapM M c).1 ∧ ((trapM M c).2.1 = 3 → (trapM M c).2.2 = 80 ∨ (trapM M c).2.2 = 81) := fun c hc =>
    ⟨⟨hM.p0, hM.pn, .inl ⟨rfl, by show (80 : Int) ≤ c; omega, by show c ≤ (83 : Int); omega⟩⟩, fun _ => hc⟩
  unfold doM
  rw [if_neg hf]
  split
  · exact ⟨⟨hM.p0, hM.pn, .inr ⟨.inr rfl, ht0⟩⟩, fun e => absurd e (by decide : ¬ (2 : Int) = 3)⟩
  · rename_i g0
    split
    · rename_i g1
      exact ⟨nx g0 (by omega) _ rfl h ht0, fun e => absurd e (by decide : ¬ (0 : Int) = 3)⟩
    · split
      · rename_i g1 g2
        exact ⟨nx g0 (by omega) _ rfl h ht0, fun e => absurd e (by decide : ¬ (0 : Int) = 3)⟩
      · split
        · rename_i g12
          split
          · exact tr 80 (.inl rfl)
          · exact ⟨nx g0 (by omega) _ rfl h ht0, fun e => absurd e (by decide : ¬ (0 : Int) = 3)⟩
        · split
          · rename_i g14
            split
            · exact tr 81 (.inr rfl)
            · split
              · exact ⟨nx g0 (by omega) _ rfl h ht0, fun e => absurd e (by decide : ¬ (0 : Int) = 3)⟩
              · exact ⟨nx g0 (by omega) _ rfl h ht0, fun e => absurd e (by decide : ¬ (0 : Int) = 3)⟩
          · split
            · rename_i gj
              have hn := place_num hw (by omega)
              exact ⟨⟨by show (0 : Int) ≤ (i.num : Int); omega, by show (i.num : Int) < (l.length : Int); omega, .inr ⟨.inl h, ht0⟩⟩, fun e => absurd e (by decide : ¬ (0 : Int) = 3)⟩
            · rename_i gj
              split
              · exact ⟨nx g0 (by omega) _ rfl h ht0, fun e => absurd e (by decide : ¬ (0 : Int) = 3)⟩
              · exact ⟨nx g0 (by omega) _ rfl h ht0, fun e => absurd e (by decide : ¬ (1 : Int) = 3)⟩
theorem stepM_on {l : List Ins} (hp : (checkL l).1 = 0) {M : Mach} (hM : On l.length M) :
    On l.length (stepM l M).1 ∧ ((stepM l M).2.1 = 3 → (stepM l M).2.2 = 80 ∨ (stepM l M).2.2 = 81) := by
  unfold stepM
  split
  · exact ⟨hM, fun e => absurd e (by decide : ¬ (0 : Int) = 3)⟩
  · rename_i h
    rw [if_neg (by have := hM.p0; have := hM.pn; omega)]
    exact doM_on hp hM (by omega)
theorem runM_on {l : List Ins} (hp : (checkL l).1 = 0) : ∀ (k : Nat) {M : Mach}, On l.length M → On l.length (runM l k M).1 ∧ (runM l k M).1.mem.length = M.mem.length
  | 0, M, h => ⟨h, rfl⟩
  | k + 1, M, h => by
    have h1 := stepM_on hp h
    have h2 := (stepM_stepped l M).len
    have ih := runM_on hp k h1.1
    simp only [runM]
    split
    · exact ⟨h, rfl⟩
    · split
      · exact ⟨h1.1, h2⟩
      · exact ⟨ih.1, ih.2.trans h2⟩
end Go.Proofs.YthgiehlfmdobkaaDoor
