/-
  Package disk's New, Load and Waiting (of a disk where nothing waits), by their contracts. Conditions: each theorem's own premises.
-/
import Derived.Test.YtdhaikcmgegfoaaDiskCode7
import Derived.Test.YtdhaikcmgegfoaaDiskSector
namespace Go.Proofs.Ytdhaikcmgegfoaa
open Go.RowKit

theorem flat_new : ∀ n : Nat, (List.replicate n nought).flatten = List.replicate (64 * n) 0
  | 0 => rfl
  | n + 1 => by
    rw [List.replicate_succ, List.flatten_cons, flat_new n, nought, List.replicate_append_replicate]
    congr 1
    omega
theorem disk_built (A : Option Addr) (n c : Nat) : Try.prog.built 85 [(0, .slice A n c), (2, .bool true)] = some #[.slice A n c, .slice none 0 0, .bool true, .pointer none] := by kernel_rfl
theorem disk_new (a : Act) (x y : Operand) (A : Option Addr) (n c : Nat) (hx : a.eval x = .slice A n c) (hy : a.eval y = .bool true) : Try.prog.built 85 ((#[(0, x), (2, y)] : Array (Nat × Operand)).map fun (i, x) => (i, a.eval x)).toList = some #[.slice A n c, .slice none 0 0, .bool true, .pointer none] := by
  have e : ((#[(0, x), (2, y)] : Array (Nat × Operand)).map fun (i, x) => (i, a.eval x)).toList = [(0, .slice A n c), (2, .bool true)] := by simp [hx, hy]
  rw [e]
  exact disk_built A n c

theorem dkNew_no (w : World) (k : Int) (h : k < 1 ∨ 256 < k) : Calls Try.prog 13 #[.int .i64 k] w fun e w' => e = .returned (.tuple #[.pointer none, .int .i64 1]) ∧ w = w' := by
  go_enter Try.func13, Try.ntmps13
  by_cases h1 : k < 1
  · go_wp2_with fail
    go_ret2
    exact ⟨rfl, rfl⟩
  · have h2 : k > 256 := by omega
    go_wp2_with fail
    go_ret2
    exact ⟨rfl, rfl⟩

/-- a new disk, in new memory -/
def NewPost (w : World) (n : Nat) (e : Ending) (w' : World) : Prop :=
  ∃ gd F, e = .returned (.tuple #[.pointer (some ⟨gd, 0, none⟩), .int .i64 0]) ∧ CodeIs w' gd F (Dk.new n) ∧ Below w.heap.size w w' ∧ ∀ g, F g → w.heap.size ≤ g
set_option maxRecDepth 100000 in
theorem dkNew_yes (w : World) (n : Nat) (h1 : 1 ≤ n) (h2 : n ≤ 256) : Calls Try.prog 13 #[.int .i64 (n : Int)] w (NewPost w n) := by
  obtain ⟨tot, et⟩ : ∃ t, 64 * n = t := ⟨_, rfl⟩
  have hm : (n : Int) * 64 = (tot : Int) := by omega
  have ht : tot ≤ 16384 := by omega
  have ha : ¬ (n : Int) < 1 := by omega
  have hb : ¬ (n : Int) > 256 := by omega
  have HE := Lib.hid (And.intro et (And.intro h1 h2))
  clear et h1 h2
  go_enter Try.func13, Try.ntmps13
  go_wp2_with (first
    | (refine wpList_make_bs rfl (.tmp 11) (.tmp 11) rfl tot rfl rfl (by omega) ?_; intro w1 hb1 hw1 hz1)
    | (with_reducible refine at_build_ 85 ?_; refine stopped ?_)
    | fail)
  refine go_on ?_
  obtain ⟨gc, egc⟩ : ∃ g, w.heap.size = g := ⟨_, rfl⟩
  rw [egc] at hb1 hw1 hz1 ⊢
  refine wpList_build_got rfl 85 _ rfl #[.slice (some ⟨gc, 0, none⟩) tot tot, .slice none 0 0, .bool true, .pointer none] (disk_new _ _ _ _ tot tot rfl rfl) ?_
  refine wpList_box rfl 85 (.tmp 13) rfl _ rfl ?_
  intro w2 hb2 hw2 hz2
  simp only [Act.put, List.setIfInBounds_toArray, List.set_cons_zero, List.set_cons_succ]
  obtain ⟨gd, egd⟩ : ∃ g, w1.heap.size = g := ⟨_, rfl⟩
  rw [egd] at hb2 hw2 hz2 ⊢
  have HA := Lib.hid (And.intro hb1 (And.intro hw1 (And.intro hz1 (And.intro hb2 (And.intro hw2 (And.intro hz2 (And.intro egc egd)))))))
  clear hb1 hw1 hz1 hb2 hw2 hz2 egc egd
  go_wp2_with fail
  go_ret2
  obtain ⟨hb1, hw1, hz1, hb2, hw2, hz2, egc, egd⟩ := HA.out
  refine ⟨gd, (fun g => g = gd ∨ g = gc), rfl, ⟨gc, none, 0, none, ⟨Dk.new_ok n HE.out.2.2, fun e => by simp [Dk.new] at e, ?_, .inl rfl, ?_, .inr rfl, ?_, row_nil _ _ _ _, fun g e => (by cases e), .inl ⟨by simp [Dk.new], rfl⟩⟩⟩, ?_, ?_⟩
  · rintro g (rfl | rfl) <;> omega
  · have e : (dkCells gc (64 * (Dk.new n).has.length) none (Dk.new n).waits.length 0 (Dk.new n).off none).toArray = #[.slice (some ⟨gc, 0, none⟩) tot tot, .slice none 0 0, .bool true, .pointer none] := by simp [dkCells, Dk.new, HE.out.1]
    rw [e]
    exact hb2
  · have e : (Dk.new n).has.flatten = List.replicate tot 0 := by rw [← HE.out.1]; exact flat_new n
    rw [e]
    exact hb1.below hw2 (by omega)
  · rw [egc]
    exact hw1.trans (hw2.mono (by omega))
  · rintro g (rfl | rfl) <;> omega

theorem flat_cuts (l : List UInt8) : ∀ n, 64 * n ≤ l.length → (cutsN l n).flatten = l.take (64 * n)
  | 0, _ => by simp [cutsN]
  | n + 1, h => by
    rw [cutsN, List.flatten_append, flat_cuts l n (by omega), cutN]
    simp only [List.flatten_cons, List.flatten_nil, List.append_nil]
    rw [show 64 * (n + 1) = 64 * n + 64 by omega, List.take_add]
theorem load_ok {m : Dk} (h : m.ok) (b : List UInt8) : (m.load b).1.ok := by
  unfold Dk.load
  split
  · exact h
  · rename_i e
    exact ⟨by simpa using (by rw [cutsN_length]; exact h.small), cutsN_len b _ (by omega), by simp, h.leftB⟩

theorem st_copy {P : Program} {w : World} {ops : Array Oper} {rest : List Oper} {d : Option Tmp} {xs : Array Operand} {ts : Array TypeId} {t : TypeId} {p : String} {af : Array Edge} {g : Option (Nat × Bool)} {a : Act} {Q : Exit → Act → World → Prop}
    (h : wpList P ops Q (⟨d, .call { callee := .builtin .copy, args := xs, argTypes := ts }, t, p, af, g⟩ :: rest) a w) : wpList P ops Q (⟨d, .call { callee := .builtin .copy, args := xs, argTypes := ts }, t, p, af, g⟩ :: rest) a w := h
theorem bs_src {w : World} {B : Nat} {A : Option Addr} {l : List UInt8} (h : Bs w B A l) : 0 < (bv l).length → ∃ ad, A = some ad ∧ ∀ j v, (bv l)[j]? = some v → w.cell? (ad.add j) = some v := fun hpos => by
  obtain ⟨bb, oo, e, _, hc⟩ := h (by simpa [bv_length] using hpos)
  subst e
  exact ⟨_, rfl, fun j v hv => by
    have hj : j < l.length := by have := (List.getElem?_eq_some_iff.1 hv).1; simpa [bv_length] using this
    rw [Addr.add_lit, hc j hj, ← hv, bv_get hj]⟩
theorem int_whole : (Try.prog.info? 3).map (fun i => (i.zero, i.size, i.bytes)) = some (some (.int .i64 0), 1, 8) := by kernel_rfl
end Go.Proofs.Ytdhaikcmgegfoaa
