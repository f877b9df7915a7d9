/-
  Package disk's New, Load and Waiting (of a disk where nothing waits), by their contracts. Conditions: each theorem's own premises.
-/
import Derived.Test.YtnnjneijdfibnaaDiskCode7
import Derived.Test.YtnnjneijdfibnaaDiskSector
namespace Go.Proofs.Ytnnjneijdfibnaa
open Go.RowKit

theorem flat_new : ∀ n : Nat, (List.replicate n nought).flatten = List.replicate (64 * n) 0
  | 0 => rfl
  | n + 1 => by
    rw [List.replicate_succ, List.flatten_cons, flat_new n, nought, List.replicate_append_replicate]
    congr 1
    omega
theorem disk_built (A : Option Addr) (n c : Nat) : Try.prog.built 51 [(0, .slice A n c), (2, .bool true)] = some #[.slice A n c, .slice none 0 0, .bool true, .pointer none] := by kernel_rfl
theorem disk_new (a : Act) (x y : Operand) (A : Option Addr) (n c : Nat) (hx : a.eval x = .slice A n c) (hy : a.eval y = .bool true) : Try.prog.built 51 ((#[(0, x), (2, y)] : Array (Nat × Operand)).map fun (i, x) => (i, a.eval x)).toList = some #[.slice A n c, .slice none 0 0, .bool true, .pointer none] := by
  have e : ((#[(0, x), (2, y)] : Array (Nat × Operand)).map fun (i, x) => (i, a.eval x)).toList = [(0, .slice A n c), (2, .bool true)] := by simp [hx, hy]
  rw [e]
  exact disk_built A n c

theorem dkNew_no (w : World) (k : Int) (h : k < 1 ∨ 256 < k) : Calls Try.prog 6 #[.int .i64 k] w fun e w' => e = .returned (.tuple #[.pointer none, .int .i64 1]) ∧ w = w' := by
  go_enter Try.func6, Try.ntmps6
  by_cases h1 : k < 1
  · go_wp2_with fail
    go_ret2
    exact ⟨rfl, rfl⟩
  · have h2 : k > 256 := by omega
    go_wp2_with fail
    go_ret2
    exact ⟨rfl, rfl⟩

/-- a new disk, in new memory -/
def NewPost (w : World) (n : Nat) (e : Ending) (w' : World) : Prop :=
  ∃ gd F, e = .returned (.tuple #[.pointer (some ⟨gd, 0, none⟩), .int .i64 0]) ∧ CodeIs w' gd F (Dk.new n) ∧ Below w.heap.size w w' ∧ ∀ g, F g → w.heap.size ≤ g
set_option maxRecDepth 100000 in
theorem dkNew_yes (w : World) (n : Nat) (h1 : 1 ≤ n) (h2 : n ≤ 256) : Calls Try.prog 6 #[.int .i64 (n : Int)] w (NewPost w n) := by
  obtain ⟨tot, et⟩ : ∃ t, 64 * n = t := ⟨_, rfl⟩
  have hm : (n : Int) * 64 = (tot : Int) := by omega
  have ht : tot ≤ 16384 := by omega
  have ha : ¬ (n : Int) < 1 := by omega
  have hb : ¬ (n : Int) > 256 := by omega
  have HE := Lib.hid (And.intro et (And.intro h1 h2))
  clear et h1 h2
  go_enter Try.func6, Try.ntmps6
  go_wp2_with (first
    | (refine wpList_make_bs rfl (.tmp 11) (.tmp 11) rfl tot rfl rfl (by omega) ?_; intro w1 hb1 hw1 hz1)
    | (with_reducible refine at_build_ 51 ?_; refine stopped ?_)
    | fail)
  refine go_on ?_
  obtain ⟨gc, egc⟩ : ∃ g, w.heap.size = g := ⟨_, rfl⟩
  rw [egc] at hb1 hw1 hz1 ⊢
  refine wpList_build_got rfl 51 _ rfl #[.slice (some ⟨gc, 0, none⟩) tot tot, .slice none 0 0, .bool true, .pointer none] (disk_new _ _ _ _ tot tot rfl rfl) ?_
  refine wpList_box rfl 51 (.tmp 13) rfl _ rfl ?_
  intro w2 hb2 hw2 hz2
  simp only [Act.put, List.setIfInBounds_toArray, List.set_cons_zero, List.set_cons_succ]
  obtain ⟨gd, egd⟩ : ∃ g, w1.heap.size = g := ⟨_, rfl⟩
  rw [egd] at hb2 hw2 hz2 ⊢
  have HA := Lib.hid (And.intro hb1 (And.intro hw1 (And.intro hz1 (And.intro hb2 (And.intro hw2 (And.intro hz2 (And.intro egc egd)))))))
  clear hb1 hw1 hz1 hb2 hw2 hz2 egc egd
  go_wp2_with fail
  go_ret2
  obtain ⟨hb1, hw1, hz1, hb2, hw2, hz2, egc, egd⟩ := HA.out
  refine ⟨gd, (fun g => g = gd ∨ g = gc), rfl, ⟨gc, none, 0, none, ⟨Dk.new_ok n HE.out.2.2, fun e => by simp [Dk.new] at e, ?_, .inl rfl, ?_, .inr rfl, ?_, row_nil _ _ _ _, fun g e => (by cases e), .inl ⟨by simp [Dk.new], rfl⟩⟩⟩, ?_, ?_⟩
  · rintro g (rfl | rfl) <;> omega
  · have e : (dkCells gc (64 * (Dk.new n).has.length) none (Dk.new n).waits.length 0 (Dk.new n).off none).toArray = #[.slice (some ⟨gc, 0, none⟩) tot tot, .slice none 0 0, .bool true, .pointer none] := by simp [dkCells, Dk.new, HE.out.1]
    rw [e]
    exact hb2
  · have e : (Dk.new n).has.flatten = List.replicate tot 0 := by rw [← HE.out.1]; exact flat_new n
    rw [e]
    exact hb1.below hw2 (by omega)
  · rw [egc]
    exact hw1.trans (hw2.mono (by omega))
  · rintro g (rfl | rfl) <;> omega

theorem flat_cuts (l : List UInt8) : ∀ n, 64 * n ≤ l.length → (cutsN l n).flatten = l.take (64 * n)
  | 0, _ => by simp [cutsN]
  | n + 1, h => by
    rw [cutsN, List.flatten_append, flat_cuts l n (by omega), cutN]
    simp only [List.flatten_cons, List.flatten_nil, List.append_nil]
    rw [show 64 * (n + 1) = 64 * n + 64 by omega, List.take_add]
theorem load_ok {m : Dk} (h : m.ok) (b : List UInt8) : (m.load b).1.ok := by
  unfold Dk.load
  split
  · exact h
  · rename_i e
    exact ⟨by simpa using (by rw [cutsN_length]; exact h.small), cutsN_len b _ (by omega), by simp, h.leftB⟩

theorem st_copy {P : Program} {w : World} {ops : Array Oper} {rest : List Oper} {d : Option Tmp} {xs : Array Operand} {ts : Array TypeId} {t : TypeId} {p : String} {af : Array Edge} {g : Option (Nat × Bool)} {a : Act} {Q : Exit → Act → World → Prop}
    (h : wpList P ops Q (⟨d, .call { callee := .builtin .copy, args := xs, argTypes := ts }, t, p, af, g⟩ :: rest) a w) : wpList P ops Q (⟨d, .call { callee := .builtin .copy, args := xs, argTypes := ts }, t, p, af, g⟩ :: rest) a w := h
theorem bs_src {w : World} {B : Nat} {A : Option Addr} {l : List UInt8} (h : Bs w B A l) : 0 < (bv l).length → ∃ ad, A = some ad ∧ ∀ j v, (bv l)[j]? = some v → w.cell? (ad.add j) = some v := fun hpos => by
  obtain ⟨bb, oo, e, _, hc⟩ := h (by simpa [bv_length] using hpos)
  subst e
  exact ⟨_, rfl, fun j v hv => by
    have hj : j < l.length := by have := (List.getElem?_eq_some_iff.1 hv).1; simpa [bv_length] using this
    rw [Addr.add_lit, hc j hj, ← hv, bv_get hj]⟩
set_option maxRecDepth 100000 in
theorem dkLoad (w : World) (gd : Nat) (F : Nat → Prop) (m : Dk) (h : CodeIs w gd F m) (A : Option Addr) (b : List UInt8) (c : Nat) (hA : Bs w w.heap.size A b) :
    Calls Try.prog 38 #[.pointer (some ⟨gd, 0, none⟩), .slice A b.length c] w fun e w' => e = .returned (.int .i64 ((m.load b).2 : Nat)) ∧ CodeIs w' gd F (m.load b).1 ∧ Kept F w w' := by
  obtain ⟨gc, W, cw, T, h⟩ := h
  have h0 := h.c0
  obtain ⟨tot, et⟩ : ∃ t, 64 * m.has.length = t := ⟨_, rfl⟩
  obtain ⟨nb, enb⟩ : ∃ t, b.length = t := ⟨_, rfl⟩
  rw [et] at h0
  have HC := Lib.hid (And.intro h (And.intro hA (And.intro et enb)))
  rw [enb]
  have hsm : tot ≤ 16384 := by have := h.ok.small; omega
  clear h hA
  by_cases hne : nb = tot
  · have hlo : m.load b = ({ m with has := cutsN b m.has.length, waits := [] }, 0) := by
      unfold Dk.load
      rw [if_neg (by omega)]
    have HL := Lib.hid (And.intro hlo hne)
    rw [hlo]
    subst hne
    clear hlo et enb
    go_enter Try.func38, Try.ntmps38
    go_wp2_with (first
      | (with_reducible refine st_copy ?_; refine stopped ?_)
      | fail)
    refine go_on ?_
    refine wpList_copy_to rfl (.tmp 16) (.tmp 17) 27 27 rfl 5 Try.underlying27 u8_size gc 0 nb nb nb c A rfl rfl (bv m.has.flatten) 5 HC.out.1.content (bv b) (by rw [bv_length, HC.out.2.2.2]; exact (Nat.min_self _).symm) (bs_src HC.out.2.1) (by rw [bv_length, bv_length, flat_length HC.out.1.ok.len]; have := HC.out.2.2; omega) (bv_one _) ?_
    intro w1 hb1 hg1
    have hk1 : Kept (· = gc) w w1 := .of_grown hg1 (fun g e => .inl (Option.some.inj e).symm)
    have hcu : cutsN b m.has.length = (m.load b).1.has := by rw [HL.out.1]
    have hat1 : CodeAt w1 gd F { m with has := cutsN b m.has.length } gc W cw T := HC.out.1.fill hk1 (by
      rw [splice_whole _ _ (by rw [bv_length, bv_length, flat_length HC.out.1.ok.len]; have := HC.out.2.2; omega)] at hb1
      rw [flat_cuts b _ (by have := HC.out.2.2; omega), List.take_of_length_le (by have := HC.out.2.2; omega)]
      exact hb1) (cutsN_length _ _) ⟨by simp only [cutsN_length]; exact HC.out.1.ok.small, cutsN_len b _ (by have := HC.out.2.2; omega), by simp only [cutsN_length]; exact HC.out.1.ok.at_, HC.out.1.ok.leftB⟩
    have hc1 := hat1.c1
    have hf1 := hat1.blk.frozen 1
    have HA := Lib.hid (And.intro hat1 hk1)
    clear hat1 hk1 hcu hb1 hg1
    go_wp2_with fail
    go_ret
    have hb4 := HA.out.1.blk.set_ 1 (.slice none 0 0)
    have hok : (m.load b).1.ok := load_ok HC.out.1.ok b
    rw [HL.out.1] at hok
    have hat4 := HA.out.1.put (m' := { m with has := cutsN b m.has.length, waits := [] }) (W' := none) (T' := T) (cw' := 0) (one_set w1 gd 1 (.slice none 0 0)) (by simpa [dkCells] using hb4) hok (fun e => ⟨rfl, (HC.out.1.idle e).2⟩) rfl (.inl ⟨rfl, rfl, rfl⟩) (.inr ⟨rfl, rfl, rfl⟩)
    exact ⟨rfl, ⟨_, _, _, _, hat4⟩, (HA.out.2.mono (fun g e => by rw [e]; exact HC.out.1.ownC)).trans (Kept.of_grown (F := F) (one_set w1 gd 1 (.slice none 0 0)) (fun g e => by cases e; exact .inl HC.out.1.own)) (fun g hg => .inl hg)⟩
  · have hlo : m.load b = (m, 1) := by
      unfold Dk.load
      rw [if_pos (by omega)]
    have hnei : ¬ (nb : Int) = (tot : Int) := by omega
    rw [hlo]
    clear hlo et enb
    go_enter Try.func38, Try.ntmps38
    go_wp2_with fail
    go_ret
    exact ⟨rfl, ⟨gc, W, cw, T, HC.out.1⟩, .refl _ _⟩

theorem int_whole : (Try.prog.info? 3).map (fun i => (i.zero, i.size, i.bytes)) = some (some (.int .i64 0), 1, 8) := by kernel_rfl
theorem dkWaiting0 (w : World) (gd : Nat) (F : Nat → Prop) (m : Dk) (h : CodeIs w gd F m) (hw : m.waits = []) :
    Calls Try.prog 18 #[.pointer (some ⟨gd, 0, none⟩)] w fun e w' => (∃ A, e = .returned (.slice A 0 0)) ∧ Below w.heap.size w w' := by
  obtain ⟨gc, W, cw, T, h⟩ := h
  have h1 := h.c1
  have h1' := fun o => (h.below (below_alloc w o)).c1
  rw [hw] at h1
  simp only [hw] at h1'
  obtain ⟨i, hi, hz, hs1, hs2⟩ := info_parts int_whole
  have hmk := run_make (P := Try.prog) w 40 3 i (.int .i64 0) Try.underlying40 hi hz .i64 .i64 0 0 (by omega) (by omega) (by rw [hs2]; omega) (by omega)
  clear h hw
  go_enter Try.func18, Try.ntmps18
  go_wp2_with fail
  go_loopw [17] (fun i wz => i = .int .i64 0 ∧ Below w.heap.size w wz) (fun _ _ => 0)
  case atStart => exact ⟨rfl, below_alloc w _⟩
  case round =>
    obtain ⟨rfl, hbel⟩ := hrel
    have hnl : ¬ (0 : Int) < 0 := by omega
    go_wp2_with fail
    go_ret
    exact ⟨⟨_, rfl⟩, hbel⟩
end Go.Proofs.Ytnnjneijdfibnaa
