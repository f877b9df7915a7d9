/-
  Package disk's Disk in memory: which blocks it has, what it says as plain data; what a call may write. Conditions: each theorem's own premises.
-/
import Derived.Test.YtdhaikcmgegfoaaDiskRef8
namespace Go.Proofs.Ytdhaikcmgegfoaa
open Go.RowKit

/-- what is old and lies outside F stays as it is -/
structure Kept (F : Nat → Prop) (w w' : World) : Prop where
  os : w'.os = w.os
  tape : w'.tape = w.tape
  output : w'.output = w.output
  size : w.heap.size ≤ w'.heap.size
  block : ∀ i, i < w.heap.size → ¬ F i → w'.heap[i]? = w.heap[i]?
section
variable {F F' : Nat → Prop} {a b c w w' : World} {g B : Nat}
theorem Kept.refl (F : Nat → Prop) (w : World) : Kept F w w := ⟨rfl, rfl, rfl, Nat.le_refl _, fun _ _ _ => rfl⟩
theorem Kept.trans (h : Kept F a b) (k : Kept F' b c) (hF : ∀ g, F' g → F g ∨ a.heap.size ≤ g) : Kept F a c :=
  ⟨k.os.trans h.os, k.tape.trans h.tape, k.output.trans h.output, Nat.le_trans h.size k.size, fun i hi hn =>
    (k.block i (Nat.lt_of_lt_of_le hi h.size) (fun hf => by
      rcases hF i hf with h1 | h1
      · exact hn h1
      · omega)).trans (h.block i hi hn)⟩
theorem Kept.of_below (h : Below w.heap.size w w') : Kept F w w' := ⟨h.os, h.tape, h.output, h.size, fun i hi _ => h.block i hi⟩
theorem Kept.of_grown {row : Option Nat} (h : w.grownBy w' row) (hg : ∀ g, row = some g → F g ∨ w.heap.size ≤ g) : Kept F w w' :=
  ⟨h.os, h.tape, h.output, h.size, fun i hi hn => h.block i hi (fun e => by
    rcases hg i e.symm with h1 | h1
    · exact hn h1
    · omega)⟩
theorem Kept.below (h : Kept F w w') (hF : ∀ g, F g → B ≤ g) (hB : B ≤ w.heap.size) : Below B w w' :=
  ⟨h.os, h.tape, h.output, h.size, fun k hk => h.block k (by omega) (fun hf => by have := hF k hf; omega)⟩
theorem Kept.blk {t : TypeId} {cs : Array Value} (h : Kept F w w') (hb : Blk w g t cs) (hg : ¬ F g) : Blk w' g t cs := (h.block g hb.lt hg).trans hb
theorem Kept.set (F : Nat → Prop) (w : World) (p : Addr) (v : Value) (hp : F p.block ∨ w.heap.size ≤ p.block) : Kept F w (w.setCell p v) :=
  ⟨rfl, rfl, rfl, by simp [World.setCell], fun i hi hn => Below.heap_setCell w p v i (fun e => by
    subst e
    rcases hp with h1 | h1
    · exact hn h1
    · omega)⟩
theorem Kept.undr (h : Kept F w.drew w') : Kept F w w' := ⟨h.os, h.tape, h.output, h.size, h.block⟩
theorem Blk.apart {g' : Nat} {t t' : TypeId} {cs cs' : Array Value} (h : Blk w g t cs) (h' : Blk w g' t' cs') (ht : t ≠ t') : g ≠ g' := by
  rintro rfl
  unfold Blk at h h'
  rw [h] at h'
  injection h' with h'
  injection h' with _ h'
  exact ht h'
theorem row_apart {base n size : Nat} {t t' : TypeId} {v : Value} {vs : List Value} {cs : Array Value} (h : w.ownsRow base t size v n vs) (h' : Blk w g t' cs) (ht : t ≠ t') : v.ownBlock ≠ some g := by
  rcases h.2 with ⟨rfl, _⟩ | ⟨g', cap, cur, rfl, _, hh, _⟩
  · simp [Value.ownBlock]
  · intro e
    simp only [Value.ownBlock, Option.some.injEq] at e
    subst e
    exact Blk.apart (w := w) (g := g') (g' := g') hh h' ht rfl
theorem rows_apart {base n size base' n' size' : Nat} {t t' : TypeId} {v v' : Value} {vs vs' : List Value} (h : w.ownsRow base t size v n vs) (h' : w.ownsRow base' t' size' v' n' vs') (ht : t ≠ t') {g : Nat} (e : v.ownBlock = some g) : v'.ownBlock ≠ some g := by
  rcases h.2 with ⟨rfl, _⟩ | ⟨g', cap, cur, rfl, _, hh, _⟩
  · simp [Value.ownBlock] at e
  · simp only [Value.ownBlock, Option.some.injEq] at e
    subst e
    exact row_apart h' (g := g') hh (Ne.symm ht)
/-- a row of the call's own, when another block has been written -/
theorem row_grown {base n size : Nat} {e : TypeId} {v : Value} {vs : List Value} {row : Option Nat} (h : w.ownsRow base e size v n vs) (hg : w.grownBy w' row) (hne : ∀ g, v.ownBlock = some g → row ≠ some g) : w'.ownsRow base e size v n vs :=
  World.ownsRow.kept h hg (by
    cases e2 : v.ownBlock with
    | none => exact .inl rfl
    | some k => exact .inr (fun h2 => hne k e2 h2.symm))
theorem row_keep {base n size : Nat} {e : TypeId} {v : Value} {vs : List Value} (h : w.ownsRow base e size v n vs) (hk : Kept F w w') (hne : ∀ g, v.ownBlock = some g → ¬ F g) : w'.ownsRow base e size v n vs := by
  refine ⟨h.1, ?_⟩
  rcases h.2 with h2 | ⟨g, cap, cur, hv, hg, hh, hr⟩
  · exact .inl h2
  · exact .inr ⟨g, cap, cur, hv, hg, (hk.block g (Array.getElem?_eq_some_iff.1 hh).1 (hne g (by rw [hv]; rfl))).trans hh, hr⟩
end

/-- a pending write's cells -/
def wr1 (p : Nat × List UInt8) : List Value := .int .i64 (p.1 : Int) :: bv p.2
def cws : List (Nat × List UInt8) → List Value
  | [] => []
  | p :: r => wr1 p ++ cws r
theorem wr1_length (p : Nat × List UInt8) (h : p.2.length = 64) : (wr1 p).length = 65 := by simp [wr1, bv_length, h]
theorem cws_append : ∀ a b : List (Nat × List UInt8), cws (a ++ b) = cws a ++ cws b
  | [], _ => rfl
  | _ :: r, b => by simp only [List.cons_append, cws, cws_append r b, List.append_assoc]
theorem cws_length : ∀ l : List (Nat × List UInt8), (∀ p ∈ l, p.2.length = 64) → (cws l).length = l.length * 65
  | [], _ => rfl
  | p :: r, h => by
    rw [cws, List.length_append, wr1_length p (h p (by simp)), cws_length r (fun q hq => h q (by simp [hq])), List.length_cons]
    omega
theorem wr1_one (p : Nat × List UInt8) : ∀ u ∈ wr1 p, u.oneCell' = true := by
  intro u hu
  simp only [wr1, List.mem_cons] at hu
  rcases hu with rfl | hu
  · rfl
  · exact bv_one _ u hu
theorem cws_part : ∀ {l : List (Nat × List UInt8)}, (∀ p ∈ l, p.2.length = 64) → ∀ {j : Nat}, j < l.length → ∀ {i : Nat} {v : Value}, (wr1 (l.getD j (0, [])))[i]? = some v → (cws l)[j * 65 + i]? = some v
  | p :: r, h, 0, _, i, v, hi => by
    have hlt := (List.getElem?_eq_some_iff.1 hi).1
    simp only [List.getD_cons_zero] at hi hlt
    rw [cws, Nat.zero_mul, Nat.zero_add, List.getElem?_append_left hlt, hi]
  | p :: r, h, j + 1, hj, i, v, hi => by
    have := cws_part (l := r) (fun q hq => h q (by simp [hq])) (j := j) (by simpa using hj) (i := i) (v := v) (by simpa using hi)
    rw [cws, List.getElem?_append_right (by rw [wr1_length p (h p (by simp))]; omega), wr1_length p (h p (by simp)), show (j + 1) * 65 + i - 65 = j * 65 + i by omega]
    exact this

/-- sectors, one behind the other -/
theorem flat_length : ∀ {h : List (List UInt8)}, (∀ s ∈ h, s.length = 64) → h.flatten.length = 64 * h.length
  | [], _ => rfl
  | s :: r, h => by
    rw [List.flatten_cons, List.length_append, h s (by simp), flat_length (fun q hq => h q (by simp [hq])), List.length_cons]
    omega
theorem flat_set : ∀ {h : List (List UInt8)}, (∀ s ∈ h, s.length = 64) → ∀ {k : Nat}, k < h.length → ∀ {s : List UInt8}, s.length = 64 → splice h.flatten (64 * k) s = (h.set k s).flatten
  | x :: r, h, 0, _, s, hs => by
    have hx := h x (by simp)
    simp only [splice, Nat.mul_zero, List.take_zero, List.nil_append, Nat.zero_add, List.set_cons_zero, List.flatten_cons, hs]
    rw [List.drop_append, hx, List.drop_eq_nil_of_le (by omega)]
    simp
  | x :: r, h, k + 1, hk, s, hs => by
    have hx := h x (by simp)
    have ih := flat_set (h := r) (fun q hq => h q (by simp [hq])) (k := k) (by simpa using hk) hs
    rw [List.set_cons_succ, List.flatten_cons, List.flatten_cons, ← ih]
    simp only [splice]
    rw [List.take_append, hx, List.take_of_length_le (by omega), show 64 * (k + 1) - 64 = 64 * k by omega, List.drop_append, hx, List.drop_eq_nil_of_le (by omega), show 64 * (k + 1) + s.length - 64 = 64 * k + s.length by omega]
    simp
theorem flat_cut : ∀ {h : List (List UInt8)}, (∀ s ∈ h, s.length = 64) → ∀ {k : Nat}, k < h.length → (h.flatten.take (64 * k + 64)).drop (64 * k) = h.getD k []
  | x :: r, h, 0, _ => by
    have hx := h x (by simp)
    simp only [Nat.mul_zero, Nat.zero_add, List.drop_zero, List.flatten_cons, List.getD_cons_zero]
    rw [List.take_append_of_le_length (by omega), List.take_of_length_le (by omega)]
  | x :: r, h, k + 1, hk => by
    have hx := h x (by simp)
    have ih := flat_cut (h := r) (fun q hq => h q (by simp [hq])) (k := k) (by simpa using hk)
    rw [List.getD_cons_succ, ← ih, List.flatten_cons, List.take_append, hx, List.take_of_length_le (by omega), show 64 * (k + 1) + 64 - 64 = 64 * k + 64 by omega, List.drop_append, hx, List.drop_eq_nil_of_le (by omega), show 64 * (k + 1) - 64 = 64 * k by omega]
    simp
theorem bv_splice (l : List UInt8) (o : Nat) (cs : List UInt8) : splice (bv l) o (bv cs) = bv (splice l o cs) := by
  simp [splice, bv, List.map_take, List.map_drop]
theorem splice_length (l cs : List UInt8) (o : Nat) (h : o + cs.length ≤ l.length) : (splice l o cs).length = l.length := by
  simp [splice]
  omega
theorem getD_len {h : List (List UInt8)} (hl : ∀ s ∈ h, s.length = 64) {k : Nat} (hk : k < h.length) : (h.getD k []).length = 64 := by
  rw [List.getD, List.getElem?_eq_getElem hk]
  exact hl _ (List.getElem_mem hk)

/-- the disk's four cells -/
def dkCells (gc tot : Nat) (W : Option Addr) (nw cw : Nat) (off : Bool) (T : Option Addr) : List Value :=
  [.slice (some ⟨gc, 0, none⟩) tot tot, .slice W nw cw, .bool (!off), .pointer T]
/-- what it is armed with -/
def ArmedIs (w : World) (F : Nat → Prop) (T : Option Addr) (left : Int) (surv : List Bool) : Prop :=
  (left < 0 ∧ T = none) ∨ (0 ≤ left ∧ ∃ ga S cs, T = some ⟨ga, 0, none⟩ ∧ F ga ∧ Blk w ga 104 #[.int .i64 left, .slice S surv.length cs] ∧
    w.ownsRow 0 4 1 (.slice S surv.length cs) surv.length (bvs surv) ∧ ∀ g, (Value.slice S surv.length cs).ownBlock = some g → F g)
structure CodeAt (w : World) (gd : Nat) (F : Nat → Prop) (m : Dk) (gc : Nat) (W : Option Addr) (cw : Nat) (T : Option Addr) : Prop where
  ok : m.ok
  idle : m.off = true → m.waits = [] ∧ m.left < 0
  lt : ∀ g, F g → g < w.heap.size
  own : F gd
  blk : Blk w gd 85 (dkCells gc (64 * m.has.length) W m.waits.length cw m.off T).toArray
  ownC : F gc
  content : Blk w gc 5 (bv m.has.flatten).toArray
  pend : w.ownsRow 0 94 65 (.slice W m.waits.length cw) m.waits.length (cws m.waits)
  ownP : ∀ g, (Value.slice W m.waits.length cw).ownBlock = some g → F g
  armed : ArmedIs w F T m.left m.surv
/-- block gd is a disk that says m; its blocks are those of F -/
def CodeIs (w : World) (gd : Nat) (F : Nat → Prop) (m : Dk) : Prop := ∃ gc W cw T, CodeAt w gd F m gc W cw T

section
variable {F F' G : Nat → Prop} {w w' : World} {gd gc cw : Nat} {W T : Option Addr} {m : Dk}
theorem ArmedIs.keep {left : Int} {surv : List Bool} (h : ArmedIs w F T left surv) (hk : Kept G w w') (hG : ∀ g, F g → ¬ G g) : ArmedIs w' F T left surv := by
  rcases h with h | ⟨h0, ga, S, cs, e, h1, h2, h3, h4⟩
  · exact .inl h
  · exact .inr ⟨h0, ga, S, cs, e, h1, hk.blk h2 (hG _ h1), row_keep h3 hk (fun g e => hG g (h4 g e)), h4⟩
theorem CodeAt.keep (h : CodeAt w gd F m gc W cw T) (hk : Kept G w w') (hG : ∀ g, F g → ¬ G g) : CodeAt w' gd F m gc W cw T :=
  ⟨h.ok, h.idle, fun g hg => Nat.lt_of_lt_of_le (h.lt g hg) hk.size, h.own, hk.blk h.blk (hG _ h.own), h.ownC, hk.blk h.content (hG _ h.ownC), row_keep h.pend hk (fun g e => hG g (h.ownP g e)), h.ownP, h.armed.keep hk hG⟩
theorem CodeIs.keep (h : CodeIs w gd F m) (hk : Kept G w w') (hG : ∀ g, F g → ¬ G g) : CodeIs w' gd F m :=
  let ⟨gc, W, cw, T, h⟩ := h
  ⟨gc, W, cw, T, h.keep hk hG⟩
theorem CodeAt.below (h : CodeAt w gd F m gc W cw T) (hb : Below w.heap.size w w') : CodeAt w' gd F m gc W cw T := h.keep (G := fun _ => False) (.of_below hb) (fun _ _ h => h)
theorem CodeIs.below (h : CodeIs w gd F m) (hb : Below w.heap.size w w') : CodeIs w' gd F m := h.keep (G := fun _ => False) (.of_below hb) (fun _ _ h => h)
theorem CodeIs.lt (h : CodeIs w gd F m) : ∀ g, F g → g < w.heap.size := let ⟨_, _, _, _, h⟩ := h; h.lt
theorem CodeIs.ok (h : CodeIs w gd F m) : m.ok := let ⟨_, _, _, _, h⟩ := h; h.ok
theorem CodeIs.idle (h : CodeIs w gd F m) : m.off = true → m.waits = [] ∧ m.left < 0 := let ⟨_, _, _, _, h⟩ := h; h.idle
theorem CodeIs.own (h : CodeIs w gd F m) : F gd := let ⟨_, _, _, _, h⟩ := h; h.own
theorem CodeAt.c0 (h : CodeAt w gd F m gc W cw T) : w.cell? ⟨gd, 0, none⟩ = some (.slice (some ⟨gc, 0, none⟩) (64 * m.has.length) (64 * m.has.length)) := by rw [h.blk.cell]; rfl
theorem CodeAt.c1 (h : CodeAt w gd F m gc W cw T) : w.cell? ⟨gd, 1, none⟩ = some (.slice W m.waits.length cw) := by rw [h.blk.cell]; rfl
theorem CodeAt.c2 (h : CodeAt w gd F m gc W cw T) : w.cell? ⟨gd, 2, none⟩ = some (.bool (!m.off)) := by rw [h.blk.cell]; rfl
theorem CodeAt.c3 (h : CodeAt w gd F m gc W cw T) : w.cell? ⟨gd, 3, none⟩ = some (.pointer T) := by rw [h.blk.cell]; rfl
end

/-- behind a call on the disk: it returned v, the disk says m' -/
def CodePost (w : World) (gd : Nat) (F : Nat → Prop) (m' : Dk) (v : Value) (e : Ending) (w' : World) : Prop :=
  e = .returned v ∧ ∃ F', CodeIs w' gd F' m' ∧ Kept F w w' ∧ ∀ g, F' g → F g ∨ w.heap.size ≤ g

theorem dkSize (w : World) (gd : Nat) (F : Nat → Prop) (m : Dk) (h : CodeIs w gd F m) : Calls Try.prog 42 #[.pointer (some ⟨gd, 0, none⟩)] w fun e w' => e = .returned (.int .i64 (m.has.length : Int)) ∧ w = w' := by
  obtain ⟨gc, W, cw, T, h⟩ := h
  have h0 := h.c0
  have hs := h.ok.small
  obtain ⟨n, en⟩ : ∃ n, m.has.length = n := ⟨_, rfl⟩
  obtain ⟨tot, et⟩ : ∃ t, 64 * n = t := ⟨_, rfl⟩
  rw [en, et] at h0
  rw [en] at hs ⊢
  have hq : Int.tdiv (tot : Int) 64 = (n : Int) := by rw [← et, Int.natCast_mul]; exact Int.mul_tdiv_cancel_left _ (by decide)
  clear h en
  go_enter Try.func42, Try.ntmps42
  go_wp2_with fail
  go_ret
  exact ⟨rfl, rfl⟩

/-- is there such a sector? -/
def inside (m : Dk) (k : Int) : Bool := decide (0 ≤ k) && decide (k < (m.has.length : Int))
theorem dkExists (w : World) (gd : Nat) (F : Nat → Prop) (m : Dk) (h : CodeIs w gd F m) (k : Int) : Calls Try.prog 49 #[.pointer (some ⟨gd, 0, none⟩), .int .i64 k] w fun e w' => e = .returned (.bool (inside m k)) ∧ w = w' := by
  have hsz := Lib.hid (dkSize w gd F m h)
  clear h
  unfold inside
  obtain ⟨n, en⟩ : ∃ n, m.has.length = n := ⟨_, rfl⟩
  rw [en] at hsz ⊢
  go_enter Try.func49, Try.ntmps49
  by_cases hk : 0 ≤ k
  · have hge : k ≥ 0 := hk
    by_cases hn : k < (n : Int)
    · go_wp2_with (go_at_call 42; refine hsz.out.mono ?_; rintro e w' ⟨rfl, rfl⟩)
      go_ret
      exact ⟨by simp [hk, hn], rfl⟩
    · go_wp2_with (go_at_call 42; refine hsz.out.mono ?_; rintro e w' ⟨rfl, rfl⟩)
      go_ret
      exact ⟨by simp; omega, rfl⟩
  · have hge : ¬ k ≥ 0 := hk
    go_wp2_with (go_at_call 42; refine hsz.out.mono ?_; rintro e w' ⟨rfl, rfl⟩)
    go_ret
    exact ⟨by simp; omega, rfl⟩
end Go.Proofs.Ytdhaikcmgegfoaa
