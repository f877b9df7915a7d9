/-
  Sets of bytes as four words: what is in them; union, meet, between; package gram's functions on sets, by their contracts. Conditions: each theorem's own premises.
-/
import Derived.Test.YthfbmihpdkkcjaaDoorRow
import Derived.BigQuiet
namespace Go.Proofs.YthfbmihpdkkcjaaDoor
open Go.RowKit

structure S4 where
  a : Nat
  b : Nat
  c : Nat
  d : Nat
deriving DecidableEq, Inhabited
namespace S4
def w (s : S4) : Nat → Nat
  | 0 => s.a
  | 1 => s.b
  | 2 => s.c
  | _ => s.d
def cells (s : S4) : List Value := [.int .u64 (s.a : Int), .int .u64 (s.b : Int), .int .u64 (s.c : Int), .int .u64 (s.d : Int)]
def has (s : S4) (n : Nat) : Bool := (s.w (n / 64)).testBit (n % 64)
structure Ok (s : S4) : Prop where
  a : s.a < 18446744073709551616
  b : s.b < 18446744073709551616
  c : s.c < 18446744073709551616
  d : s.d < 18446744073709551616
def or (s t : S4) : S4 := ⟨s.a ||| t.a, s.b ||| t.b, s.c ||| t.c, s.d ||| t.d⟩
def and (s t : S4) : S4 := ⟨s.a &&& t.a, s.b &&& t.b, s.c &&& t.c, s.d &&& t.d⟩
def z : S4 := ⟨0, 0, 0, 0⟩
theorem z_ok : z.Ok := ⟨by decide, by decide, by decide, by decide⟩
theorem or_ok {s t : S4} (hs : s.Ok) (ht : t.Ok) : (s.or t).Ok := ⟨Nat.or_lt_two_pow (n := 64) hs.a ht.a, Nat.or_lt_two_pow (n := 64) hs.b ht.b, Nat.or_lt_two_pow (n := 64) hs.c ht.c, Nat.or_lt_two_pow (n := 64) hs.d ht.d⟩
theorem w_or (s t : S4) : ∀ i, (s.or t).w i = s.w i ||| t.w i
  | 0 => rfl
  | 1 => rfl
  | 2 => rfl
  | _ + 3 => rfl
theorem w_and (s t : S4) : ∀ i, (s.and t).w i = s.w i &&& t.w i
  | 0 => rfl
  | 1 => rfl
  | 2 => rfl
  | _ + 3 => rfl
theorem w_z : ∀ i, z.w i = 0
  | 0 => rfl
  | 1 => rfl
  | 2 => rfl
  | _ + 3 => rfl
theorem w_lt {s : S4} (h : s.Ok) : ∀ i, s.w i < 2 ^ 64
  | 0 => h.a
  | 1 => h.b
  | 2 => h.c
  | _ + 3 => h.d
theorem has_or (s t : S4) (n : Nat) : (s.or t).has n = (s.has n || t.has n) := by
  unfold has
  rw [w_or, Nat.testBit_or]
theorem has_and (s t : S4) (n : Nat) : (s.and t).has n = (s.has n && t.has n) := by
  unfold has
  rw [w_and, Nat.testBit_and]
theorem has_z (n : Nat) : z.has n = false := by
  unfold has
  rw [w_z, Nat.zero_testBit]
theorem ext_ {s t : S4} (hs : s.Ok) (ht : t.Ok) (h : ∀ n, n < 256 → s.has n = t.has n) : s = t := by
  have key : ∀ i, i < 4 → s.w i = t.w i := fun i hi => by
    apply Nat.eq_of_testBit_eq
    intro j
    rcases Nat.lt_or_ge j 64 with hj | hj
    · have := h (64 * i + j) (by omega)
      unfold has at this
      rwa [show (64 * i + j) / 64 = i by omega, show (64 * i + j) % 64 = j by omega] at this
    · rw [Nat.testBit_lt_two_pow (Nat.lt_of_lt_of_le (w_lt hs i) (Nat.pow_le_pow_right (by decide) hj)), Nat.testBit_lt_two_pow (Nat.lt_of_lt_of_le (w_lt ht i) (Nat.pow_le_pow_right (by decide) hj))]
  cases s; cases t
  have k0 := key 0 (by decide)
  have k1 := key 1 (by decide)
  have k2 := key 2 (by decide)
  have k3 := key 3 (by decide)
  simp only [w] at k0 k1 k2 k3
  subst k0 k1 k2 k3
  rfl
/-- from lo to hi -/
def mask (n : Nat) : Nat := 2 ^ n - 1
def bel (n : Nat) : S4 := ⟨mask (min n 64), mask (min (n - 64) 64), mask (min (n - 128) 64), mask (min (n - 192) 64)⟩
theorem mask_lt {n : Nat} : mask (min n 64) < 18446744073709551616 := by
  unfold mask
  have : 2 ^ (min n 64) ≤ 2 ^ 64 := Nat.pow_le_pow_right (by decide) (Nat.min_le_right ..)
  have h0 : 0 < 2 ^ (min n 64) := Nat.pow_pos (by decide)
  omega
theorem bel_ok (n : Nat) : (bel n).Ok := ⟨mask_lt, mask_lt, mask_lt, mask_lt⟩
theorem w_bel (n : Nat) : ∀ i, i < 4 → (bel n).w i = mask (min (n - 64 * i) 64)
  | 0, _ => rfl
  | 1, _ => rfl
  | 2, _ => rfl
  | 3, _ => rfl
theorem has_bel {n c : Nat} (hc : c < 256) : (bel n).has c = decide (c < n) := by
  unfold has
  rw [w_bel n _ (by omega)]
  unfold mask
  rw [Nat.testBit_two_pow_sub_one]
  congr 1
  apply propext
  omega
def andNot (x y : Nat) : Nat := x &&& (18446744073709551615 ^^^ y)
theorem andNot_lt {x y : Nat} (hx : x < 18446744073709551616) : andNot x y < 18446744073709551616 := Nat.lt_of_le_of_lt Nat.and_le_left hx
def btw (lo hi : Nat) : S4 := ⟨andNot (bel (hi + 1)).a (bel lo).a, andNot (bel (hi + 1)).b (bel lo).b, andNot (bel (hi + 1)).c (bel lo).c, andNot (bel (hi + 1)).d (bel lo).d⟩
theorem w_btw (lo hi : Nat) : ∀ i, (btw lo hi).w i = andNot ((bel (hi + 1)).w i) ((bel lo).w i)
  | 0 => rfl
  | 1 => rfl
  | 2 => rfl
  | _ + 3 => rfl
theorem btw_ok (lo hi : Nat) : (btw lo hi).Ok := ⟨andNot_lt (bel_ok _).a, andNot_lt (bel_ok _).b, andNot_lt (bel_ok _).c, andNot_lt (bel_ok _).d⟩
theorem has_btw {lo hi c : Nat} (hc : c < 256) : (btw lo hi).has c = decide (lo ≤ c ∧ c ≤ hi) := by
  have h1 := has_bel (n := hi + 1) hc
  have h2 := has_bel (n := lo) hc
  unfold has at h1 h2 ⊢
  rw [w_btw]
  unfold andNot
  rw [Nat.testBit_and, Nat.testBit_xor, h1, h2, show (18446744073709551615 : Nat) = 2 ^ 64 - 1 from rfl, Nat.testBit_two_pow_sub_one]
  have : c % 64 < 64 := by omega
  by_cases h : c < lo <;> by_cases h' : c < hi + 1 <;> simp [h, h', this] <;> omega
def one (n : Nat) : S4 := btw (n % 256) (n % 256)
theorem has_one {n c : Nat} (hn : n < 256) (hc : c < 256) : (one n).has c = decide (c = n) := by
  unfold one
  rw [Nat.mod_eq_of_lt hn, has_btw hc]
  congr 1
  apply propext
  omega
end S4

theorem ofInt_u64 (a : Nat) (ha : a < 18446744073709551616) : (BitVec.ofInt 64 (a : Int)).toNat = a := by
  rw [BitVec.toNat_ofInt]
  omega
theorem u64_wrap9 (n : Nat) (h : n < 18446744073709551616) : IntKind.u64.wrap (n : Int) = (n : Int) := by
  have h2 : IntKind.u64.wrap (n : Int) = (n : Int) % 18446744073709551616 := by simp [IntKind.wrap, IntKind.bits, IntKind.signed]
  rw [h2]
  omega
theorem bits_or_u64 (a b : Nat) (ha : a < 18446744073709551616) (hb : b < 18446744073709551616) : bits .or .u64 (a : Int) (b : Int) = ((a ||| b : Nat) : Int) := by
  show IntKind.u64.wrap ((BitVec.ofInt 64 (a : Int) ||| BitVec.ofInt 64 (b : Int)).toNat : Int) = _
  rw [BitVec.toNat_or, ofInt_u64 a ha, ofInt_u64 b hb]
  exact u64_wrap9 _ (Nat.or_lt_two_pow (n := 64) ha hb)
theorem bits_and_u64 (a b : Nat) (ha : a < 18446744073709551616) (hb : b < 18446744073709551616) : bits .and .u64 (a : Int) (b : Int) = ((a &&& b : Nat) : Int) := by
  show IntKind.u64.wrap ((BitVec.ofInt 64 (a : Int) &&& BitVec.ofInt 64 (b : Int)).toNat : Int) = _
  rw [BitVec.toNat_and, ofInt_u64 a ha, ofInt_u64 b hb]
  exact u64_wrap9 _ (Nat.lt_of_le_of_lt Nat.and_le_left ha)
theorem bits_andNot_u64 (a b : Nat) (ha : a < 18446744073709551616) (hb : b < 18446744073709551616) : bits .andNot .u64 (a : Int) (b : Int) = ((S4.andNot a b : Nat) : Int) := by
  show IntKind.u64.wrap ((BitVec.ofInt 64 (a : Int) &&& ~~~ BitVec.ofInt 64 (b : Int)).toNat : Int) = _
  rw [BitVec.toNat_and, BitVec.toNat_not, ofInt_u64 a ha, ofInt_u64 b hb]
  have e : 2 ^ 64 - 1 - b = 18446744073709551615 ^^^ b := by
    apply Nat.eq_of_testBit_eq
    intro i
    rw [Nat.testBit_xor, show (18446744073709551615 : Nat) = 2 ^ 64 - 1 from rfl, Nat.testBit_two_pow_sub_one, Nat.sub_sub, Nat.add_comm 1 b, Nat.testBit_two_pow_sub_succ hb]
    rcases Nat.lt_or_ge i 64 with h | h
    · simp [h]
    · simp [Nat.not_lt.2 h, Nat.testBit_lt_two_pow (Nat.lt_of_lt_of_le hb (Nat.pow_le_pow_right (n := 2) (by decide) h : 2 ^ 64 ≤ 2 ^ i))]
  rw [e]
  exact u64_wrap9 _ (Nat.lt_of_le_of_lt Nat.and_le_left ha)
theorem set_size : (Tryd.prog.info? 56).map (·.size) = some 4 := by kernel_rfl
theorem set_zero : (Tryd.prog.info? 56).map (·.zero) = some (some (.agg S4.z.cells.toArray)) := by kernel_rfl
theorem set_one (s : S4) : ∀ v ∈ s.cells, v.oneCell' = true := by
  intro v hv
  simp only [S4.cells, List.mem_cons, List.not_mem_nil, or_false] at hv
  rcases hv with rfl | rfl | rfl | rfl <;> rfl
/-- two arrays of integers held against each other -/
theorem run_eqItems_ints {P : Program} (d : Nat) (e : TypeId) (k : IntKind) (xs ys : Array Value) (f g : Nat → Int) (he : P.underlying e = some (.int k)) (hp : P.plainKey e = true) : ∀ (is : List Nat) (w : World), (∀ i ∈ is, xs[i]? = some (.int k (f i)) ∧ ys[i]? = some (.int k (g i))) →
    (Op.eqItems (d + 1) e 1 xs ys is).run P w = .ok (is.all fun i => f i == g i) w
  | [], w, _ => by simp [Op.eqItems]
  | i :: is, w, h => by
    obtain ⟨h1, h2⟩ := h i (by simp)
    have p1 := run_part_plain w hp (off := i) h1
    have p2 := run_part_plain w hp (off := i) h2
    simp only [Op.eqItems, Sem.run_bind, Nat.mul_one, p1, p2, Result.andThen_ok, run_equalIn_int w d e k k (f i) (g i) he]
    have ih := run_eqItems_ints d e k xs ys f g he hp is w (fun j hj => h j (by simp [hj]))
    by_cases hfg : f i = g i
    · simp [hfg, ih]
    · simp [hfg]
theorem info_u64 : (Tryd.prog.info? 54).map (·.size) = some 1 := by kernel_rfl
set_option maxRecDepth 100000 in
theorem run_eqSet (s t : S4) (w : World) : (Op.equalIn 10000 56 (.agg s.cells.toArray) (.agg t.cells.toArray)).run Tryd.prog w = .ok (decide (s = t)) w := by
  obtain ⟨i, hi⟩ : ∃ i, Tryd.prog.info? 54 = some i := by
    have h := info_u64
    cases hq : Tryd.prog.info? 54 with
    | none => rw [hq] at h; cases h
    | some i => exact ⟨i, rfl⟩
  rw [run_equalIn_array (P := Tryd.prog) w 9999 (t := 56) (e := 54) (n := 4) _ _ Tryd.underlying56 hi, show Tryd.prog.cellsOf 54 = 1 by kernel_rfl]
  rw [run_eqItems_ints (P := Tryd.prog) 9998 54 .u64 _ _ (fun j => (s.w j : Int)) (fun j => (t.w j : Int)) Tryd.underlying54 (by kernel_rfl) _ w (fun j hj => by
    have hj4 : j < 4 := List.mem_range.1 hj
    match j, hj4 with
    | 0, _ => exact ⟨rfl, rfl⟩
    | 1, _ => exact ⟨rfl, rfl⟩
    | 2, _ => exact ⟨rfl, rfl⟩
    | 3, _ => exact ⟨rfl, rfl⟩)]
  congr 1
  cases s
  cases t
  have hb : ∀ a b : Nat, ((a : Int) == (b : Int)) = decide (a = b) := fun a b => by rw [Bool.eq_iff_iff, beq_iff_eq, decide_eq_true_iff]; exact Int.ofNat_inj
  simp [List.range, List.range.loop, S4.w, Bool.decide_and, hb]
/-- a set in a block of its own -/
def SetAt (W : World) (g : Nat) (s : S4) : Prop := Blk W g 56 s.cells.toArray
theorem SetAt.word {W : World} {g : Nat} {s : S4} (h : SetAt W g s) : ∀ k, k < 4 → W.cell? ⟨g, k, none⟩ = some (.int .u64 (s.w k : Int))
  | 0, _ => by have := Blk.cell h 0; exact this
  | 1, _ => by have := Blk.cell h 1; exact this
  | 2, _ => by have := Blk.cell h 2; exact this
  | 3, _ => by have := Blk.cell h 3; exact this
/-- a set that a call answers -/
def SetPost (w : World) (s : S4) (e : Ending) (w' : World) : Prop := e = .returned (.agg s.cells.toArray) ∧ Below w.heap.size w w'
def BoolPost (w : World) (b : Bool) (e : Ending) (w' : World) : Prop := e = .returned (.bool b) ∧ Below w.heap.size w w'
set_option maxRecDepth 100000 in
set_option maxHeartbeats 4000000 in
set_option linter.unusedSimpArgs false in
theorem gsHas (s : S4) (hs : s.Ok) (n : Nat) (hn : n < 256) (w : World) : Calls Tryd.prog 19 #[.agg s.cells.toArray, .int .u8 (n : Int)] w (BoolPost w (s.has n)) := by
  have HS := Lib.hid hs
  clear hs
  obtain ⟨q, eq⟩ : ∃ q, n / 64 = q := ⟨_, rfl⟩
  obtain ⟨r, er⟩ : ∃ r, n % 64 = r := ⟨_, rfl⟩
  have hq : q < 4 := by omega
  have hr : r < 64 := by omega
  have e1 : (n : Int).tdiv 64 = (q : Int) := by rw [Int.tdiv_eq_ediv_of_nonneg (by omega)]; omega
  have e2 : (n : Int).tmod 64 = (r : Int) := by rw [Int.tmod_eq_emod_of_nonneg (by omega)]; omega
  have e3 : (n : Int) / 64 = (q : Int) := by omega
  have e4 : (n : Int) % 64 = (r : Int) := by omega
  obtain ⟨X, eX⟩ : ∃ X, s.cells.toArray = X := ⟨_, rfl⟩
  rw [eX]
  have HX := Lib.hid eX
  have HE := Lib.hid (And.intro eq er)
  clear eX eq er
  go_enter Tryd.func19, Tryd.ntmps19
  go_wp2_with (first
    | (refine wpList_box rfl 56 (.tmp 0) rfl X rfl ?_; intro w1 hb1 hw1 hz1)
    | (with_reducible refine st_load 54 ?_; refine stopped ?_)
    | fail)
  refine go_on ?_
  rw [← HX.out] at hb1
  have hc := SetAt.word hb1 q hq
  obtain ⟨x, ex⟩ : ∃ x, s.w q = x := ⟨_, rfl⟩
  rw [ex] at hc
  have hxl : x < 18446744073709551616 := by rw [← ex]; exact S4.w_lt HS.out q
  obtain ⟨y, ey⟩ : ∃ y, x / 2 ^ r = y := ⟨_, rfl⟩
  have hyl : y < 18446744073709551616 := by rw [← ey]; exact Nat.lt_of_le_of_lt (Nat.div_le_self _ _) hxl
  have eyi : (x : Int) / 2 ^ r = (y : Int) := by rw [← ey, Int.natCast_ediv, Int.natCast_pow]; rfl
  have hand := bits_and_u64 y 1 hyl (by decide)
  rw [Nat.and_one_is_mod] at hand
  have HY := Lib.hid (And.intro ex ey)
  clear ex ey hxl
  go_wp2_with fail
  go_ret
  refine ⟨?_, hw1⟩
  have h1 : s.has n = (bits BinOp.and IntKind.u64 (y : Int) 1 == 1) := by
    unfold S4.has
    rw [HE.out.1, HE.out.2, HY.out.1, Nat.testBit_eq_decide_div_mod_eq, HY.out.2, show bits BinOp.and IntKind.u64 (y : Int) 1 = ((y % 2 : Nat) : Int) from hand]
    by_cases h : y % 2 = 1
    · rw [h]; rfl
    · have h0 : y % 2 = 0 := by omega
      rw [h0]; rfl
  rw [h1]
  rfl

/-- the first k words of u, the others of s -/
def S4.mix (k : Nat) (u s : S4) : S4 := ⟨if 0 < k then u.a else s.a, if 1 < k then u.b else s.b, if 2 < k then u.c else s.c, if 3 < k then u.d else s.d⟩
theorem S4.mix_zero (u s : S4) : S4.mix 0 u s = s := rfl
theorem S4.mix_four (u s : S4) : S4.mix 4 u s = u := rfl
theorem S4.w_mix (k : Nat) (u s : S4) (hk : k < 4) : (S4.mix k u s).w k = s.w k := by
  match k, hk with
  | 0, _ => rfl
  | 1, _ => rfl
  | 2, _ => rfl
  | 3, _ => rfl
theorem S4.mix_set (k : Nat) (u s : S4) (hk : k < 4) : (S4.mix k u s).cells.set k (.int .u64 (u.w k : Int)) = (S4.mix (k + 1) u s).cells := by
  match k, hk with
  | 0, _ => rfl
  | 1, _ => rfl
  | 2, _ => rfl
  | 3, _ => rfl
theorem SetAt.below {W W' : World} {g : Nat} {s : S4} (h : SetAt W g s) (hb : Below W.heap.size W W') : SetAt W' g s := Blk.below h hb h.lt
theorem SetAt.to (W W' : World) {g B : Nat} {s : S4} (h : SetAt W g s) (hb : Below B W W') (hg : g < B) : SetAt W' g s := Blk.below h hb hg
theorem SetAt.set {W : World} {g k : Nat} {u s : S4} (h : SetAt W g (S4.mix k u s)) (hk : k < 4) : SetAt (W.setCell ⟨g, k, none⟩ (.int .u64 (u.w k : Int))) g (S4.mix (k + 1) u s) := by
  have := Blk.set_ h k (.int .u64 (u.w k : Int))
  rw [List.setIfInBounds_toArray, S4.mix_set k u s hk] at this
  exact this
theorem SetAt.far {W : World} {g : Nat} {s : S4} (h : SetAt W g s) {p : Addr} (v : Value) (hp : p.block ≠ g) : SetAt (W.setCell p v) g s := Blk.far h (Ne.symm hp) v
theorem SetAt.drew {W : World} {g : Nat} {s : S4} (h : SetAt W g s) : SetAt W.drew g s := Blk.drewN h 1
/-- union and meet on their way -/
structure UniAt (w W : World) (g0 g1 : Nat) (k : Nat) (u s t : S4) : Prop where
  s0 : SetAt W g0 (S4.mix k u s)
  s1 : SetAt W g1 t
  lt : g0 < g1
  ge : w.heap.size ≤ g0
  bel : Below w.heap.size w W
theorem UniAt.next {w W : World} {g0 g1 k : Nat} {u s t : S4} (h : UniAt w W g0 g1 k u s t) (hk : k < 4) : UniAt w (W.drew.setCell ⟨g0, k, none⟩ (.int .u64 (u.w k : Int))) g0 g1 (k + 1) u s t :=
  ⟨SetAt.set h.s0.drew hk, SetAt.far h.s1.drew _ (Nat.ne_of_lt h.lt), h.lt, h.ge, h.bel.drew.setCell h.ge _⟩

set_option maxRecDepth 100000 in
set_option maxHeartbeats 4000000 in
set_option linter.unusedSimpArgs false in
theorem gsUnion (s t : S4) (hs : s.Ok) (ht : t.Ok) (w : World) : Calls Tryd.prog 38 #[.agg s.cells.toArray, .agg t.cells.toArray] w (SetPost w (s.or t)) := by
  have HS := Lib.hid (And.intro hs ht)
  clear hs ht
  obtain ⟨X, eX⟩ : ∃ X, s.cells.toArray = X := ⟨_, rfl⟩
  obtain ⟨Y, eY⟩ : ∃ X, t.cells.toArray = X := ⟨_, rfl⟩
  rw [eX, eY]
  have HX := Lib.hid (And.intro eX eY)
  clear eX eY
  go_enter Tryd.func38, Tryd.ntmps38
  go_wp2_with (first
    | (refine wpList_box rfl 56 (.tmp 0) rfl X rfl ?_; intro w1 hb1 hw1 hz1)
    | (refine wpList_box rfl 56 (.tmp 1) rfl Y rfl ?_; intro w2 hb2 hw2 hz2)
    | (refine wpList_alloc rfl 56 rfl _ set_zero ?_; intro w3 hb3 hw3 hz3)
    | fail)
  rw [hz1] at hb2
  rw [hz2, hz1] at hb3
  have hr1 : SetAt w3 w.heap.size s := by
    have h : SetAt w1 w.heap.size s := by unfold SetAt; rw [HX.out.1]; exact hb1
    exact (h.below hw2).below hw3
  have hr2 : SetAt w3 (w.heap.size + 1) t := by
    have h : SetAt w2 (w.heap.size + 1) t := by unfold SetAt; rw [HX.out.2]; exact hb2
    exact h.below hw3
  have hbel3 : Below w.heap.size w w3 := hw1.trans ((hw2.mono (by omega)).trans (hw3.mono (by omega)))
  obtain ⟨g1, eg1⟩ : ∃ g1, w.heap.size + 1 = g1 := ⟨_, rfl⟩
  rw [eg1] at hr2 hb3 ⊢
  obtain ⟨g2, eg2⟩ : ∃ g2, g1 + 1 = g2 := ⟨_, rfl⟩
  rw [eg2] at hb3 ⊢
  have H0 := Lib.hid (And.intro (UniAt.mk (k := 0) (u := s.or t) hr1 hr2 (by omega) (Nat.le_refl _) hbel3) hb3)
  have hg1 : w.heap.size < g1 := by omega
  have hg2 : g1 < g2 := by omega
  clear hb1 hw1 hz1 hb2 hw2 hz2 hb3 hw3 hz3 hr1 hr2 hbel3 eg1 eg2
  go_loopw [6] (fun u wz => ∃ k : Nat, k ≤ 4 ∧ u = .int .i64 (k : Int) ∧ UniAt w wz w.heap.size g1 k (s.or t) s t ∧ Blk wz g2 56 S4.z.cells.toArray) (fun u _ => 4 - (intOf u).toNat)
  case atStart => exact ⟨0, by omega, rfl, H0.out.1, H0.out.2⟩
  case round =>
    obtain ⟨k, hk, rfl, hu, hb9⟩ := hrel
    by_cases hlt : k < 4
    · have hki : (k : Int) < 4 := by omega
      have hk0 : (0 : Int) ≤ (k : Int) := by omega
      have c0 := hu.s0.word k hlt
      rw [S4.w_mix k _ s hlt] at c0
      have c1 := hu.s1.word k hlt
      have fz : wr.frozen? ⟨w.heap.size, k, none⟩ = false := Blk.frozen hu.s0 k
      have hbt := bits_or_u64 (s.w k) (t.w k) (S4.w_lt HS.out.1 k) (S4.w_lt HS.out.2 k)
      rw [← S4.w_or] at hbt
      obtain ⟨x, ex⟩ : ∃ x, s.w k = x := ⟨_, rfl⟩
      obtain ⟨y, ey⟩ : ∃ x, t.w k = x := ⟨_, rfl⟩
      obtain ⟨z, ez⟩ : ∃ x, (s.or t).w k = x := ⟨_, rfl⟩
      rw [ex] at c0
      rw [ey] at c1
      rw [ex, ey, ez] at hbt
      have HI := Lib.hid (And.intro hu hb9)
      clear hu hb9 ex ey
      go_wp2_with fail
      go_region
      go_wp2_with fail
      go_roundw
      case rel => exact ⟨k + 1, by omega, by go_num, by rw [← ez]; exact HI.out.1.next hlt, Blk.far (Blk.drewN HI.out.2 1) (p := ⟨w.heap.size, k, none⟩) (by show g2 ≠ w.heap.size; omega) _⟩
      case measure => simp [intOf]; omega
    · obtain rfl : k = 4 := by omega
      have hlt4 : ¬ ((4 : Nat) : Int) < 4 := by omega
      have hrow := hu.s0
      rw [S4.mix_four] at hrow
      go_wp2_with (first
        | (with_reducible refine st_load 56 ?_; refine stopped ?_)
        | fail)
      refine go_on ?_
      refine wpList_load_at rfl 56 (.tmp 2) rfl w.heap.size 0 rfl (s.or t).cells.toArray _ (Blk.cells hrow) Tryd.underlying56 rfl set_size ?_
      simp only [Act.put, List.setIfInBounds_toArray, List.set_cons_zero, List.set_cons_succ]
      refine wpList_store_whole rfl 56 (.tmp 4) (.tmp 18) rfl g2 (s.or t).cells rfl rfl 56 S4.z.cells hb9 set_size rfl (set_one _) ?_
      intro w8 hb8 hg8
      refine wpList_nil ?_
      simp only [Act.put, List.setIfInBounds_toArray, List.set_cons_zero, List.set_cons_succ]
      go_wp2_with fail
      refine bodyPost_row rfl g2 rfl 56 _ _ hb8 Tryd.underlying56 rfl set_size rfl ⟨rfl, hu.bel.grown hg8 hu.bel.size (fun j e => by cases e; omega)⟩

set_option maxRecDepth 100000 in
set_option maxHeartbeats 4000000 in
set_option linter.unusedSimpArgs false in
theorem gsMeet (s t : S4) (hs : s.Ok) (ht : t.Ok) (w : World) : Calls Tryd.prog 45 #[.agg s.cells.toArray, .agg t.cells.toArray] w (BoolPost w (decide (s.and t ≠ S4.z))) := by
  have HS := Lib.hid (And.intro hs ht)
  clear hs ht
  obtain ⟨X, eX⟩ : ∃ X, s.cells.toArray = X := ⟨_, rfl⟩
  obtain ⟨Y, eY⟩ : ∃ X, t.cells.toArray = X := ⟨_, rfl⟩
  rw [eX, eY]
  have HX := Lib.hid (And.intro eX eY)
  clear eX eY
  go_enter Tryd.func45, Tryd.ntmps45
  go_wp2_with (first
    | (refine wpList_box rfl 56 (.tmp 0) rfl X rfl ?_; intro w1 hb1 hw1 hz1)
    | (refine wpList_box rfl 56 (.tmp 1) rfl Y rfl ?_; intro w2 hb2 hw2 hz2)
    | fail)
  rw [hz1] at hb2
  have hr1 : SetAt w2 w.heap.size s := by
    have h : SetAt w1 w.heap.size s := by unfold SetAt; rw [HX.out.1]; exact hb1
    exact h.below hw2
  have hr2 : SetAt w2 (w.heap.size + 1) t := by unfold SetAt; rw [HX.out.2]; exact hb2
  have hbel2 : Below w.heap.size w w2 := hw1.trans (hw2.mono (by omega))
  obtain ⟨g1, eg1⟩ : ∃ g1, w.heap.size + 1 = g1 := ⟨_, rfl⟩
  rw [eg1] at hr2 ⊢
  have H0 := Lib.hid (UniAt.mk (k := 0) (u := s.and t) hr1 hr2 (by omega) (Nat.le_refl _) hbel2)
  have hg1 : w.heap.size < g1 := by omega
  clear hb1 hw1 hz1 hb2 hw2 hz2 hr1 hr2 hbel2 eg1
  go_loopw [6] (fun u wz => ∃ k : Nat, k ≤ 4 ∧ u = .int .i64 (k : Int) ∧ UniAt w wz w.heap.size g1 k (s.and t) s t) (fun u _ => 4 - (intOf u).toNat)
  case atStart => exact ⟨0, by omega, rfl, H0.out⟩
  case round =>
    obtain ⟨k, hk, rfl, hu⟩ := hrel
    by_cases hlt : k < 4
    · have hki : (k : Int) < 4 := by omega
      have hk0 : (0 : Int) ≤ (k : Int) := by omega
      have c0 := hu.s0.word k hlt
      rw [S4.w_mix k _ s hlt] at c0
      have c1 := hu.s1.word k hlt
      have fz : wr.frozen? ⟨w.heap.size, k, none⟩ = false := Blk.frozen hu.s0 k
      have hbt := bits_and_u64 (s.w k) (t.w k) (S4.w_lt HS.out.1 k) (S4.w_lt HS.out.2 k)
      rw [← S4.w_and] at hbt
      obtain ⟨x, ex⟩ : ∃ x, s.w k = x := ⟨_, rfl⟩
      obtain ⟨y, ey⟩ : ∃ x, t.w k = x := ⟨_, rfl⟩
      obtain ⟨z, ez⟩ : ∃ x, (s.and t).w k = x := ⟨_, rfl⟩
      rw [ex] at c0
      rw [ey] at c1
      rw [ex, ey, ez] at hbt
      have HI := Lib.hid hu
      clear hu ex ey
      go_wp2_with fail
      go_region
      go_wp2_with fail
      go_roundw
      case rel => exact ⟨k + 1, by omega, by go_num, by rw [← ez]; exact HI.out.next hlt⟩
      case measure => simp [intOf]; omega
    · obtain rfl : k = 4 := by omega
      have hlt4 : ¬ ((4 : Nat) : Int) < 4 := by omega
      have hrow := hu.s0
      rw [S4.mix_four] at hrow
      go_wp2_with (first
        | (with_reducible refine st_load 56 ?_; refine stopped ?_)
        | fail)
      refine go_on ?_
      refine wpList_load_at rfl 56 (.tmp 2) rfl w.heap.size 0 rfl (s.and t).cells.toArray _ (Blk.cells hrow) Tryd.underlying56 rfl set_size ?_
      simp only [Act.put, List.setIfInBounds_toArray, List.set_cons_zero, List.set_cons_succ]
      have hq := run_eqSet (s.and t) S4.z wr
      have hbel := hu.bel
      obtain ⟨q, eq⟩ : ∃ q, s.and t = q := ⟨_, rfl⟩
      rw [eq] at hq ⊢
      clear hu hrow
      unfold S4.cells at hq ⊢
      have hq' : (Op.equalIn 10000 56 (Value.agg #[Value.int IntKind.u64 ↑q.a, Value.int IntKind.u64 ↑q.b, Value.int IntKind.u64 ↑q.c, Value.int IntKind.u64 ↑q.d]) (Value.agg #[Value.int IntKind.u64 0, Value.int IntKind.u64 0, Value.int IntKind.u64 0, Value.int IntKind.u64 0])).run Tryd.prog wr = .ok (decide (q = S4.z)) wr := hq
      clear hq
      go_wp2_with fail
      go_ret
      exact ⟨by simp [eq], hbel⟩

theorem run_shl_one {P : Program} (y : Int) (e : Nat) (h : y = (e : Int)) (w : World) : (Op.shift BinOp.shl IntKind.u64 1 IntKind.i64 y).run P w = .ok (.int .u64 ((2 ^ (min e 64) % 18446744073709551616 : Nat) : Int)) w := by
  subst h
  unfold Op.shift
  rw [if_neg (by omega)]
  simp only [Int.toNat_natCast, IntKind.bits, Int.one_mul, Sem.run_pure]
  congr 2
theorem shl_sub (e : Nat) : IntKind.u64.wrap (((2 ^ (min e 64) % 18446744073709551616 : Nat) : Int) - 1) = ((S4.mask (min e 64) : Nat) : Int) := by
  have h2 : ∀ z : Int, IntKind.u64.wrap z = z % 18446744073709551616 := fun z => by simp [IntKind.wrap, IntKind.bits, IntKind.signed]
  rw [h2]
  unfold S4.mask
  have h0 : 0 < 2 ^ (min e 64) := Nat.pow_pos (by decide)
  have h1 : 2 ^ (min e 64) ≤ 2 ^ 64 := Nat.pow_le_pow_right (by decide) (Nat.min_le_right ..)
  omega
/-- below on its way -/
structure BelAt (w W : World) (g1 : Nat) (k : Nat) (u : S4) : Prop where
  s0 : SetAt W g1 (S4.mix k u S4.z)
  r : SetAt W w.heap.size S4.z
  lt : w.heap.size < g1
  bel : Below w.heap.size w W
theorem BelAt.next {w W : World} {g1 k : Nat} {u : S4} (h : BelAt w W g1 k u) (hk : k < 4) : BelAt w (W.setCell ⟨g1, k, none⟩ (.int .u64 (u.w k : Int))) g1 (k + 1) u :=
  ⟨SetAt.set h.s0 hk, SetAt.far h.r _ (Nat.ne_of_gt h.lt), h.lt, h.bel.setCell (Nat.le_of_lt h.lt) _⟩
set_option maxRecDepth 100000 in
set_option maxHeartbeats 4000000 in
set_option linter.unusedSimpArgs false in
theorem gsBelow (n : Nat) (hn : n ≤ 256) (w : World) : Calls Tryd.prog 60 #[.int .i64 (n : Int)] w (SetPost w (S4.bel n)) := by
  go_enter Tryd.func60, Tryd.ntmps60
  go_wp2_with (first
    | (refine wpList_alloc (o := ⟨some 2, _, _, _, _, _⟩) rfl 56 rfl _ set_zero ?_; intro w3 hb3 hw3 hz3)
    | (refine wpList_alloc (o := ⟨some 3, _, _, _, _, _⟩) rfl 56 rfl _ set_zero ?_; intro w4 hb4 hw4 hz4)
    | fail)
  rw [hz3] at hb4
  have hbel4 : Below w.heap.size w w4 := hw3.trans (hw4.mono (by omega))
  have hb3' : SetAt w4 w.heap.size S4.z := SetAt.below hb3 hw4
  obtain ⟨g1, eg1⟩ : ∃ g1, w.heap.size + 1 = g1 := ⟨_, rfl⟩
  rw [eg1] at hb4 ⊢
  have hg1 : w.heap.size < g1 := by omega
  have H0 := Lib.hid (BelAt.mk (k := 0) (u := S4.bel n) hb4 hb3' hg1 hbel4)
  clear hb3 hw3 hz3 hb4 hw4 hz4 hbel4 hb3' eg1
  go_loopw [5] (fun u wz => ∃ k : Nat, k ≤ 4 ∧ u = .int .i64 (k : Int) ∧ BelAt w wz g1 k (S4.bel n)) (fun u _ => 4 - (intOf u).toNat)
  case atStart => exact ⟨0, by omega, rfl, H0.out⟩
  case round =>
    obtain ⟨k, hk, rfl, hu⟩ := hrel
    by_cases hlt : k < 4
    · have hki : (k : Int) < 4 := by omega
      have hk0 : (0 : Int) ≤ (k : Int) := by omega
      have c0 := hu.s0.word k hlt
      have fz : wr.frozen? ⟨g1, k, none⟩ = false := Blk.frozen hu.s0 k
      obtain ⟨e, ee⟩ : ∃ e, n - 64 * k = e := ⟨_, rfl⟩
      have ew := S4.w_bel n k hlt
      rw [ee] at ew
      have hsb := shl_sub e
      rw [← ew] at hsb
      have ez0 : ¬ (0 : Int) ≤ (n : Int) - 64 * (k : Int) → (S4.bel n).w k = 0 := fun h => by rw [ew, show e = 0 by omega]; rfl
      have hsh := fun (y : Int) (h : y = (e : Int)) => run_shl_one (P := Tryd.prog) y e h wr
      obtain ⟨z, ez⟩ : ∃ z, (S4.bel n).w k = z := ⟨_, rfl⟩
      rw [ez] at hsb
      obtain ⟨q, eq⟩ : ∃ q, 2 ^ (min e 64) % 18446744073709551616 = q := ⟨_, rfl⟩
      rw [eq] at hsb hsh
      have hq : q < 18446744073709551616 := by rw [← eq]; exact Nat.mod_lt _ (by decide)
      have HI := Lib.hid (And.intro hu ez0)
      clear hu ew eq ez0
      by_cases hkn : (0 : Int) ≤ (n : Int) - 64 * (k : Int)
      · have hs1 := hsh ((n : Int) - 64 * (k : Int)) (by omega)
        clear hsh
        go_wp2_with fail
        go_roundw
        case rel => exact ⟨k + 1, by omega, by go_num, by rw [← ez]; exact HI.out.1.next hlt⟩
        case measure => simp [intOf]; omega
      · have hs1 := hsh 0 (by omega)
        clear hsh
        go_wp2_with fail
        go_roundw
        case rel => exact ⟨k + 1, by omega, by go_num, by have h9 := HI.out.1.next hlt; rw [HI.out.2 hkn] at h9; exact h9⟩
        case measure => simp [intOf]; omega
    · obtain rfl : k = 4 := by omega
      have hlt4 : ¬ ((4 : Nat) : Int) < 4 := by omega
      have hrow := hu.s0
      have hres := hu.r
      rw [S4.mix_four] at hrow
      go_wp2_with (first
        | (with_reducible refine st_load 56 ?_; refine stopped ?_)
        | fail)
      refine go_on ?_
      refine wpList_load_at rfl 56 (.tmp 3) rfl g1 0 rfl (S4.bel n).cells.toArray _ (Blk.cells hrow) Tryd.underlying56 rfl set_size ?_
      simp only [Act.put, List.setIfInBounds_toArray, List.set_cons_zero, List.set_cons_succ]
      refine wpList_store_whole rfl 56 (.tmp 2) (.tmp 18) rfl w.heap.size (S4.bel n).cells rfl rfl 56 S4.z.cells hres set_size rfl (set_one _) ?_
      intro w8 hb8 hg8
      refine wpList_nil ?_
      simp only [Act.put, List.setIfInBounds_toArray, List.set_cons_zero, List.set_cons_succ]
      go_wp2_with fail
      refine bodyPost_row rfl w.heap.size rfl 56 _ _ hb8 Tryd.underlying56 rfl set_size rfl ⟨rfl, hu.bel.grown hg8 hu.bel.size (fun j e => by cases e; omega)⟩

end Go.Proofs.YthfbmihpdkkcjaaDoor
