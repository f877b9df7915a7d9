/-
  CRC-32C in plain naturals: the register bit by bit; the closed form for whole lists; what follows for xored lists, pieces, sealed lists. No conditions.
-/
import Derived.Test.YtebcnacboidfeaaDoorBytes
import Derived.KernelRfl
namespace Go.Proofs.YtebcnacboidfeaaDoor

/-- one bit -/
def T (r : Nat) : Nat := r / 2 ^^^ (if r % 2 = 1 then 2197175160 else 0)
def Tn : Nat → Nat → Nat
  | 0, r => r
  | n + 1, r => Tn n (T r)
def reg : Nat → List UInt8 → Nat
  | r, [] => r
  | r, c :: l => reg (Tn 8 (r ^^^ c.toNat)) l
def crcOn (s : Nat) (l : List UInt8) : Nat := 4294967295 - reg (4294967295 - s) l
def crc (l : List UInt8) : Nat := crcOn 0 l

theorem xor_four (a b c d : Nat) : (a ^^^ b) ^^^ (c ^^^ d) = (a ^^^ c) ^^^ (b ^^^ d) := by
  rw [Nat.xor_assoc, ← Nat.xor_assoc b, Nat.xor_comm b c, Nat.xor_assoc c, ← Nat.xor_assoc]
theorem xor_three (f a b c : Nat) : f ^^^ (a ^^^ b ^^^ c) = (f ^^^ a) ^^^ (f ^^^ b) ^^^ (f ^^^ c) := by
  rw [xor_four f a, Nat.xor_self, Nat.zero_xor, ← Nat.xor_assoc (a ^^^ b), Nat.xor_comm (a ^^^ b) f, Nat.xor_assoc f]
theorem xor_div2 (a b : Nat) : (a ^^^ b) / 2 = a / 2 ^^^ b / 2 := by
  apply Nat.eq_of_testBit_eq
  intro i
  rw [Nat.testBit_div_two, Nat.testBit_xor, Nat.testBit_xor, Nat.testBit_div_two, Nat.testBit_div_two]
theorem xor_mod2 (a b : Nat) : (a ^^^ b) % 2 = (a + b) % 2 := by
  have e1 := Nat.testBit_zero (a ^^^ b)
  rw [Nat.testBit_xor, Nat.testBit_zero, Nat.testBit_zero] at e1
  rcases Nat.mod_two_eq_zero_or_one a with ha | ha <;> rcases Nat.mod_two_eq_zero_or_one b with hb | hb <;> rcases Nat.mod_two_eq_zero_or_one (a ^^^ b) with hc | hc <;> simp [ha, hb, hc] at e1 <;> omega
theorem T_xor (a b : Nat) : T (a ^^^ b) = T a ^^^ T b := by
  have h := xor_mod2 a b
  unfold T
  rw [xor_div2, h]
  rcases Nat.mod_two_eq_zero_or_one a with ha | ha <;> rcases Nat.mod_two_eq_zero_or_one b with hb | hb
  · rw [if_neg (by omega), if_neg (by omega), if_neg (by omega)]; simp
  · rw [if_pos (by omega), if_neg (by omega), if_pos (by omega)]; simp [Nat.xor_assoc]
  · rw [if_pos (by omega), if_pos (by omega), if_neg (by omega)]; simp only [Nat.xor_zero]; rw [Nat.xor_assoc, Nat.xor_comm (b / 2), ← Nat.xor_assoc]
  · rw [if_neg (by omega), if_pos (by omega), if_pos (by omega), Nat.xor_zero, xor_four, Nat.xor_self, Nat.xor_zero]
theorem T_dbl (x : Nat) : T (x * 2) = x := by
  unfold T
  rw [if_neg (by omega), Nat.xor_zero]
  omega
theorem T_lt {r : Nat} (h : r < 4294967296) : T r < 4294967296 := by
  unfold T
  refine Nat.xor_lt_two_pow (n := 32) (by omega) ?_
  split <;> omega
theorem T_zero {r : Nat} (h : r < 4294967296) (h0 : T r = 0) : r = 0 := by
  unfold T at h0
  split at h0
  · have e : (r / 2 ^^^ 2197175160) ^^^ 2197175160 = 2197175160 := by rw [h0, Nat.zero_xor]
    rw [Nat.xor_assoc, Nat.xor_self, Nat.xor_zero] at e
    omega
  · rw [Nat.xor_zero] at h0
    omega
theorem T_nought : T 0 = 0 := by decide

theorem Tn_xor (n a b : Nat) : Tn n (a ^^^ b) = Tn n a ^^^ Tn n b := by
  induction n generalizing a b with
  | zero => rfl
  | succ n ih => simp only [Tn, T_xor, ih]
theorem Tn_nought (n : Nat) : Tn n 0 = 0 := by
  induction n with
  | zero => rfl
  | succ n ih => simp only [Tn, T_nought, ih]
theorem Tn_mul (n x : Nat) : Tn n (x * 2 ^ n) = x := by
  induction n generalizing x with
  | zero => simp [Tn]
  | succ n ih => rw [Tn, Nat.pow_succ, ← Nat.mul_assoc, T_dbl, ih]
theorem Tn_add (m n r : Nat) : Tn (m + n) r = Tn n (Tn m r) := by
  induction m generalizing r with
  | zero => simp [Tn]
  | succ m ih => rw [Nat.succ_add, Tn, ih, Tn]
theorem Tn_succ (n r : Nat) : Tn (n + 1) r = T (Tn n r) := Tn_add n 1 r
theorem Tn_lt (n : Nat) {r : Nat} (h : r < 4294967296) : Tn n r < 4294967296 := by
  induction n generalizing r with
  | zero => exact h
  | succ n ih => exact ih (T_lt h)
theorem Tn_zero (n : Nat) {r : Nat} (h : r < 4294967296) (h0 : Tn n r = 0) : r = 0 := by
  induction n generalizing r with
  | zero => exact h0
  | succ n ih => exact T_zero h (ih (T_lt h) h0)

/-- xor where no bits meet is plus -/
theorem xor_shift (a b k : Nat) (h : a < 2 ^ k) : a ^^^ (b * 2 ^ k) = a + b * 2 ^ k := by
  rw [Nat.add_comm, Nat.mul_comm, Nat.two_pow_add_eq_or_of_lt h]
  apply Nat.eq_of_testBit_eq
  intro i
  rw [Nat.testBit_xor, Nat.testBit_or, Nat.testBit_two_pow_mul]
  by_cases hi : k ≤ i
  · have : a.testBit i = false := Nat.testBit_lt_two_pow (Nat.lt_of_lt_of_le h (Nat.pow_le_pow_right (by omega) hi))
    simp [this]
  · simp [hi]
theorem leN_cons (c : UInt8) (l : List UInt8) : leN (c :: l) = c.toNat ^^^ (leN l * 2 ^ 8) := by
  have hc : c.toNat < 256 := c.toNat_lt
  rw [xor_shift _ _ _ (by omega), leN]
  omega
theorem nibble (r : Nat) : r / 16 ^^^ Tn 4 (r % 16) = Tn 4 r := by
  have e : r = r % 16 ^^^ (r / 16 * 2 ^ 4) := by
    rw [xor_shift _ _ _ (by omega)]
    omega
  have h : Tn 4 r = Tn 4 (r % 16 ^^^ (r / 16 * 2 ^ 4)) := congrArg (Tn 4) e
  rw [h, Tn_xor, Tn_mul, Nat.xor_comm]
theorem two_nibbles (r : Nat) : Tn 4 (Tn 4 r) = Tn 8 r := (Tn_add 4 4 r).symm

/-- the register behind a whole list -/
theorem reg_eq (r : Nat) (l : List UInt8) : reg r l = Tn (8 * l.length) (r ^^^ leN l) := by
  induction l generalizing r with
  | nil => simp [reg, leN, Tn]
  | cons c l ih =>
    rw [reg, ih, leN_cons, List.length_cons, Nat.mul_add, Nat.mul_one, Nat.add_comm (8 * l.length) 8, Tn_add 8, ← Nat.xor_assoc, Tn_xor 8 _ (leN l * 2 ^ 8), Tn_mul]
theorem reg_append (r : Nat) (a b : List UInt8) : reg r (a ++ b) = reg (reg r a) b := by
  induction a generalizing r with
  | nil => rfl
  | cons c a ih => exact ih _
theorem reg_snoc {l : List UInt8} (r : Nat) {k : Nat} (hk : k < l.length) : reg r (l.take (k + 1)) = Tn 8 (reg r (l.take k) ^^^ l[k].toNat) := by
  rw [List.take_succ_eq_append_getElem hk, reg_append]
  rfl
theorem reg_lt {r : Nat} (h : r < 4294967296) (l : List UInt8) : reg r l < 4294967296 := by
  induction l generalizing r with
  | nil => exact h
  | cons c l ih => exact ih (Tn_lt 8 (Nat.xor_lt_two_pow (n := 32) h (by have : c.toNat < 256 := c.toNat_lt; omega)))

theorem not_xor {x : Nat} (h : x < 4294967296) : 4294967295 - x = 4294967295 ^^^ x := by
  have h1 := Nat.testBit_two_pow_sub_succ (x := x) (n := 32) (by omega)
  apply Nat.eq_of_testBit_eq
  intro i
  have e : 4294967295 - x = 2 ^ 32 - (x + 1) := by omega
  rw [e, h1, Nat.testBit_xor, show (4294967295 : Nat) = 2 ^ 32 - 1 by decide, Nat.testBit_two_pow_sub_one]
  by_cases hi : i < 32
  · simp [hi]
  · have : x.testBit i = false := Nat.testBit_lt_two_pow (Nat.lt_of_lt_of_le h (by
      have : 2 ^ 32 ≤ 2 ^ i := Nat.pow_le_pow_right (by omega) (by omega)
      simpa using this))
    simp [hi, this]

theorem crcOn_lt (s : Nat) (l : List UInt8) : crcOn s l < 4294967296 := by unfold crcOn; omega
theorem crc_lt (l : List UInt8) : crc l < 4294967296 := crcOn_lt 0 l
theorem crcOn_more (s : Nat) (a b : List UInt8) : crcOn (crcOn s a) b = crcOn s (a ++ b) := by
  have h := reg_lt (r := 4294967295 - s) (by omega) a
  unfold crcOn
  rw [reg_append, show 4294967295 - (4294967295 - reg (4294967295 - s) a) = reg (4294967295 - s) a by omega]
theorem crcOn_nil {s : Nat} (h : s < 4294967296) : crcOn s [] = s := by unfold crcOn; simp only [reg]; omega
theorem crc_nil : crc [] = 0 := rfl
theorem crc_examples : crc [49, 50, 51, 52, 53, 54, 55, 56, 57] = 3808858755 := by kernel_rfl

/-- lists laid over one another -/
def lay (a b : List UInt8) : List UInt8 := List.zipWith (· ^^^ ·) a b
theorem mul_xor (a b k : Nat) : (a ^^^ b) * 2 ^ k = a * 2 ^ k ^^^ b * 2 ^ k := by
  simp only [← Nat.shiftLeft_eq]
  exact Nat.shiftLeft_xor_distrib
theorem leN_lay (a b : List UInt8) (h : a.length = b.length) : leN (lay a b) = leN a ^^^ leN b := by
  induction a generalizing b with
  | nil =>
    obtain rfl : b = [] := List.eq_nil_of_length_eq_zero h.symm
    rfl
  | cons c a ih =>
    cases b with
    | nil => cases h
    | cons d b =>
      have h' : a.length = b.length := by simpa using h
      have e : lay (c :: a) (d :: b) = (c ^^^ d) :: lay a b := rfl
      rw [e, leN_cons, leN_cons, leN_cons, ih b h', UInt8.toNat_xor, mul_xor, xor_four]
theorem lay_length (a b : List UInt8) (h : a.length = b.length) : (lay a b).length = a.length := by simp [lay, h]
theorem crc_lay (a b c : List UInt8) (h1 : a.length = b.length) (h2 : a.length = c.length) : crc (lay (lay a b) c) = crc a ^^^ crc b ^^^ crc c := by
  have hl := lay_length a b h1
  have hl2 := lay_length (lay a b) c (by omega)
  have f : ∀ l, crc l = 4294967295 ^^^ Tn (8 * l.length) (4294967295 ^^^ leN l) := fun l => by
    have := reg_lt (r := 4294967295) (by omega) l
    rw [reg_eq] at this
    rw [← not_xor this, ← reg_eq]
    rfl
  rw [f, f a, f b, f c, hl2, hl, ← h1, ← h2, leN_lay _ _ (by omega), leN_lay _ _ h1]
  rw [xor_three, Tn_xor, Tn_xor, xor_three]

/-- the last four bytes are the checksum of the others -/
def opens (l : List UInt8) : Prop := leN (l.drop (l.length - 4)) = crc (l.take (l.length - 4))
def sealed (l : List UInt8) : List UInt8 := l ++ leB (crc l) 4
theorem seal_length (l : List UInt8) : (sealed l).length = l.length + 4 := by simp [sealed, leB_length]
theorem opens_iff {l : List UInt8} (h : 4 ≤ l.length) : opens l ↔ Tn (8 * l.length) (4294967295 ^^^ leN l) = Tn 32 4294967295 := by
  have hd : (l.drop (l.length - 4)).length = 4 := by rw [List.length_drop]; omega
  have hr := reg_lt (r := 4294967295) (by omega) (l.take (l.length - 4))
  have hn := leN_lt (l.drop (l.length - 4))
  rw [hd] at hn
  have e : reg 4294967295 l = Tn 32 (reg 4294967295 (l.take (l.length - 4)) ^^^ leN (l.drop (l.length - 4))) := by
    conv => lhs; rw [← List.take_append_drop (l.length - 4) l]
    rw [reg_append, reg_eq _ (l.drop _), hd]
  have ec : crc (l.take (l.length - 4)) = 4294967295 ^^^ reg 4294967295 (l.take (l.length - 4)) := not_xor hr
  rw [← reg_eq, e, opens, ec]
  generalize reg 4294967295 (l.take (l.length - 4)) = r at hr
  generalize leN (l.drop (l.length - 4)) = m at hn
  constructor
  · rintro rfl
    rw [Nat.xor_comm 4294967295 r, ← Nat.xor_assoc, Nat.xor_self, Nat.zero_xor]
  · intro he
    have h0 : Tn 32 ((r ^^^ m) ^^^ 4294967295) = 0 := by rw [Tn_xor, he, Nat.xor_self]
    have h1 := Tn_zero 32 (Nat.xor_lt_two_pow (n := 32) (Nat.xor_lt_two_pow (n := 32) hr (by omega)) (by omega)) h0
    have h2 : ((r ^^^ m) ^^^ 4294967295) ^^^ (r ^^^ 4294967295) = r ^^^ 4294967295 := by rw [h1, Nat.zero_xor]
    rw [xor_four, Nat.xor_self, Nat.xor_zero, Nat.xor_comm r m, Nat.xor_assoc, Nat.xor_self, Nat.xor_zero] at h2
    rw [h2, Nat.xor_comm]
theorem seal_take (l : List UInt8) : (sealed l).take ((sealed l).length - 4) = l := by
  rw [seal_length, Nat.add_sub_cancel, sealed]
  exact List.take_left
theorem seal_drop (l : List UInt8) : (sealed l).drop ((sealed l).length - 4) = leB (crc l) 4 := by
  rw [seal_length, Nat.add_sub_cancel, sealed]
  exact List.drop_left
theorem seal_opens (l : List UInt8) : opens (sealed l) := by
  unfold opens
  rw [seal_take, seal_drop, leN_leB, Nat.mod_eq_of_lt (crc_lt l)]
/-- it opens just where it is what its front is sealed as -/
theorem opens_seal {l : List UInt8} (h : 4 ≤ l.length) : opens l ↔ sealed (l.take (l.length - 4)) = l := by
  constructor
  · intro ho
    have hd : (l.drop (l.length - 4)).length = 4 := by rw [List.length_drop]; omega
    have e := leB_leN (l.drop (l.length - 4))
    rw [hd] at e
    unfold sealed
    rw [← (show leN (l.drop (l.length - 4)) = crc (l.take (l.length - 4)) from ho), e]
    exact List.take_append_drop _ _
  · intro he
    have := seal_opens (l.take (l.length - 4))
    rwa [he] at this

/-- a burst: up to 32 neighbouring bits turned over -/
theorem burst {l m : List UInt8} {bits k : Nat} (h4 : 4 ≤ l.length) (hm : m.length = l.length) (hn : leN m = leN l ^^^ bits * 2 ^ k) (hb : bits < 4294967296) (h0 : bits ≠ 0) (hk : k + 32 ≤ 8 * l.length) (ho : opens l) : ¬ opens m := by
  intro ho'
  rw [opens_iff (by omega), hn, hm, ← Nat.xor_assoc, Tn_xor, (opens_iff h4).1 ho] at ho'
  have h1 : Tn (8 * l.length) (bits * 2 ^ k) = 0 := by
    have := congrArg (Tn 32 4294967295 ^^^ ·) ho'
    simp only [← Nat.xor_assoc, Nat.xor_self, Nat.zero_xor] at this
    exact this
  obtain ⟨d, hd⟩ : ∃ d, 8 * l.length = k + d := ⟨8 * l.length - k, by omega⟩
  rw [hd, Tn_add, Tn_mul] at h1
  exact h0 (Tn_zero d hb h1)
theorem leN_set (l : List UInt8) (p : Nat) (c : UInt8) (h : p < l.length) : leN (l.set p (l[p] ^^^ c)) = leN l ^^^ (c.toNat * 2 ^ (8 * p)) := by
  induction l generalizing p with
  | nil => simp at h
  | cons d l ih =>
    cases p with
    | zero =>
      simp only [List.set_cons_zero, List.getElem_cons_zero]
      rw [leN_cons, leN_cons, UInt8.toNat_xor, Nat.mul_zero, Nat.pow_zero, Nat.mul_one, Nat.xor_assoc, Nat.xor_assoc, Nat.xor_comm c.toNat]
    | succ p =>
      have h' : p < l.length := by simpa using h
      simp only [List.set_cons_succ, List.getElem_cons_succ]
      rw [leN_cons, leN_cons, ih p h', mul_xor, ← Nat.xor_assoc, Nat.mul_assoc, ← Nat.pow_add, Nat.mul_add, Nat.mul_one]
end Go.Proofs.YtebcnacboidfeaaDoor
