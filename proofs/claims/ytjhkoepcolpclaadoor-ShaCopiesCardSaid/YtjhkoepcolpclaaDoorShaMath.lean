/-
  SHA-256 in plain naturals, as the document has it. No conditions.
-/
import Derived.Test.YtjhkoepcolpclaaDoorBytes
import Derived.KernelRfl
namespace Go.Proofs.YtjhkoepcolpclaaDoor

/-- a word turned right by n bits -/
def rotr (x n : Nat) : Nat := x / 2 ^ n ||| x * 2 ^ (32 - n) % 4294967296
def shaK : List Nat := [
  1116352408, 1899447441, 3049323471, 3921009573, 961987163, 1508970993, 2453635748, 2870763221,
  3624381080, 310598401, 607225278, 1426881987, 1925078388, 2162078206, 2614888103, 3248222580,
  3835390401, 4022224774, 264347078, 604807628, 770255983, 1249150122, 1555081692, 1996064986,
  2554220882, 2821834349, 2952996808, 3210313671, 3336571891, 3584528711, 113926993, 338241895,
  666307205, 773529912, 1294757372, 1396182291, 1695183700, 1986661051, 2177026350, 2456956037,
  2730485921, 2820302411, 3259730800, 3345764771, 3516065817, 3600352804, 4094571909, 275423344,
  430227734, 506948616, 659060556, 883997877, 958139571, 1322822218, 1537002063, 1747873779,
  1955562222, 2024104815, 2227730452, 2361852424, 2428436474, 2756734187, 3204031479, 3329325298]
def sig0 (x : Nat) : Nat := rotr x 7 ^^^ rotr x 18 ^^^ x / 8
def sig1 (x : Nat) : Nat := rotr x 17 ^^^ rotr x 19 ^^^ x / 1024
/-- the word behind t others -/
def nextW (w : List Nat) : Nat :=
  (sig1 (w.getD (w.length - 2) 0) + w.getD (w.length - 7) 0 + sig0 (w.getD (w.length - 15) 0) + w.getD (w.length - 16) 0) % 4294967296
def extW (w : List Nat) : Nat → List Nat
  | 0 => w
  | n + 1 => extW w n ++ [nextW (extW w n)]
/-- the number of four bytes, the most significant one first -/
def be4 (b : List UInt8) : Nat := b.foldl (fun x c => x * 256 + c.toNat) 0
def firstW (b : List UInt8) : Nat → List Nat
  | 0 => []
  | n + 1 => firstW b n ++ [be4 ((b.drop (4 * n)).take 4)]
def wordsW (b : List UInt8) : List Nat := extW (firstW b 16) 48

structure St where
  a : Nat
  b : Nat
  c : Nat
  d : Nat
  e : Nat
  f : Nat
  g : Nat
  h : Nat
def St.t1 (s : St) (k w : Nat) : Nat :=
  (s.h + (rotr s.e 6 ^^^ rotr s.e 11 ^^^ rotr s.e 25) + (s.e &&& s.f ||| (4294967295 - s.e) &&& s.g) + k + w) % 4294967296
def St.t2 (s : St) : Nat :=
  ((rotr s.a 2 ^^^ rotr s.a 13 ^^^ rotr s.a 22) + (s.a &&& s.b ||| s.a &&& s.c ||| s.b &&& s.c)) % 4294967296
def St.step (s : St) (k w : Nat) : St :=
  ⟨(s.t1 k w + s.t2) % 4294967296, s.a, s.b, s.c, (s.d + s.t1 k w) % 4294967296, s.e, s.f, s.g⟩
def St.run (s : St) (w : List Nat) : Nat → St
  | 0 => s
  | n + 1 => (s.run w n).step (shaK.getD n 0) (w.getD n 0)
def St.plus (s t : St) : St :=
  ⟨(s.a + t.a) % 4294967296, (s.b + t.b) % 4294967296, (s.c + t.c) % 4294967296, (s.d + t.d) % 4294967296, (s.e + t.e) % 4294967296, (s.f + t.f) % 4294967296, (s.g + t.g) % 4294967296, (s.h + t.h) % 4294967296⟩
def St.block (s : St) (b : List UInt8) : St := s.plus (s.run (wordsW b) 64)
def St.list (s : St) : List Nat := [s.a, s.b, s.c, s.d, s.e, s.f, s.g, s.h]
def St.ok (s : St) : Prop := ∀ x ∈ s.list, x < 4294967296
def shaH : St := ⟨1779033703, 3144134277, 1013904242, 2773480762, 1359893119, 2600822924, 528734635, 1541459225⟩
/-- n blocks -/
def St.take (s : St) : Nat → List UInt8 → St
  | 0, _ => s
  | n + 1, l => (s.take n l).block ((l.drop (64 * n)).take 64)
/-- a number in n bytes, the most significant one first -/
def beB (x : Nat) : Nat → List UInt8
  | 0 => []
  | n + 1 => UInt8.ofNat (x / 256 ^ n % 256) :: beB x n
def padZ (n : Nat) : Nat := (119 - n % 64) % 64
def padded (l : List UInt8) : List UInt8 := l ++ 128 :: List.replicate (padZ l.length) 0 ++ beB (8 * l.length) 8
def digest (s : St) : List UInt8 := s.list.flatMap fun x => beB x 4
def sha (l : List UInt8) : List UInt8 := digest (shaH.take ((padded l).length / 64) (padded l))

theorem rotr_lt {x : Nat} (n : Nat) (h : x < 4294967296) : rotr x n < 4294967296 := by
  unfold rotr
  exact Nat.or_lt_two_pow (n := 32) (Nat.lt_of_le_of_lt (Nat.div_le_self _ _) h) (Nat.mod_lt _ (by omega))
theorem extW_length (w : List Nat) (n : Nat) : (extW w n).length = w.length + n := by
  induction n with
  | zero => rfl
  | succ n ih => simp [extW, ih]; omega
theorem firstW_length (b : List UInt8) (n : Nat) : (firstW b n).length = n := by
  induction n with
  | zero => rfl
  | succ n ih => simp [firstW, ih]
theorem beB_length (x n : Nat) : (beB x n).length = n := by
  induction n with
  | zero => rfl
  | succ n ih => simp [beB, ih]
theorem padded_length (l : List UInt8) : (padded l).length = l.length + 9 + padZ l.length := by
  simp [padded, beB_length]
  omega
theorem padded_mod (l : List UInt8) : (padded l).length % 64 = 0 := by
  rw [padded_length]
  unfold padZ
  omega
theorem St.take_append (s : St) (l m : List UInt8) : ∀ (n : Nat), 64 * n ≤ l.length → s.take n (l ++ m) = s.take n l
  | 0, _ => rfl
  | n + 1, h => by
    rw [St.take, St.take, St.take_append s l m n (by omega), List.drop_append_of_le_length (by omega), List.take_append_of_le_length (by rw [List.length_drop]; omega)]
theorem sha_abc : sha [97, 98, 99] = [186, 120, 22, 191, 143, 1, 207, 234, 65, 65, 64, 222, 93, 174, 34, 35, 176, 3, 97, 163, 150, 23, 122, 156, 180, 16, 255, 97, 242, 0, 21, 173] := by kernel_rfl
theorem sha_nil : sha [] = [227, 176, 196, 66, 152, 252, 28, 20, 154, 251, 244, 200, 153, 111, 185, 36, 39, 174, 65, 228, 100, 155, 147, 76, 164, 149, 153, 27, 120, 82, 184, 85] := by kernel_rfl
end Go.Proofs.YtjhkoepcolpclaaDoor
