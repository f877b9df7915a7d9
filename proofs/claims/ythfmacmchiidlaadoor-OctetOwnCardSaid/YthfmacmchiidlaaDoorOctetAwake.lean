/-
  The laws' 'awake': the chapter's examples: it answers true and turns nothing that was there. Condition: errors.errorType holds the handle of the type error.
-/
import Derived.Test.YthfmacmchiidlaaDoorOctetRd
import Derived.Test.YthfmacmchiidlaaDoorOctetRef
namespace Go.Proofs.YthfmacmchiidlaaDoor
open Go.RowKit Go.Extern.Stop Go.Stop Go.Extern

theorem same_true (A B : Option Addr) (l m : List UInt8) (n k c d b1 b2 : Nat) (w : World) (hl : l.length = n) (hm : m.length = k) (ha : Bs w b1 A l) (hb : Bs w b2 B m) (he : l = m) :
    Calls Tryd.prog 9 #[.slice A n c, .slice B k d] w fun e w' => e = .returned (.bool true) ∧ w = w' := by
  subst hl hm he
  refine (same_any A B l l c d b1 b2 w ha hb).mono ?_
  rintro e w' ⟨rfl, rfl⟩
  exact ⟨by simp, rfl⟩

theorem get_is (A : Option Addr) (l : List UInt8) (n k c B : Nat) (w : World) (hb : Bs w B A l) (hn : l.length = n) (hk : leN l = k) (h1 : 1 ≤ l.length) (h8 : l.length ≤ 8) :
    Calls Tryd.prog 14 #[.slice A n c] w fun e w' => e = .returned (.tuple #[.int .u64 k, .int .i64 0]) ∧ w = w' := by
  subst hn hk
  exact get_yes A l c B w hb h1 h8

theorem text_is (s : ByteArray) (l : List UInt8) (w : World) (h : s.size ≤ 255) (hl : UInt8.ofNat s.size :: s.data.toList = l) :
    Calls Tryd.prog 12 #[.string s] w (OwnPost w l) := hl ▸ text_yes s w h

theorem bs_two (w : World) (t : TypeId) (x y : UInt8) : Bs (w.alloc (.cells #[.int .u8 (x.toNat : Int), .int .u8 (y.toNat : Int)] t)) (w.heap.size + 1) (some ⟨w.heap.size, 0, none⟩) [x, y] := fun _ => by
  refine ⟨_, 0, rfl, Nat.lt_succ_self _, fun j hj => ?_⟩
  simp only [List.length_cons, List.length_nil] at hj
  match j, hj with
  | 0, _ => simp
  | 1, _ => simp
theorem bs_three (w : World) (t : TypeId) (x y z : UInt8) : Bs (w.alloc (.cells #[.int .u8 (x.toNat : Int), .int .u8 (y.toNat : Int), .int .u8 (z.toNat : Int)] t)) (w.heap.size + 1) (some ⟨w.heap.size, 0, none⟩) [x, y, z] := fun _ => by
  refine ⟨_, 0, rfl, Nat.lt_succ_self _, fun j hj => ?_⟩
  simp only [List.length_cons, List.length_nil] at hj
  match j, hj with
  | 0, _ => simp
  | 1, _ => simp
  | 2, _ => simp

set_option maxRecDepth 100000 in
set_option maxHeartbeats 4000000 in
theorem awake_true (w : World) (hg0 : w.cell? gErr = some hErr) :
    Calls Tryd.prog 8 #[] w fun e w' => e = .returned (.bool true) ∧ Below w.heap.size w w' := by
  have HG := Lib.hid hg0
  clear hg0
  go_enter Tryd.func8, Tryd.ntmps8
  go_wp2_with fail
  refine (get_is (some ⟨w.heap.size, 0, none⟩) [2, 1] 2 258 2 (w.heap.size + 1) _ (bs_two w 5 2 1) rfl (by decide) (by decide) (by decide)).mono ?_
  rintro e w' ⟨rfl, rfl⟩
  go_wp2_with fail
  refine (read_any (some ⟨w.heap.size + 1, 0, none⟩) [1, 0, 9] 3 (w.heap.size + 2) _ (by have := bs_three (w.alloc (.cells #[.int .u8 2, .int .u8 1] 5)) 5 1 0 9; simpa using this) (by simp) (by decide)).mono ?_
  rintro e w1 ⟨g, rfl, hg, hrd, hb1⟩
  have HR := Lib.hid hrd
  clear hrd
  go_wp2_with fail
  have hB1 : Below w.heap.size w w1 := (((Below.refl _ _).alloc (Nat.le_refl _) _).alloc (by simp) _).trans (hb1.mono (by simp; omega))
  have hgw : w.heap.size ≤ g := by simp at hg; omega
  clear hg hb1
  refine (put_yes 258 2 _ (by decide) (by decide) (by decide)).mono ?_
  intro e w2 hp
  obtain ⟨rfl, hbs2, hb2⟩ := hp.bs (by decide)
  clear hp
  go_wp2_with fail
  refine (same_true (some ⟨w1.heap.size, 0, none⟩) (some ⟨w2.heap.size, 0, none⟩) (leB 258 2) [2, 1] 2 2 2 2 w2.heap.size (w2.heap.size + 1) (w2.alloc (.cells #[.int .u8 2, .int .u8 1] 5)) rfl rfl (hbs2.alloc (Nat.le_refl _) _) (bs_two w2 5 2 1) (by decide)).mono ?_
  rintro e w' ⟨rfl, rfl⟩
  have HR2 := Lib.hid (Rd.below (HR.out.below hb2 HR.out.lt) ((Below.refl _ _).alloc (Nat.le_refl _) (.cells #[.int .u8 2, .int .u8 1] 5)) (Nat.lt_of_lt_of_le HR.out.lt hb2.size))
  have hB2 : Below w.heap.size w (w2.alloc (.cells #[.int .u8 2, .int .u8 1] 5)) := (hB1.trans (hb2.mono hB1.size)).alloc (Nat.le_trans hB1.size hb2.size) _
  clear hbs2 hb2 hB1 HR
  obtain ⟨wa, hwa⟩ : ∃ wa, wa = w2.alloc (.cells #[.int .u8 2, .int .u8 1] 5) := ⟨_, rfl⟩
  rw [← hwa] at HR2 hB2 ⊢
  clear hwa
  go_wp2_with fail
  refine (text_is ⟨#[97, 98]⟩ [2, 97, 98] _ (by decide) (by decide)).mono ?_
  rintro e w3 ⟨v3, rfl, hown3, hb3⟩
  obtain ⟨A3, c3, rfl, hbs3, _⟩ := hown3.slice
  clear hown3
  go_wp2_with fail
  refine (same_true A3 (some ⟨w3.heap.size, 0, none⟩) [2, 97, 98] [2, 97, 98] 3 3 c3 3 w3.heap.size (w3.heap.size + 1) (w3.alloc (.cells #[.int .u8 2, .int .u8 97, .int .u8 98] 5)) rfl rfl (hbs3.alloc (Nat.le_refl _) _) (bs_three w3 5 2 97 98) rfl).mono ?_
  rintro e w' ⟨rfl, rfl⟩
  have HR3 := Lib.hid (Rd.below (HR2.out.below hb3 HR2.out.lt) ((Below.refl _ _).alloc (Nat.le_refl _) (.cells #[.int .u8 2, .int .u8 97, .int .u8 98] 5)) (Nat.lt_of_lt_of_le HR2.out.lt hb3.size))
  have hB3 : Below w.heap.size w (w3.alloc (.cells #[.int .u8 2, .int .u8 97, .int .u8 98] 5)) := (hB2.trans (hb3.mono hB2.size)).alloc (Nat.le_trans hB2.size hb3.size) _
  clear hbs3 hb3 hB2 HR2
  obtain ⟨wb, hwb⟩ : ∃ wb, wb = w3.alloc (.cells #[.int .u8 2, .int .u8 97, .int .u8 98] 5) := ⟨_, rfl⟩
  rw [← hwb] at HR3 hB3 ⊢
  clear hwb
  go_wp2_with fail
  refine (num_at g [1, 0, 9] 0 2 _ HR3.out (by decide) (by decide) (by decide)).mono ?_
  intro e w4 hp
  have hp1 : e = .returned (.int .u64 1) := hp.1
  subst hp1
  have HR4 := Lib.hid hp.2.1
  have hB4 : Below w.heap.size w w4 := hB3.grown hp.2.2 hB3.size (fun k hk => by injection hk with hk; omega)
  clear hp hB3 HR3
  go_wp2_with fail
  refine (end_extra g 2 [1, 0, 9] _ HR4.out (by decide)).mono ?_
  rintro e w' ⟨n, rfl, rfl⟩
  have hB5 : Below w.heap.size w ((w4.drewN n).alloc (.cells #[.int .i64 7, .int .i64 (2 : Nat), .nilIface] 60)) := (below_drewN hB4 n).alloc hB4.size _
  have HC7 := Lib.hid (show ((w4.drewN n).alloc (.cells #[.int .i64 7, .int .i64 (2 : Nat), .nilIface] 60)).cell? ⟨w4.heap.size, 0, none⟩ = some (.int .i64 7) by rw [World.cell?_alloc_at _ _ _ _ (by simp)]; rfl)
  go_wp2_with fail
  refine (code_hit w4.heap.size 7 _ ((hB5.cell (p := gErr) (cell_size HG.out)).trans HG.out) HC7.out).mono ?_
  rintro e w5 ⟨rfl, hb6⟩
  go_wp2_with fail
  go_ret
  exact ⟨rfl, hB5.trans (hb6.mono hB5.size)⟩
end Go.Proofs.YthfmacmchiidlaaDoor
