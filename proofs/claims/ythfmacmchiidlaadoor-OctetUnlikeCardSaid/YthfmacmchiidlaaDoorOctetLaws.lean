/-
  The laws OctetPuts, OctetGets and OctetUnlike answer true and turn nothing that was there. Condition: errors.errorType holds the handle of the type error; a slice argument reads as a list of bytes.
-/
import Derived.Test.YthfmacmchiidlaaDoorOctetAwake
namespace Go.Proofs.YthfmacmchiidlaaDoor
open Go.RowKit Go.Extern.Stop Go.Stop Go.Extern

def putL (n : Nat) (s : Int) : List UInt8 := if 1 ≤ s ∧ s ≤ 8 then leB n s.toNat else []
theorem BsPost.nil_ (w : World) : BsPost w [] (.returned (.slice none 0 0)) w := ⟨none, 0, rfl, Bs.nil_, Below.refl _ _⟩
theorem put_all (n : Nat) (s : Int) (w : World) (hn : n < 18446744073709551616) :
    Calls Tryd.prog 10 #[.int .u64 n, .int .i64 s] w (BsPost w (putL n s)) := by
  unfold putL
  by_cases h : 1 ≤ s ∧ s ≤ 8
  · rw [if_pos h]
    obtain ⟨k, rfl⟩ : ∃ k : Nat, s = k := ⟨s.toNat, by omega⟩
    rw [Int.toNat_natCast]
    refine (put_yes n k w hn (by omega) (by omega)).mono ?_
    intro e w' hp
    obtain ⟨rfl, hb, hbel⟩ := hp.bs (by omega)
    refine ⟨_, k, by rw [leB_length], hb, hbel⟩
  · rw [if_neg h]
    refine (put_no n s w (by omega)).mono ?_
    rintro e w' ⟨rfl, rfl⟩
    exact BsPost.nil_ w
theorem refPut_all (n : Nat) (s : Int) (w : World) (hn : n < 18446744073709551616) :
    Calls Tryd.prog 11 #[.int .u64 n, .int .i64 s] w (BsPost w (putL n s)) := by
  unfold putL
  by_cases h : 1 ≤ s ∧ s ≤ 8
  · rw [if_pos h]
    obtain ⟨k, rfl⟩ : ∃ k : Nat, s = k := ⟨s.toNat, by omega⟩
    rw [Int.toNat_natCast]
    exact (refPut_yes n k w hn (by omega)).mono fun _ _ h => h.bs
  · rw [if_neg h]
    by_cases h1 : s < 1
    · refine (refPut_less n s w h1).mono ?_
      rintro e w' ⟨rfl, rfl⟩
      exact BsPost.nil_ w
    · refine (refPut_great n s w (by omega)).mono ?_
      rintro e w' ⟨rfl, rfl⟩
      exact BsPost.nil_ w
def textL (s : ByteArray) : List UInt8 := if s.size ≤ 255 then UInt8.ofNat s.size :: s.data.toList else []
theorem text_all (s : ByteArray) (w : World) : Calls Tryd.prog 12 #[.string s] w (BsPost w (textL s)) := by
  unfold textL
  by_cases h : s.size ≤ 255
  · rw [if_pos h]
    exact (text_yes s w h).mono fun _ _ h => h.bs
  · rw [if_neg h]
    refine (text_no s w (by omega)).mono ?_
    rintro e w' ⟨rfl, rfl⟩
    exact BsPost.nil_ w
theorem refText_all (s : ByteArray) (w : World) : Calls Tryd.prog 13 #[.string s] w (BsPost w (textL s)) := by
  unfold textL
  by_cases h : s.size ≤ 255
  · rw [if_pos h]
    exact refText_yes s w h
  · rw [if_neg h]
    refine (refText_great s w (by omega)).mono ?_
    rintro e w' ⟨rfl, rfl⟩
    exact BsPost.nil_ w

set_option maxRecDepth 100000 in
set_option maxHeartbeats 2000000 in
theorem octetPuts_calls (n : Nat) (k : Int) (s : ByteArray) (w : World) (hn : n < 18446744073709551616) (hg0 : w.cell? gErr = some hErr) :
    Calls Tryd.prog 3 #[.int .u64 n, .int .i64 k, .string s] w fun ev w' => ev = .returned (.bool true) ∧ Below w.heap.size w w' := by
  have HA := Lib.hid (awake_true w hg0)
  have HP := Lib.hid fun w => put_all n k w hn
  have HQ := Lib.hid fun w => refPut_all n k w hn
  clear hn hg0
  go_enter Tryd.func3, Tryd.ntmps3
  go_wp2_with fail
  refine HA.out.mono ?_
  rintro e w0 ⟨rfl, hb0⟩
  go_wp2_with fail
  refine (HP.out _).mono ?_
  rintro e w1 ⟨A1, c1, rfl, hs1, hb1⟩
  go_wp2_with fail
  refine (HQ.out _).mono ?_
  rintro e w2 ⟨A2, c2, rfl, hs2, hb2⟩
  go_wp2_with fail
  refine (same_true A1 A2 (putL n k) (putL n k) _ _ c1 c2 _ _ _ rfl rfl (hs1.below hb2) hs2 rfl).mono ?_
  rintro e w' ⟨rfl, rfl⟩
  go_wp2_with fail
  refine (text_all s _).mono ?_
  rintro e w3 ⟨A3, c3, rfl, hs3, hb3⟩
  go_wp2_with fail
  refine (refText_all s _).mono ?_
  rintro e w4 ⟨A4, c4, rfl, hs4, hb4⟩
  go_wp2_with fail
  refine (same_true A3 A4 (textL s) (textL s) _ _ c3 c4 _ _ _ rfl rfl (hs3.below hb4) hs4 rfl).mono ?_
  rintro e w' ⟨rfl, rfl⟩
  go_wp2_with fail
  go_ret
  have z0 := hb0.size
  have z1 := hb1.size
  have z2 := hb2.size
  have z3 := hb3.size
  exact ⟨rfl, (((hb0.trans (hb1.mono (by omega))).trans (hb2.mono (by omega))).trans (hb3.mono (by omega))).trans (hb4.mono (by omega))⟩

set_option maxRecDepth 100000 in
set_option maxHeartbeats 2000000 in
theorem octetGets_calls (A : Option Addr) (l : List UInt8) (c : Nat) (w : World) (hb : Bs w w.heap.size A l) (hg0 : w.cell? gErr = some hErr) :
    Calls Tryd.prog 4 #[.slice A l.length c] w fun ev w' => ev = .returned (.bool true) ∧ Below w.heap.size w w' := by
  have HA := Lib.hid (awake_true w hg0)
  clear hg0
  by_cases h : 1 ≤ l.length ∧ l.length ≤ 8
  · obtain ⟨h1, h8⟩ := h
    have HG := Lib.hid (get_yes A l c _ w hb h1 h8)
    go_enter Tryd.func4, Tryd.ntmps4
    go_wp2_with fail
    refine HG.out.mono ?_
    rintro e w' ⟨rfl, rfl⟩
    go_wp2_with fail
    refine HA.out.mono ?_
    rintro e w0 ⟨rfl, hb0⟩
    go_wp2_with fail
    refine (number_any A l c _ w0 (hb.below hb0) h8).mono ?_
    rintro e w' ⟨rfl, rfl⟩
    go_wp2_with fail
    go_ret
    exact ⟨rfl, hb0⟩
  · have HG := Lib.hid (get_no A l.length c w (by omega))
    go_enter Tryd.func4, Tryd.ntmps4
    go_wp2_with fail
    refine HG.out.mono ?_
    rintro e w' ⟨rfl, rfl⟩
    by_cases h1 : l.length < 1
    · have hd : decide (l.length < 1) = true := by simpa using h1
      go_wp2_with fail
      refine HA.out.mono ?_
      rintro e w0 ⟨rfl, hb0⟩
      go_wp2_with fail
      go_ret
      exact ⟨rfl, hb0⟩
    · have h9 : 8 < l.length := by omega
      go_wp2_with fail
      refine HA.out.mono ?_
      rintro e w0 ⟨rfl, hb0⟩
      go_wp2_with fail
      go_ret
      exact ⟨rfl, hb0⟩
end Go.Proofs.YthfmacmchiidlaaDoor
