/-
  The helper 'over' of the law CrcLies, by its contract; the law answers true and turns nothing that was there. Conditions: the table reads as the program's text lays it; each slice holds at most 2^47 bytes.
-/
import Derived.Test.YtebcnacboidfeaaDoorCrcAwake
import Derived.Deep.RegionHeld3
namespace Go.Proofs.YtebcnacboidfeaaDoor
open Go.RowKit

def lays (a b c : List UInt8) (n : Nat) : List UInt8 := lay (lay (a.take n) (b.take n)) (c.take n)
theorem lays_length (a b c : List UInt8) (n : Nat) (ha : n ≤ a.length) (hb : n ≤ b.length) (hc : n ≤ c.length) : (lays a b c n).length = n := by
  simp [lays, lay]
  omega
theorem lays_at (a b c : List UInt8) (n k : Nat) (ha : k < a.length) (hb : k < b.length) (hc : k < c.length) (hk : k < n) :
    a[k].toNat ^^^ b[k].toNat ^^^ c[k].toNat = ((lays a b c n)[k]'(by simp [lays, lay]; omega)).toNat := by
  simp [lays, lay]
theorem crc_lays (a b c : List UInt8) (n : Nat) (ha : n ≤ a.length) (hb : n ≤ b.length) (hc : n ≤ c.length) : crc (a.take n) ^^^ crc (b.take n) ^^^ crc (c.take n) = crc (lays a b c n) :=
  (crc_lay (a.take n) (b.take n) (c.take n) (by simp; omega) (by simp; omega)).symm

theorem fill_start (w : World) (x : List UInt8) (n : Nat) : Blk (w.alloc (.cells (madeCells #[.int .u8 0] n) 5)) w.heap.size 5 (bv (x.take 0) ++ List.replicate (n - 0) (Value.int .u8 0)).toArray := by
  have h := put_start w 0 n
  rw [leB] at h
  exact h
theorem fill_cell (x : List UInt8) {k n : Nat} (h : k < n) (hx : x.length = n) : (bv (x.take k) ++ List.replicate (n - k) (Value.int .u8 0)).toArray[k]? = some (.int .u8 0) := by
  obtain ⟨d, rfl⟩ : ∃ d, n = k + 1 + d := ⟨n - (k + 1), by omega⟩
  have e1 : k + 1 + d - k = d + 1 := by omega
  have e2 : (x.take k).length = k := by rw [List.length_take]; omega
  simp [bv_length, e1, e2, List.replicate_succ]
theorem fill_step (x : List UInt8) {k n : Nat} (h : k < n) (hx : x.length = n) : ((bv (x.take k) ++ List.replicate (n - k) (Value.int .u8 0)).toArray).setIfInBounds k (.int .u8 ((x[k]'(by omega)).toNat : Int)) = (bv (x.take (k + 1)) ++ List.replicate (n - (k + 1)) (Value.int .u8 0)).toArray := by
  apply Array.ext'
  rw [List.take_succ_eq_append_getElem (by omega), bv_append]
  obtain ⟨d, rfl⟩ : ∃ d, n = k + 1 + d := ⟨n - (k + 1), by omega⟩
  have e1 : k + 1 + d - k = d + 1 := by omega
  have e2 : k + 1 + d - (k + 1) = d := by omega
  have e4 : (bv (x.take k)).length = k := by rw [bv_length, List.length_take]; omega
  rw [e1, e2, List.replicate_succ]
  simp only [List.setIfInBounds_toArray]
  rw [List.set_append_right _ _ (by omega), e4, Nat.sub_self]
  simp [bv]
theorem fill_end {n : Nat} (x : List UInt8) (hx : x.length = n) : (bv (x.take n) ++ List.replicate (n - n) (Value.int .u8 0)).toArray = (bv x).toArray := by
  rw [← hx, List.take_length]
  simp

def OverPost (w : World) (la lb lc : List UInt8) (e : Ending) (w' : World) : Prop :=
  ∃ n, n ≤ la.length ∧ n ≤ lb.length ∧ n ≤ lc.length ∧ e = .returned (.slice (some ⟨w.heap.size, 0, none⟩) n n) ∧ Blk w' w.heap.size 5 (bv (lays la lb lc n)).toArray ∧ Below w.heap.size w w'

set_option maxRecDepth 100000 in
set_option maxHeartbeats 4000000 in
theorem over_any (A1 A2 A3 : Option Addr) (la lb lc : List UInt8) (c1 c2 c3 : Nat) (w : World) (ha : Bs w w.heap.size A1 la) (hb : Bs w w.heap.size A2 lb) (hc : Bs w w.heap.size A3 lc)
    (hla : la.length ≤ 140737488355328) (hlb : lb.length ≤ 140737488355328) (hlc : lc.length ≤ 140737488355328) :
    Calls Tryd.prog 18 #[.slice A1 la.length c1, .slice A2 lb.length c2, .slice A3 lc.length c3] w (OverPost w la lb lc) := by
  obtain ⟨i0, hi0, hz0, hz1, hz2⟩ := info_parts u8info
  have HA := Lib.hid ha
  have HB := Lib.hid hb
  have HC := Lib.hid hc
  clear ha hb hc
  by_cases h1 : lb.length < la.length
  · by_cases h2 : lc.length < lb.length
    · have hna : lc.length ≤ la.length := by omega
      have hnb : lc.length ≤ lb.length := by omega
      have hnc : lc.length ≤ lc.length := by omega
      have hmk := fun W => run_make_bytes (P := Tryd.prog) 23 5 i0 (.int .u8 0) Tryd.underlying23 hi0 hz0 .i64 .i64 (lc.length) (lc.length) (Nat.le_refl _) (by rw [hz2]; omega) (by omega) W
      go_enter Tryd.func18, Tryd.ntmps18
      go_wp2_with fail
      go_loopw [9] (fun i wr => ∃ k : Nat, k ≤ lc.length ∧ i = .int .i64 k ∧ Blk wr w.heap.size 5 (bv ((lays la lb lc lc.length).take k) ++ List.replicate (lc.length - k) (Value.int .u8 0)).toArray ∧ Below w.heap.size w wr) (fun i _ => lc.length - (intOf i).toNat)
      case atStart => exact ⟨0, Nat.zero_le _, rfl, fill_start _ _ _, (Below.refl _ _).alloc (Nat.le_refl _) _⟩
      case round =>
        obtain ⟨k, hk, rfl, hblk, hbel⟩ := hrel
        have hx := lays_length la lb lc lc.length hna hnb hnc
        by_cases hlt : k < lc.length
        · obtain ⟨b1, o1, rfl, hb1, hc1⟩ := (HA.out.below hbel).at_ (show k < la.length by omega)
          obtain ⟨b2, o2, rfl, hb2, hc2⟩ := (HB.out.below hbel).at_ (show k < lb.length by omega)
          obtain ⟨b3, o3, rfl, hb3, hc3⟩ := (HC.out.below hbel).at_ (show k < lc.length by omega)
          have hc : wr.cell? ⟨w.heap.size, k, none⟩ = some (.int .u8 0) := by rw [hblk.cell]; exact fill_cell _ hlt hx
          have hf := hblk.frozen k
          have t1 : (la[k]'(by omega)).toNat < 256 := (la[k]'(by omega)).toNat_lt
          have t2 : (lb[k]'(by omega)).toNat < 256 := (lb[k]'(by omega)).toNat_lt
          have t3 : (lc[k]'(by omega)).toNat < 256 := (lc[k]'(by omega)).toNat_lt
          have e3 := lays_at la lb lc (lc.length) k (by omega) (by omega) (by omega) hlt
          have hfs := fill_step (lays la lb lc (lc.length)) hlt hx
          rw [← e3] at hfs
          obtain ⟨p1, ep1⟩ : ∃ p, (la[k]'(by omega)).toNat = p := ⟨_, rfl⟩
          obtain ⟨p2, ep2⟩ : ∃ p, (lb[k]'(by omega)).toNat = p := ⟨_, rfl⟩
          obtain ⟨p3, ep3⟩ : ∃ p, (lc[k]'(by omega)).toNat = p := ⟨_, rfl⟩
          rw [ep1, ep2, ep3] at hfs
          rw [ep1] at hc1 t1
          rw [ep2] at hc2 t2
          rw [ep3] at hc3 t3
          clear e3 ep1 ep2 ep3
          have e1 := u8_xor_nat p1 p2 t1 t2
          have hz8 : p1 ^^^ p2 < 256 := Nat.xor_lt_two_pow (n := 8) t1 t2
          have e2 := u8_xor_nat (p1 ^^^ p2) p3 hz8 t3
          obtain ⟨z, ez⟩ : ∃ z, p1 ^^^ p2 = z := ⟨_, rfl⟩
          rw [ez] at e1 e2 hfs
          obtain ⟨y, ey⟩ : ∃ y, z ^^^ p3 = y := ⟨_, rfl⟩
          rw [ey] at e2 hfs
          have hset := hblk.set_ k (.int .u8 (y : Int))
          rw [hfs] at hset
          have HS := Lib.hid hset
          clear ez ey hfs hset
          have hb1' : b1 ≠ w.heap.size := by omega
          have hb2' : b2 ≠ w.heap.size := by omega
          have hb3' : b3 ≠ w.heap.size := by omega
          have hk1 : (k : Int) < (la.length : Int) := by omega
          have hk2 : (k : Int) < (lb.length : Int) := by omega
          have hk3 : (k : Int) < (lc.length : Int) := by omega
          have hkn : (k : Int) < ((lc.length : Nat) : Int) := by omega
          have k1 := (World.cell?_setCell_other wr ⟨w.heap.size, k, none⟩ ⟨b1, o1 + k, none⟩ (.int .u8 (y : Int)) (fun e => hb1' (congrArg Addr.block e).symm)).trans hc1
          have k2 := (World.cell?_setCell_other wr ⟨w.heap.size, k, none⟩ ⟨b2, o2 + k, none⟩ (.int .u8 (y : Int)) (fun e => hb2' (congrArg Addr.block e).symm)).trans hc2
          have k3 := (World.cell?_setCell_other wr ⟨w.heap.size, k, none⟩ ⟨b3, o3 + k, none⟩ (.int .u8 (y : Int)) (fun e => hb3' (congrArg Addr.block e).symm)).trans hc3
          go_wp2_with fail
          go_region_held3 (fun w' => w'.cell? ⟨b1, o1 + k, none⟩ = some (.int .u8 p1) ∧ w'.cell? ⟨b2, o2 + k, none⟩ = some (.int .u8 p2) ∧ w'.cell? ⟨b3, o3 + k, none⟩ = some (.int .u8 p3)) (first | exact ⟨hc1, hc2, hc3⟩ | exact ⟨k1, k2, k3⟩) (fail)
          go_wp2_with fail
          go_roundw
          case rel => exact ⟨k + 1, by omega, by go_num, HS.out, (hbel.setCell (Nat.le_refl _) _).drew⟩
          case measure => simp [intOf]; omega
        · obtain rfl : k = lc.length := by omega
          go_wp2_with fail
          go_ret
          rw [fill_end _ hx] at hblk
          exact ⟨_, hna, hnb, hnc, rfl, hblk, hbel⟩
    · have hna : lb.length ≤ la.length := by omega
      have hnb : lb.length ≤ lb.length := by omega
      have hnc : lb.length ≤ lc.length := by omega
      have hmk := fun W => run_make_bytes (P := Tryd.prog) 23 5 i0 (.int .u8 0) Tryd.underlying23 hi0 hz0 .i64 .i64 (lb.length) (lb.length) (Nat.le_refl _) (by rw [hz2]; omega) (by omega) W
      go_enter Tryd.func18, Tryd.ntmps18
      go_wp2_with fail
      go_loopw [9] (fun i wr => ∃ k : Nat, k ≤ lb.length ∧ i = .int .i64 k ∧ Blk wr w.heap.size 5 (bv ((lays la lb lc lb.length).take k) ++ List.replicate (lb.length - k) (Value.int .u8 0)).toArray ∧ Below w.heap.size w wr) (fun i _ => lb.length - (intOf i).toNat)
      case atStart => exact ⟨0, Nat.zero_le _, rfl, fill_start _ _ _, (Below.refl _ _).alloc (Nat.le_refl _) _⟩
      case round =>
        obtain ⟨k, hk, rfl, hblk, hbel⟩ := hrel
        have hx := lays_length la lb lc lb.length hna hnb hnc
        by_cases hlt : k < lb.length
        · obtain ⟨b1, o1, rfl, hb1, hc1⟩ := (HA.out.below hbel).at_ (show k < la.length by omega)
          obtain ⟨b2, o2, rfl, hb2, hc2⟩ := (HB.out.below hbel).at_ (show k < lb.length by omega)
          obtain ⟨b3, o3, rfl, hb3, hc3⟩ := (HC.out.below hbel).at_ (show k < lc.length by omega)
          have hc : wr.cell? ⟨w.heap.size, k, none⟩ = some (.int .u8 0) := by rw [hblk.cell]; exact fill_cell _ hlt hx
          have hf := hblk.frozen k
          have t1 : (la[k]'(by omega)).toNat < 256 := (la[k]'(by omega)).toNat_lt
          have t2 : (lb[k]'(by omega)).toNat < 256 := (lb[k]'(by omega)).toNat_lt
          have t3 : (lc[k]'(by omega)).toNat < 256 := (lc[k]'(by omega)).toNat_lt
          have e3 := lays_at la lb lc (lb.length) k (by omega) (by omega) (by omega) hlt
          have hfs := fill_step (lays la lb lc (lb.length)) hlt hx
          rw [← e3] at hfs
          obtain ⟨p1, ep1⟩ : ∃ p, (la[k]'(by omega)).toNat = p := ⟨_, rfl⟩
          obtain ⟨p2, ep2⟩ : ∃ p, (lb[k]'(by omega)).toNat = p := ⟨_, rfl⟩
          obtain ⟨p3, ep3⟩ : ∃ p, (lc[k]'(by omega)).toNat = p := ⟨_, rfl⟩
          rw [ep1, ep2, ep3] at hfs
          rw [ep1] at hc1 t1
          rw [ep2] at hc2 t2
          rw [ep3] at hc3 t3
          clear e3 ep1 ep2 ep3
          have e1 := u8_xor_nat p1 p2 t1 t2
          have hz8 : p1 ^^^ p2 < 256 := Nat.xor_lt_two_pow (n := 8) t1 t2
          have e2 := u8_xor_nat (p1 ^^^ p2) p3 hz8 t3
          obtain ⟨z, ez⟩ : ∃ z, p1 ^^^ p2 = z := ⟨_, rfl⟩
          rw [ez] at e1 e2 hfs
          obtain ⟨y, ey⟩ : ∃ y, z ^^^ p3 = y := ⟨_, rfl⟩
          rw [ey] at e2 hfs
          have hset := hblk.set_ k (.int .u8 (y : Int))
          rw [hfs] at hset
          have HS := Lib.hid hset
          clear ez ey hfs hset
          have hb1' : b1 ≠ w.heap.size := by omega
          have hb2' : b2 ≠ w.heap.size := by omega
          have hb3' : b3 ≠ w.heap.size := by omega
          have hk1 : (k : Int) < (la.length : Int) := by omega
          have hk2 : (k : Int) < (lb.length : Int) := by omega
          have hk3 : (k : Int) < (lc.length : Int) := by omega
          have hkn : (k : Int) < ((lb.length : Nat) : Int) := by omega
          have k1 := (World.cell?_setCell_other wr ⟨w.heap.size, k, none⟩ ⟨b1, o1 + k, none⟩ (.int .u8 (y : Int)) (fun e => hb1' (congrArg Addr.block e).symm)).trans hc1
          have k2 := (World.cell?_setCell_other wr ⟨w.heap.size, k, none⟩ ⟨b2, o2 + k, none⟩ (.int .u8 (y : Int)) (fun e => hb2' (congrArg Addr.block e).symm)).trans hc2
          have k3 := (World.cell?_setCell_other wr ⟨w.heap.size, k, none⟩ ⟨b3, o3 + k, none⟩ (.int .u8 (y : Int)) (fun e => hb3' (congrArg Addr.block e).symm)).trans hc3
          go_wp2_with fail
          go_region_held3 (fun w' => w'.cell? ⟨b1, o1 + k, none⟩ = some (.int .u8 p1) ∧ w'.cell? ⟨b2, o2 + k, none⟩ = some (.int .u8 p2) ∧ w'.cell? ⟨b3, o3 + k, none⟩ = some (.int .u8 p3)) (first | exact ⟨hc1, hc2, hc3⟩ | exact ⟨k1, k2, k3⟩) (fail)
          go_wp2_with fail
          go_roundw
          case rel => exact ⟨k + 1, by omega, by go_num, HS.out, (hbel.setCell (Nat.le_refl _) _).drew⟩
          case measure => simp [intOf]; omega
        · obtain rfl : k = lb.length := by omega
          go_wp2_with fail
          go_ret
          rw [fill_end _ hx] at hblk
          exact ⟨_, hna, hnb, hnc, rfl, hblk, hbel⟩
  · by_cases h2 : lc.length < la.length
    · have hna : lc.length ≤ la.length := by omega
      have hnb : lc.length ≤ lb.length := by omega
      have hnc : lc.length ≤ lc.length := by omega
      have hmk := fun W => run_make_bytes (P := Tryd.prog) 23 5 i0 (.int .u8 0) Tryd.underlying23 hi0 hz0 .i64 .i64 (lc.length) (lc.length) (Nat.le_refl _) (by rw [hz2]; omega) (by omega) W
      go_enter Tryd.func18, Tryd.ntmps18
      go_wp2_with fail
      go_loopw [9] (fun i wr => ∃ k : Nat, k ≤ lc.length ∧ i = .int .i64 k ∧ Blk wr w.heap.size 5 (bv ((lays la lb lc lc.length).take k) ++ List.replicate (lc.length - k) (Value.int .u8 0)).toArray ∧ Below w.heap.size w wr) (fun i _ => lc.length - (intOf i).toNat)
      case atStart => exact ⟨0, Nat.zero_le _, rfl, fill_start _ _ _, (Below.refl _ _).alloc (Nat.le_refl _) _⟩
      case round =>
        obtain ⟨k, hk, rfl, hblk, hbel⟩ := hrel
        have hx := lays_length la lb lc lc.length hna hnb hnc
        by_cases hlt : k < lc.length
        · obtain ⟨b1, o1, rfl, hb1, hc1⟩ := (HA.out.below hbel).at_ (show k < la.length by omega)
          obtain ⟨b2, o2, rfl, hb2, hc2⟩ := (HB.out.below hbel).at_ (show k < lb.length by omega)
          obtain ⟨b3, o3, rfl, hb3, hc3⟩ := (HC.out.below hbel).at_ (show k < lc.length by omega)
          have hc : wr.cell? ⟨w.heap.size, k, none⟩ = some (.int .u8 0) := by rw [hblk.cell]; exact fill_cell _ hlt hx
          have hf := hblk.frozen k
          have t1 : (la[k]'(by omega)).toNat < 256 := (la[k]'(by omega)).toNat_lt
          have t2 : (lb[k]'(by omega)).toNat < 256 := (lb[k]'(by omega)).toNat_lt
          have t3 : (lc[k]'(by omega)).toNat < 256 := (lc[k]'(by omega)).toNat_lt
          have e3 := lays_at la lb lc (lc.length) k (by omega) (by omega) (by omega) hlt
          have hfs := fill_step (lays la lb lc (lc.length)) hlt hx
          rw [← e3] at hfs
          obtain ⟨p1, ep1⟩ : ∃ p, (la[k]'(by omega)).toNat = p := ⟨_, rfl⟩
          obtain ⟨p2, ep2⟩ : ∃ p, (lb[k]'(by omega)).toNat = p := ⟨_, rfl⟩
          obtain ⟨p3, ep3⟩ : ∃ p, (lc[k]'(by omega)).toNat = p := ⟨_, rfl⟩
          rw [ep1, ep2, ep3] at hfs
          rw [ep1] at hc1 t1
          rw [ep2] at hc2 t2
          rw [ep3] at hc3 t3
          clear e3 ep1 ep2 ep3
          have e1 := u8_xor_nat p1 p2 t1 t2
          have hz8 : p1 ^^^ p2 < 256 := Nat.xor_lt_two_pow (n := 8) t1 t2
          have e2 := u8_xor_nat (p1 ^^^ p2) p3 hz8 t3
          obtain ⟨z, ez⟩ : ∃ z, p1 ^^^ p2 = z := ⟨_, rfl⟩
          rw [ez] at e1 e2 hfs
          obtain ⟨y, ey⟩ : ∃ y, z ^^^ p3 = y := ⟨_, rfl⟩
          rw [ey] at e2 hfs
          have hset := hblk.set_ k (.int .u8 (y : Int))
          rw [hfs] at hset
          have HS := Lib.hid hset
          clear ez ey hfs hset
          have hb1' : b1 ≠ w.heap.size := by omega
          have hb2' : b2 ≠ w.heap.size := by omega
          have hb3' : b3 ≠ w.heap.size := by omega
          have hk1 : (k : Int) < (la.length : Int) := by omega
          have hk2 : (k : Int) < (lb.length : Int) := by omega
          have hk3 : (k : Int) < (lc.length : Int) := by omega
          have hkn : (k : Int) < ((lc.length : Nat) : Int) := by omega
          have k1 := (World.cell?_setCell_other wr ⟨w.heap.size, k, none⟩ ⟨b1, o1 + k, none⟩ (.int .u8 (y : Int)) (fun e => hb1' (congrArg Addr.block e).symm)).trans hc1
          have k2 := (World.cell?_setCell_other wr ⟨w.heap.size, k, none⟩ ⟨b2, o2 + k, none⟩ (.int .u8 (y : Int)) (fun e => hb2' (congrArg Addr.block e).symm)).trans hc2
          have k3 := (World.cell?_setCell_other wr ⟨w.heap.size, k, none⟩ ⟨b3, o3 + k, none⟩ (.int .u8 (y : Int)) (fun e => hb3' (congrArg Addr.block e).symm)).trans hc3
          go_wp2_with fail
          go_region_held3 (fun w' => w'.cell? ⟨b1, o1 + k, none⟩ = some (.int .u8 p1) ∧ w'.cell? ⟨b2, o2 + k, none⟩ = some (.int .u8 p2) ∧ w'.cell? ⟨b3, o3 + k, none⟩ = some (.int .u8 p3)) (first | exact ⟨hc1, hc2, hc3⟩ | exact ⟨k1, k2, k3⟩) (fail)
          go_wp2_with fail
          go_roundw
          case rel => exact ⟨k + 1, by omega, by go_num, HS.out, (hbel.setCell (Nat.le_refl _) _).drew⟩
          case measure => simp [intOf]; omega
        · obtain rfl : k = lc.length := by omega
          go_wp2_with fail
          go_ret
          rw [fill_end _ hx] at hblk
          exact ⟨_, hna, hnb, hnc, rfl, hblk, hbel⟩
    · have hna : la.length ≤ la.length := by omega
      have hnb : la.length ≤ lb.length := by omega
      have hnc : la.length ≤ lc.length := by omega
      have hmk := fun W => run_make_bytes (P := Tryd.prog) 23 5 i0 (.int .u8 0) Tryd.underlying23 hi0 hz0 .i64 .i64 (la.length) (la.length) (Nat.le_refl _) (by rw [hz2]; omega) (by omega) W
      go_enter Tryd.func18, Tryd.ntmps18
      go_wp2_with fail
      go_loopw [9] (fun i wr => ∃ k : Nat, k ≤ la.length ∧ i = .int .i64 k ∧ Blk wr w.heap.size 5 (bv ((lays la lb lc la.length).take k) ++ List.replicate (la.length - k) (Value.int .u8 0)).toArray ∧ Below w.heap.size w wr) (fun i _ => la.length - (intOf i).toNat)
      case atStart => exact ⟨0, Nat.zero_le _, rfl, fill_start _ _ _, (Below.refl _ _).alloc (Nat.le_refl _) _⟩
      case round =>
        obtain ⟨k, hk, rfl, hblk, hbel⟩ := hrel
        have hx := lays_length la lb lc la.length hna hnb hnc
        by_cases hlt : k < la.length
        · obtain ⟨b1, o1, rfl, hb1, hc1⟩ := (HA.out.below hbel).at_ (show k < la.length by omega)
          obtain ⟨b2, o2, rfl, hb2, hc2⟩ := (HB.out.below hbel).at_ (show k < lb.length by omega)
          obtain ⟨b3, o3, rfl, hb3, hc3⟩ := (HC.out.below hbel).at_ (show k < lc.length by omega)
          have hc : wr.cell? ⟨w.heap.size, k, none⟩ = some (.int .u8 0) := by rw [hblk.cell]; exact fill_cell _ hlt hx
          have hf := hblk.frozen k
          have t1 : (la[k]'(by omega)).toNat < 256 := (la[k]'(by omega)).toNat_lt
          have t2 : (lb[k]'(by omega)).toNat < 256 := (lb[k]'(by omega)).toNat_lt
          have t3 : (lc[k]'(by omega)).toNat < 256 := (lc[k]'(by omega)).toNat_lt
          have e3 := lays_at la lb lc (la.length) k (by omega) (by omega) (by omega) hlt
          have hfs := fill_step (lays la lb lc (la.length)) hlt hx
          rw [← e3] at hfs
          obtain ⟨p1, ep1⟩ : ∃ p, (la[k]'(by omega)).toNat = p := ⟨_, rfl⟩
          obtain ⟨p2, ep2⟩ : ∃ p, (lb[k]'(by omega)).toNat = p := ⟨_, rfl⟩
          obtain ⟨p3, ep3⟩ : ∃ p, (lc[k]'(by omega)).toNat = p := ⟨_, rfl⟩
          rw [ep1, ep2, ep3] at hfs
          rw [ep1] at hc1 t1
          rw [ep2] at hc2 t2
          rw [ep3] at hc3 t3
          clear e3 ep1 ep2 ep3
          have e1 := u8_xor_nat p1 p2 t1 t2
          have hz8 : p1 ^^^ p2 < 256 := Nat.xor_lt_two_pow (n := 8) t1 t2
          have e2 := u8_xor_nat (p1 ^^^ p2) p3 hz8 t3
          obtain ⟨z, ez⟩ : ∃ z, p1 ^^^ p2 = z := ⟨_, rfl⟩
          rw [ez] at e1 e2 hfs
          obtain ⟨y, ey⟩ : ∃ y, z ^^^ p3 = y := ⟨_, rfl⟩
          rw [ey] at e2 hfs
          have hset := hblk.set_ k (.int .u8 (y : Int))
          rw [hfs] at hset
          have HS := Lib.hid hset
          clear ez ey hfs hset
          have hb1' : b1 ≠ w.heap.size := by omega
          have hb2' : b2 ≠ w.heap.size := by omega
          have hb3' : b3 ≠ w.heap.size := by omega
          have hk1 : (k : Int) < (la.length : Int) := by omega
          have hk2 : (k : Int) < (lb.length : Int) := by omega
          have hk3 : (k : Int) < (lc.length : Int) := by omega
          have hkn : (k : Int) < ((la.length : Nat) : Int) := by omega
          have k1 := (World.cell?_setCell_other wr ⟨w.heap.size, k, none⟩ ⟨b1, o1 + k, none⟩ (.int .u8 (y : Int)) (fun e => hb1' (congrArg Addr.block e).symm)).trans hc1
          have k2 := (World.cell?_setCell_other wr ⟨w.heap.size, k, none⟩ ⟨b2, o2 + k, none⟩ (.int .u8 (y : Int)) (fun e => hb2' (congrArg Addr.block e).symm)).trans hc2
          have k3 := (World.cell?_setCell_other wr ⟨w.heap.size, k, none⟩ ⟨b3, o3 + k, none⟩ (.int .u8 (y : Int)) (fun e => hb3' (congrArg Addr.block e).symm)).trans hc3
          go_wp2_with fail
          go_region_held3 (fun w' => w'.cell? ⟨b1, o1 + k, none⟩ = some (.int .u8 p1) ∧ w'.cell? ⟨b2, o2 + k, none⟩ = some (.int .u8 p2) ∧ w'.cell? ⟨b3, o3 + k, none⟩ = some (.int .u8 p3)) (first | exact ⟨hc1, hc2, hc3⟩ | exact ⟨k1, k2, k3⟩) (fail)
          go_wp2_with fail
          go_roundw
          case rel => exact ⟨k + 1, by omega, by go_num, HS.out, (hbel.setCell (Nat.le_refl _) _).drew⟩
          case measure => simp [intOf]; omega
        · obtain rfl : k = la.length := by omega
          go_wp2_with fail
          go_ret
          rw [fill_end _ hx] at hblk
          exact ⟨_, hna, hnb, hnc, rfl, hblk, hbel⟩
end Go.Proofs.YtebcnacboidfeaaDoor
