/-
  The law's is, few, short, Told, by their contracts. Conditions: each theorem's own premises.
-/
import Derived.Test.YthgiehlfmdobkaaDoorPvmMath
import Derived.BigQuiet
namespace Go.Proofs.YthgiehlfmdobkaaDoor
open Go.RowKit

/-- a machine's value: its words lie at A -/
def mv (M : Mach) (A : Option Addr) (n c : Nat) : Value := .agg #[.int .i64 M.p, .int .i64 (M.r 0), .int .i64 (M.r 1), .int .i64 (M.r 2), .int .i64 (M.r 3), .int .i64 (M.r 4), .int .i64 (M.r 5), .int .i64 (M.r 6), .int .i64 (M.r 7), .slice A n c, .int .i64 M.s, .int .i64 M.t]

theorem j_info : (Tryd.prog.info? 2).map (fun i => (i.zero, i.size, i.bytes)) = some (some (.int .i64 0), 1, 8) := by kernel_rfl
theorem j_cells : Tryd.prog.cellsOf 2 = 1 := by kernel_rfl
theorem j_plain : Tryd.prog.plainKey 2 = true := by kernel_rfl
theorem eq8 (x0 x1 x2 x3 x4 x5 x6 x7 : Int) (w : World) : (Op.equalIn 10000 23 (.agg #[.int .i64 x0, .int .i64 x1, .int .i64 x2, .int .i64 x3, .int .i64 x4, .int .i64 x5, .int .i64 x6, .int .i64 x7]) (.agg #[.int .i64 x0, .int .i64 x1, .int .i64 x2, .int .i64 x3, .int .i64 x4, .int .i64 x5, .int .i64 x6, .int .i64 x7])).run Tryd.prog w = .ok true w := by
  obtain ⟨i1, hi0, _, _, _⟩ := info_parts j_info
  exact run_equalIn_self 9998 8 _ 2 .i64 i1 _ Tryd.underlying23 hi0 j_cells Tryd.underlying2 j_plain (fun i hi => by
    match i, hi with
    | 0, _ => exact ⟨_, rfl⟩
    | 1, _ => exact ⟨_, rfl⟩
    | 2, _ => exact ⟨_, rfl⟩
    | 3, _ => exact ⟨_, rfl⟩
    | 4, _ => exact ⟨_, rfl⟩
    | 5, _ => exact ⟨_, rfl⟩
    | 6, _ => exact ⟨_, rfl⟩
    | 7, _ => exact ⟨_, rfl⟩) w

set_option maxRecDepth 100000 in
set_option maxHeartbeats 4000000 in
set_option linter.unusedSimpArgs false in
theorem isSame (M : Mach) (A B : Option Addr) (n c d : Nat) (hn : M.mem.length = n) (hl : n ≤ 1000000) (w : World) (hA : Vs w w.heap.size A (zv M.mem)) (hB : Vs w w.heap.size B (zv M.mem)) :
    Calls Tryd.prog 8 #[mv M A n c, mv M B n d] w (Says w (.bool true)) := by
  have H := Lib.hid (And.intro hn (And.intro hA hB))
  clear hn hA hB
  unfold mv
  obtain ⟨p, ep⟩ : ∃ x, M.p = x := ⟨_, rfl⟩
  obtain ⟨s, es⟩ : ∃ x, M.s = x := ⟨_, rfl⟩
  obtain ⟨t, et⟩ : ∃ x, M.t = x := ⟨_, rfl⟩
  rw [ep, es, et]
  have h8 := eq8 (M.r 0) (M.r 1) (M.r 2) (M.r 3) (M.r 4) (M.r 5) (M.r 6) (M.r 7)
  go_enter Tryd.func8, Tryd.ntmps8
  go_wp2_with fail
  have k0 := (Blk.new w 27 #[.int .i64 p, .int .i64 (M.r 0), .int .i64 (M.r 1), .int .i64 (M.r 2), .int .i64 (M.r 3), .int .i64 (M.r 4), .int .i64 (M.r 5), .int .i64 (M.r 6), .int .i64 (M.r 7), .slice A n c, .int .i64 s, .int .i64 t]).alloc (.cells #[.int .i64 p, .int .i64 (M.r 0), .int .i64 (M.r 1), .int .i64 (M.r 2), .int .i64 (M.r 3), .int .i64 (M.r 4), .int .i64 (M.r 5), .int .i64 (M.r 6), .int .i64 (M.r 7), .slice B n d, .int .i64 s, .int .i64 t] 30)
  have k1 := Blk.new (w.alloc (.cells #[.int .i64 p, .int .i64 (M.r 0), .int .i64 (M.r 1), .int .i64 (M.r 2), .int .i64 (M.r 3), .int .i64 (M.r 4), .int .i64 (M.r 5), .int .i64 (M.r 6), .int .i64 (M.r 7), .slice A n c, .int .i64 s, .int .i64 t] 27)) 30 #[.int .i64 p, .int .i64 (M.r 0), .int .i64 (M.r 1), .int .i64 (M.r 2), .int .i64 (M.r 3), .int .i64 (M.r 4), .int .i64 (M.r 5), .int .i64 (M.r 6), .int .i64 (M.r 7), .slice B n d, .int .i64 s, .int .i64 t]
  have hz1 := below_alloc w (.cells #[.int .i64 p, .int .i64 (M.r 0), .int .i64 (M.r 1), .int .i64 (M.r 2), .int .i64 (M.r 3), .int .i64 (M.r 4), .int .i64 (M.r 5), .int .i64 (M.r 6), .int .i64 (M.r 7), .slice A n c, .int .i64 s, .int .i64 t] 27)
  rw [show (w.alloc (.cells #[.int .i64 p, .int .i64 (M.r 0), .int .i64 (M.r 1), .int .i64 (M.r 2), .int .i64 (M.r 3), .int .i64 (M.r 4), .int .i64 (M.r 5), .int .i64 (M.r 6), .int .i64 (M.r 7), .slice A n c, .int .i64 s, .int .i64 t] 27)).heap.size = w.heap.size + 1 by simp] at k1
  have hz2 := hz1.alloc hz1.size (.cells #[.int .i64 p, .int .i64 (M.r 0), .int .i64 (M.r 1), .int .i64 (M.r 2), .int .i64 (M.r 3), .int .i64 (M.r 4), .int .i64 (M.r 5), .int .i64 (M.r 6), .int .i64 (M.r 7), .slice B n d, .int .i64 s, .int .i64 t] 30)
  obtain ⟨w2, ew2⟩ : ∃ W, (w.alloc (.cells #[.int .i64 p, .int .i64 (M.r 0), .int .i64 (M.r 1), .int .i64 (M.r 2), .int .i64 (M.r 3), .int .i64 (M.r 4), .int .i64 (M.r 5), .int .i64 (M.r 6), .int .i64 (M.r 7), .slice A n c, .int .i64 s, .int .i64 t] 27)).alloc (.cells #[.int .i64 p, .int .i64 (M.r 0), .int .i64 (M.r 1), .int .i64 (M.r 2), .int .i64 (M.r 3), .int .i64 (M.r 4), .int .i64 (M.r 5), .int .i64 (M.r 6), .int .i64 (M.r 7), .slice B n d, .int .i64 s, .int .i64 t] 30) = W := ⟨_, rfl⟩
  obtain ⟨g0, eg0⟩ : ∃ x, w.heap.size = x := ⟨_, rfl⟩
  obtain ⟨g1, eg1⟩ : ∃ x, g0 + 1 = x := ⟨_, rfl⟩
  rw [ew2] at k0 k1 hz2 ⊢
  rw [eg0] at k0 k1 ⊢
  rw [eg1] at k1 ⊢
  have HK := Lib.hid (And.intro k0 (And.intro k1 hz2))
  clear k0 k1 hz1 hz2 ew2 eg0 eg1 h8
  go_loopw [5] (fun u wz => ∃ i : Nat, i ≤ n ∧ u = .int .i64 (i : Int) ∧ Below w2.heap.size w2 wz) (fun u _ => n - (intOf u).toNat)
  case atStart => exact ⟨0, by omega, rfl, Below.refl _ _⟩
  case round =>
    obtain ⟨i, hin, rfl, hbel⟩ := hrel
    have c0 : wr.cell? ⟨g0, 9, none⟩ = some (.slice A n c) := by rw [(HK.out.1.below hbel HK.out.1.lt).cell]; rfl
    have c1 : wr.cell? ⟨g1, 9, none⟩ = some (.slice B n d) := by rw [(HK.out.2.1.below hbel HK.out.2.1.lt).cell]; rfl
    by_cases hlt : i < n
    · have hii : (i : Int) < (n : Int) := by omega
      have hi0 : (0 : Int) ≤ (i : Int) := by omega
      have hbw : Below w.heap.size w wr := HK.out.2.2.trans (hbel.mono HK.out.2.2.size)
      obtain ⟨x, ex⟩ : ∃ x, M.mem.getD i 0 = x := ⟨_, rfl⟩
      have hz := zv_get (l := M.mem) (j := i) (by rw [H.out.1]; exact hlt)
      rw [ex] at hz
      obtain ⟨ba, oa, eA, hba, hca⟩ := H.out.2.1 (by rw [zv_length, H.out.1]; omega)
      obtain ⟨bb, ob, eB, hbb, hcb⟩ := H.out.2.2 (by rw [zv_length, H.out.1]; omega)
      have a0 : wr.cell? ⟨ba, oa + i, none⟩ = some (.int .i64 x) := (hbw.cell (p := ⟨ba, oa + i, none⟩) hba).trans (hca i _ hz)
      have b0 : wr.cell? ⟨bb, ob + i, none⟩ = some (.int .i64 x) := (hbw.cell (p := ⟨bb, ob + i, none⟩) hbb).trans (hcb i _ hz)
      subst eA eB
      have HB := Lib.hid hbel
      clear hca hcb hz ex hbel hbw
      go_wp2_with fail
      go_quiet (fail)
      rename_i nq
      go_wp2_with fail
      go_roundw
      case rel => exact ⟨i + 1, by omega, by go_num, below_drewN HB.out nq⟩
      case measure => simp only [intOf]; omega
    · obtain rfl : i = n := by omega
      have hii : ¬ (i : Int) < (i : Int) := by omega
      have HB := Lib.hid hbel
      clear hbel
      go_wp2_with fail
      go_ret
      exact ⟨rfl, HK.out.2.2.trans (HB.out.mono HK.out.2.2.size)⟩
end Go.Proofs.YthgiehlfmdobkaaDoor
