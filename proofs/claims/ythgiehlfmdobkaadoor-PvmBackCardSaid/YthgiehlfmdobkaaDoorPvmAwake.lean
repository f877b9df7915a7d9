/-
  The law's awake, by its contract. Conditions: errors.errorType holds its handle.
-/
import Derived.Test.YthgiehlfmdobkaaDoorPvmFnU
namespace Go.Proofs.YthgiehlfmdobkaaDoor
open Go.RowKit

theorem insOf (w : World) (l : List Ins) (hok : okL l) (g : Nat) (hg : w.heap.size = g) : InsAt (w.alloc (.cells (ivs l).toArray 61)) (some ⟨g, 0, none⟩) l := by
  subst hg
  exact ⟨vs_of_blk (Blk.new w 61 _) (by simp), hok⟩
theorem mv_n0 (A : Option Addr) (n c : Nat) : mv (newM 0) A n c = Value.agg #[.int .i64 0, .int .i64 0, .int .i64 0, .int .i64 0, .int .i64 0, .int .i64 0, .int .i64 0, .int .i64 0, .int .i64 0, .slice A n c, .int .i64 0, .int .i64 0] := rfl
def k1 : Mach := ⟨1, fun j => if j = 0 then 5 else 0, [], 0, 0⟩
def k2 : Mach := ⟨0, fun _ => 0, [], 2, 80⟩
def k3 : Mach := ⟨1, fun _ => 0, [], 0, 0⟩
theorem mv_k1 (A : Option Addr) (n c : Nat) : mv k1 A n c = Value.agg #[.int .i64 1, .int .i64 5, .int .i64 0, .int .i64 0, .int .i64 0, .int .i64 0, .int .i64 0, .int .i64 0, .int .i64 0, .slice A n c, .int .i64 0, .int .i64 0] := rfl
theorem mv_k2 (A : Option Addr) (n c : Nat) : mv k2 A n c = Value.agg #[.int .i64 0, .int .i64 0, .int .i64 0, .int .i64 0, .int .i64 0, .int .i64 0, .int .i64 0, .int .i64 0, .int .i64 0, .slice A n c, .int .i64 2, .int .i64 80] := rfl
theorem mv_k3 (A : Option Addr) (n c : Nat) : mv k3 A n c = Value.agg #[.int .i64 1, .int .i64 0, .int .i64 0, .int .i64 0, .int .i64 0, .int .i64 0, .int .i64 0, .int .i64 0, .int .i64 0, .slice A n c, .int .i64 0, .int .i64 0] := rfl
theorem st_k1 : stepM [⟨1, 0, 5, 0⟩, ⟨0, 0, 0, 0⟩] (newM 0) = (k1, 0, 0) := rfl
theorem st_k2 : stepM [⟨6, 0, 0, 1⟩, ⟨0, 0, 0, 0⟩] (newM 0) = (k2, 3, 80) := rfl
theorem st_k3 : runM [⟨17, 7, 0, 0⟩, ⟨0, 0, 0, 0⟩] 9 (newM 0) = (k3, 1, 7, 1) := rfl
theorem k1_len : k1.mem.length = 0 := rfl
theorem k2_len : k2.mem.length = 0 := rfl
theorem k3_len : k3.mem.length = 0 := rfl
theorem n0_len : (newM 0).mem.length = 0 := rfl
theorem ev_is (kd nm : Int) : ev kd nm = .agg #[.int .i64 kd, .int .i64 nm] := rfl
theorem okS1 : okL [⟨1, 0, 5, 0⟩, ⟨0, 0, 0, 0⟩] := fun i hi => by
  simp only [List.mem_cons, List.not_mem_nil, or_false] at hi
  rcases hi with rfl | rfl <;> exact ⟨by decide, by decide, by decide, by decide⟩
theorem okS2 : okL [⟨6, 0, 0, 1⟩, ⟨0, 0, 0, 0⟩] := fun i hi => by
  simp only [List.mem_cons, List.not_mem_nil, or_false] at hi
  rcases hi with rfl | rfl <;> exact ⟨by decide, by decide, by decide, by decide⟩
theorem okS3 : okL [⟨17, 7, 0, 0⟩, ⟨0, 0, 0, 0⟩] := fun i hi => by
  simp only [List.mem_cons, List.not_mem_nil, or_false] at hi
  rcases hi with rfl | rfl <;> exact ⟨by decide, by decide, by decide, by decide⟩

set_option maxRecDepth 100000 in
set_option maxHeartbeats 4000000 in
set_option linter.unusedSimpArgs false in
theorem pvmAwake (w : World) (hG : HasErr w) : Calls Tryd.prog 11 #[] w (Says w (.bool true)) := by
  go_enter Tryd.func11, Tryd.ntmps11
  go_wp2_with fail
  have hz00 : Below w.heap.size w w := Below.refl _ _
  have hz10 := hz00.alloc hz00.size (.cells (ivs [⟨1, 0, 5, 0⟩, ⟨0, 0, 0, 0⟩]).toArray 61)
  have hi1 := insOf w [⟨1, 0, 5, 0⟩, ⟨0, 0, 0, 0⟩] okS1 _ rfl
  refine (pvNew 0 r64_0 _).mono ?_
  rintro e wa1 ⟨A1, c1, rfl, hr1, hb1⟩
  have hm1 := machAt_row hr1 (newM_ok 0)
  have hz11 := hz10.trans (hb1.mono hz10.size)
  have HA1 := Lib.hid (And.intro (hi1.below hb1) (And.intro hm1 hz11))
  clear hz10 hi1 hr1 hb1 hm1 hz11
  rw [mv_n0, n0_len]
  go_wp2_with fail
  have hs1 := pvStep (some ⟨_, 0, none⟩) [⟨1, 0, 5, 0⟩, ⟨0, 0, 0, 0⟩] 2 2 rfl (by decide) wa1 HA1.out.1 (hG.below HA1.out.2.2) (newM 0) A1 0 c1 HA1.out.2.1 (by decide)
  rw [st_k1] at hs1
  have HS1 := Lib.hid hs1
  clear hs1
  refine HS1.out.mono ?_
  rintro e wb1 ⟨B1, d1, rfl, _, _, hb1⟩
  have HB1 := Lib.hid (HA1.out.2.2.trans (hb1.mono HA1.out.2.2.size))
  clear hb1
  dsimp only
  rw [mv_k1, k1_len, ev_is]
  go_wp2_with fail
  have ka1 := (Blk.new wb1 27 #[.int .i64 1, .int .i64 5, .int .i64 0, .int .i64 0, .int .i64 0, .int .i64 0, .int .i64 0, .int .i64 0, .int .i64 0, .slice B1 0 d1, .int .i64 0, .int .i64 0]).alloc (.cells #[.int .i64 0, .int .i64 0] 38)
  have ke1 := blk2 wb1 (.cells #[.int .i64 1, .int .i64 5, .int .i64 0, .int .i64 0, .int .i64 0, .int .i64 0, .int .i64 0, .int .i64 0, .int .i64 0, .slice B1 0 d1, .int .i64 0, .int .i64 0] 27) 38 #[.int .i64 0, .int .i64 0]
  have hq1 := HB1.out.trans ((below2 wb1 (.cells #[.int .i64 1, .int .i64 5, .int .i64 0, .int .i64 0, .int .i64 0, .int .i64 0, .int .i64 0, .int .i64 0, .int .i64 0, .slice B1 0 d1, .int .i64 0, .int .i64 0] 27) (.cells #[.int .i64 0, .int .i64 0] 38)).mono HB1.out.size)
  have hg1 : ((wb1.alloc (.cells #[.int .i64 1, .int .i64 5, .int .i64 0, .int .i64 0, .int .i64 0, .int .i64 0, .int .i64 0, .int .i64 0, .int .i64 0, .slice B1 0 d1, .int .i64 0, .int .i64 0] 27)).alloc (.cells #[.int .i64 0, .int .i64 0] 38)).heap.size = wb1.heap.size + 1 + 1 := by simp
  have hp1 : Below wb1.heap.size wb1 ((wb1.alloc (.cells #[.int .i64 1, .int .i64 5, .int .i64 0, .int .i64 0, .int .i64 0, .int .i64 0, .int .i64 0, .int .i64 0, .int .i64 0, .slice B1 0 d1, .int .i64 0, .int .i64 0] 27)).alloc (.cells #[.int .i64 0, .int .i64 0] 38)) := below2 wb1 _ _
  obtain ⟨W1, eW1⟩ : ∃ W, (wb1.alloc (.cells #[.int .i64 1, .int .i64 5, .int .i64 0, .int .i64 0, .int .i64 0, .int .i64 0, .int .i64 0, .int .i64 0, .int .i64 0, .slice B1 0 d1, .int .i64 0, .int .i64 0] 27)).alloc (.cells #[.int .i64 0, .int .i64 0] 38) = W := ⟨_, rfl⟩
  rw [eW1] at ka1 ke1 hq1 hg1 hp1 ⊢
  obtain ⟨ga1, ega1⟩ : ∃ x, wb1.heap.size = x := ⟨_, rfl⟩
  obtain ⟨ge1, ege1⟩ : ∃ x, ga1 + 1 = x := ⟨_, rfl⟩
  obtain ⟨gl1, egl1⟩ : ∃ x, ge1 + 1 = x := ⟨_, rfl⟩
  have hp1' := hp1
  rw [ega1] at ka1 ke1 hg1 ⊢
  rw [ege1] at ke1 hg1 ⊢
  rw [egl1] at hg1 ⊢
  have HW1 := Lib.hid (And.intro ka1 (And.intro ke1 (And.intro hq1 hg1)))
  clear ka1 ke1 hq1 hg1 hp1 hp1' eW1 ega1 ege1 egl1 HB1 HS1 HA1
  have hz20 := HW1.out.2.2.1.alloc HW1.out.2.2.1.size (.cells (ivs [⟨6, 0, 0, 1⟩, ⟨0, 0, 0, 0⟩]).toArray 61)
  have hi2 := insOf W1 [⟨6, 0, 0, 1⟩, ⟨0, 0, 0, 0⟩] okS2 _ HW1.out.2.2.2
  refine (pvNew 0 r64_0 _).mono ?_
  rintro e wa2 ⟨A2, c2, rfl, hr2, hb2⟩
  have hm2 := machAt_row hr2 (newM_ok 0)
  have hz21 := hz20.trans (hb2.mono hz20.size)
  have hy20 := (below_alloc W1 (.cells (ivs [⟨6, 0, 0, 1⟩, ⟨0, 0, 0, 0⟩]).toArray 61))
  have HY2 := Lib.hid (hy20.trans (hb2.mono hy20.size))
  clear hy20
  have HA2 := Lib.hid (And.intro (hi2.below hb2) (And.intro hm2 hz21))
  clear hz20 hi2 hr2 hb2 hm2 hz21
  rw [mv_n0, n0_len]
  go_wp2_with fail
  have hs2 := pvStep (some ⟨_, 0, none⟩) [⟨6, 0, 0, 1⟩, ⟨0, 0, 0, 0⟩] 2 2 rfl (by decide) wa2 HA2.out.1 (hG.below HA2.out.2.2) (newM 0) A2 0 c2 HA2.out.2.1 (by decide)
  rw [st_k2] at hs2
  have HS2 := Lib.hid hs2
  clear hs2
  refine HS2.out.mono ?_
  rintro e wb2 ⟨B2, d2, rfl, _, _, hb2⟩
  have HB2 := Lib.hid (HA2.out.2.2.trans (hb2.mono HA2.out.2.2.size))
  have HZ2 := Lib.hid (HY2.out.trans (hb2.mono HY2.out.size))
  clear hb2
  dsimp only
  rw [mv_k2, k2_len, ev_is]
  go_wp2_with fail
  have ka2 := (Blk.new wb2 27 #[.int .i64 0, .int .i64 0, .int .i64 0, .int .i64 0, .int .i64 0, .int .i64 0, .int .i64 0, .int .i64 0, .int .i64 0, .slice B2 0 d2, .int .i64 2, .int .i64 80]).alloc (.cells #[.int .i64 3, .int .i64 80] 38)
  have ke2 := blk2 wb2 (.cells #[.int .i64 0, .int .i64 0, .int .i64 0, .int .i64 0, .int .i64 0, .int .i64 0, .int .i64 0, .int .i64 0, .int .i64 0, .slice B2 0 d2, .int .i64 2, .int .i64 80] 27) 38 #[.int .i64 3, .int .i64 80]
  have hq2 := HB2.out.trans ((below2 wb2 (.cells #[.int .i64 0, .int .i64 0, .int .i64 0, .int .i64 0, .int .i64 0, .int .i64 0, .int .i64 0, .int .i64 0, .int .i64 0, .slice B2 0 d2, .int .i64 2, .int .i64 80] 27) (.cells #[.int .i64 3, .int .i64 80] 38)).mono HB2.out.size)
  have hg2 : ((wb2.alloc (.cells #[.int .i64 0, .int .i64 0, .int .i64 0, .int .i64 0, .int .i64 0, .int .i64 0, .int .i64 0, .int .i64 0, .int .i64 0, .slice B2 0 d2, .int .i64 2, .int .i64 80] 27)).alloc (.cells #[.int .i64 3, .int .i64 80] 38)).heap.size = wb2.heap.size + 1 + 1 := by simp
  have hp2 : Below wb2.heap.size wb2 ((wb2.alloc (.cells #[.int .i64 0, .int .i64 0, .int .i64 0, .int .i64 0, .int .i64 0, .int .i64 0, .int .i64 0, .int .i64 0, .int .i64 0, .slice B2 0 d2, .int .i64 2, .int .i64 80] 27)).alloc (.cells #[.int .i64 3, .int .i64 80] 38)) := below2 wb2 _ _
  obtain ⟨W2, eW2⟩ : ∃ W, (wb2.alloc (.cells #[.int .i64 0, .int .i64 0, .int .i64 0, .int .i64 0, .int .i64 0, .int .i64 0, .int .i64 0, .int .i64 0, .int .i64 0, .slice B2 0 d2, .int .i64 2, .int .i64 80] 27)).alloc (.cells #[.int .i64 3, .int .i64 80] 38) = W := ⟨_, rfl⟩
  rw [eW2] at ka2 ke2 hq2 hg2 hp2 ⊢
  obtain ⟨ga2, ega2⟩ : ∃ x, wb2.heap.size = x := ⟨_, rfl⟩
  obtain ⟨ge2, ege2⟩ : ∃ x, ga2 + 1 = x := ⟨_, rfl⟩
  obtain ⟨gl2, egl2⟩ : ∃ x, ge2 + 1 = x := ⟨_, rfl⟩
  have hp2' := hp2
  rw [ega2] at ka2 ke2 hg2 ⊢
  rw [ege2] at ke2 hg2 ⊢
  rw [egl2] at hg2 ⊢
  have hx2 := HZ2.out.trans (hp2'.mono HZ2.out.size)
  have HW2 := Lib.hid (And.intro ka2 (And.intro ke2 (And.intro hq2 (And.intro hg2 (And.intro (HW1.out.1.below hx2 HW1.out.1.lt) (HW1.out.2.1.below hx2 HW1.out.2.1.lt))))))
  clear ka2 ke2 hq2 hg2 hp2 hp2' eW2 ega2 ege2 egl2 HB2 HS2 HA2 HY2 HZ2 hx2
  have hz30 := HW2.out.2.2.1.alloc HW2.out.2.2.1.size (.cells (ivs [⟨17, 7, 0, 0⟩, ⟨0, 0, 0, 0⟩]).toArray 61)
  have hi3 := insOf W2 [⟨17, 7, 0, 0⟩, ⟨0, 0, 0, 0⟩] okS3 _ HW2.out.2.2.2.1
  refine (pvNew 0 r64_0 _).mono ?_
  rintro e wa3 ⟨A3, c3, rfl, hr3, hb3⟩
  have hm3 := machAt_row hr3 (newM_ok 0)
  have hz31 := hz30.trans (hb3.mono hz30.size)
  have hy30 := (below_alloc W2 (.cells (ivs [⟨17, 7, 0, 0⟩, ⟨0, 0, 0, 0⟩]).toArray 61))
  have HY3 := Lib.hid (hy30.trans (hb3.mono hy30.size))
  clear hy30
  have HA3 := Lib.hid (And.intro (hi3.below hb3) (And.intro hm3 hz31))
  clear hz30 hi3 hr3 hb3 hm3 hz31
  rw [mv_n0, n0_len]
  go_wp2_with fail
  have hs3 := pvRun (some ⟨_, 0, none⟩) [⟨17, 7, 0, 0⟩, ⟨0, 0, 0, 0⟩] 2 2 rfl (by decide) wa3 HA3.out.1 (hG.below HA3.out.2.2) (newM 0) A3 0 c3 HA3.out.2.1 (by decide) 9 ⟨by decide, by decide⟩
  rw [show ((9 : Int)).toNat = 9 from rfl, st_k3] at hs3
  have HS3 := Lib.hid hs3
  clear hs3
  refine HS3.out.mono ?_
  rintro e wb3 ⟨B3, d3, rfl, _, _, hb3⟩
  have HB3 := Lib.hid (HA3.out.2.2.trans (hb3.mono HA3.out.2.2.size))
  have HZ3 := Lib.hid (HY3.out.trans (hb3.mono HY3.out.size))
  clear hb3
  dsimp only
  rw [mv_k3, k3_len, ev_is]
  go_wp2_with (first | (with_reducible refine st_load 2 ?_; refine stopped ?_) | fail)
  have ka3 := (Blk.new wb3 27 #[.int .i64 1, .int .i64 0, .int .i64 0, .int .i64 0, .int .i64 0, .int .i64 0, .int .i64 0, .int .i64 0, .int .i64 0, .slice B3 0 d3, .int .i64 0, .int .i64 0]).alloc (.cells #[.int .i64 1, .int .i64 7] 38)
  have ke3 := blk2 wb3 (.cells #[.int .i64 1, .int .i64 0, .int .i64 0, .int .i64 0, .int .i64 0, .int .i64 0, .int .i64 0, .int .i64 0, .int .i64 0, .slice B3 0 d3, .int .i64 0, .int .i64 0] 27) 38 #[.int .i64 1, .int .i64 7]
  have hq3 := HB3.out.trans ((below2 wb3 (.cells #[.int .i64 1, .int .i64 0, .int .i64 0, .int .i64 0, .int .i64 0, .int .i64 0, .int .i64 0, .int .i64 0, .int .i64 0, .slice B3 0 d3, .int .i64 0, .int .i64 0] 27) (.cells #[.int .i64 1, .int .i64 7] 38)).mono HB3.out.size)
  have hg3 : ((wb3.alloc (.cells #[.int .i64 1, .int .i64 0, .int .i64 0, .int .i64 0, .int .i64 0, .int .i64 0, .int .i64 0, .int .i64 0, .int .i64 0, .slice B3 0 d3, .int .i64 0, .int .i64 0] 27)).alloc (.cells #[.int .i64 1, .int .i64 7] 38)).heap.size = wb3.heap.size + 1 + 1 := by simp
  have hp3 : Below wb3.heap.size wb3 ((wb3.alloc (.cells #[.int .i64 1, .int .i64 0, .int .i64 0, .int .i64 0, .int .i64 0, .int .i64 0, .int .i64 0, .int .i64 0, .int .i64 0, .slice B3 0 d3, .int .i64 0, .int .i64 0] 27)).alloc (.cells #[.int .i64 1, .int .i64 7] 38)) := below2 wb3 _ _
  obtain ⟨W3, eW3⟩ : ∃ W, (wb3.alloc (.cells #[.int .i64 1, .int .i64 0, .int .i64 0, .int .i64 0, .int .i64 0, .int .i64 0, .int .i64 0, .int .i64 0, .int .i64 0, .slice B3 0 d3, .int .i64 0, .int .i64 0] 27)).alloc (.cells #[.int .i64 1, .int .i64 7] 38) = W := ⟨_, rfl⟩
  rw [eW3] at ka3 ke3 hq3 hg3 hp3 ⊢
  obtain ⟨ga3, ega3⟩ : ∃ x, wb3.heap.size = x := ⟨_, rfl⟩
  obtain ⟨ge3, ege3⟩ : ∃ x, ga3 + 1 = x := ⟨_, rfl⟩
  obtain ⟨gl3, egl3⟩ : ∃ x, ge3 + 1 = x := ⟨_, rfl⟩
  have hp3' := hp3
  rw [ega3] at ka3 ke3 hg3 ⊢
  rw [ege3] at ke3 hg3 ⊢
  rw [egl3] at hg3 
  have hx3 := HZ3.out.trans (hp3'.mono HZ3.out.size)
  have la1 := HW2.out.2.2.2.2.1.below hx3 HW2.out.2.2.2.2.1.lt
  have le1 := HW2.out.2.2.2.2.2.below hx3 HW2.out.2.2.2.2.2.lt
  have la2 := HW2.out.1.below hx3 HW2.out.1.lt
  have le2 := HW2.out.2.1.below hx3 HW2.out.2.1.lt
  have m0 : W3.cell? ⟨ga1, 0, none⟩ = some (.int .i64 1) := by rw [(la1).cell]; rfl
  have m1 : W3.cell? ⟨ga1, 1, none⟩ = some (.int .i64 5) := by rw [(la1).cell]; rfl
  have m2 : W3.cell? ⟨ge1, 0, none⟩ = some (.int .i64 0) := by rw [(le1).cell]; rfl
  have m3 : W3.cell? ⟨ge1, 1, none⟩ = some (.int .i64 0) := by rw [(le1).cell]; rfl
  have m4 : W3.cell? ⟨ga2, 10, none⟩ = some (.int .i64 2) := by rw [(la2).cell]; rfl
  have m5 : W3.cell? ⟨ga2, 11, none⟩ = some (.int .i64 80) := by rw [(la2).cell]; rfl
  have m6 : W3.cell? ⟨ge2, 0, none⟩ = some (.int .i64 3) := by rw [(le2).cell]; rfl
  have m7 : W3.cell? ⟨ge2, 1, none⟩ = some (.int .i64 80) := by rw [(le2).cell]; rfl
  have m8 : W3.cell? ⟨ga3, 0, none⟩ = some (.int .i64 1) := by rw [(ka3).cell]; rfl
  have m9 : W3.cell? ⟨ge3, 0, none⟩ = some (.int .i64 1) := by rw [(ke3).cell]; rfl
  have m10 : W3.cell? ⟨ge3, 1, none⟩ = some (.int .i64 7) := by rw [(ke3).cell]; rfl
  have HF := Lib.hid hq3
  clear la1 le1 la2 le2 ka3 ke3 hq3 hg3 hp3 hp3' hx3 eW3 ega3 ege3 egl3
  refine go_on ?_
  go_wp2_with fail
  go_ret
  exact ⟨rfl, HF.out⟩
end Go.Proofs.YthgiehlfmdobkaaDoor
