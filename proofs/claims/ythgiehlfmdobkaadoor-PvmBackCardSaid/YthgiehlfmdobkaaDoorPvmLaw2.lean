/-
  The law PvmChecked. Conditions: the theorem's own premises.
-/
import Derived.Test.YthgiehlfmdobkaaDoorPvmAwake
import Derived.Test.YthgiehlfmdobkaaDoorPvmKit
import Derived.Test.YthgiehlfmdobkaaDoorCodeFnC
namespace Go.Proofs.YthgiehlfmdobkaaDoor
open Go.RowKit

set_option maxRecDepth 100000 in
set_option maxHeartbeats 4000000 in
set_option linter.unusedSimpArgs false in
theorem pvmChecked_calls (A : Option Addr) (l : List Ins) (n cp : Nat) (words k : Int) (hl : l.length = n) (hn : n ≤ 9223372036854775807) (w : World) (hA : InsAt w A l) (h1 : R64 words) (h2 : R64 k) (hG : HasErr w) :
    Calls Tryd.prog 5 #[.slice A n cp, .int .i64 words, .int .i64 k] w fun e w' => e = .returned (.bool true) ∧ Below w.heap.size w w' := by
  obtain ⟨f1, f2, ef⟩ : ∃ f1 f2, checkL l = (f1, f2) := ⟨_, _, rfl⟩
  have hck := coCheck A l n cp hl hn w hA
  rw [ef] at hck
  have H := Lib.hid (And.intro hl (And.intro hA (And.intro h1 (And.intro h2 (And.intro ef hck)))))
  clear hl hA h1 h2 ef hck
  go_enter Tryd.func5, Tryd.ntmps5
  by_cases hf : f1 = 0
  · subst hf
    have hpr : (checkL l).1 = 0 := by rw [H.out.2.2.2.2.1]
    have hpf := prog_facts hpr
    have hn1 : 1 ≤ n := by have := hpf.1; rwa [H.out.1] at this
    have hn128 : n ≤ 128 := by have := hpf.2.1; rwa [H.out.1] at this
    have HP := Lib.hid hpr
    clear hpr hpf
    go_wp2_with (first
      | (go_at_call 15; refine H.out.2.2.2.2.2.mono ?_; rintro e w1 ⟨v1, rfl, hc1, hb1⟩; obtain rfl : v1 = .nilIface := hc1)
      | fail)
    refine (pvNew words H.out.2.2.1 w1).mono ?_
    rintro e w2 ⟨A2, c2, rfl, hr2, hb2⟩
    have hb2' := hb1.trans (hb2.mono hb1.size)
    have kv := Blk.new w2 27 (mcells (newM words) A2 (newM words).mem.length c2).toArray
    have hv : Var (w2.alloc (.cells (mcells (newM words) A2 (newM words).mem.length c2).toArray 27)) w2.heap.size (newM words) :=
      ⟨A2, c2, _, kv, row_alloc hr2 _, fun e => Nat.lt_irrefl _ (World.ownsRow.lt hr2 _ e).2⟩
    have hb3 := hb2'.alloc hb2'.size (.cells (mcells (newM words) A2 (newM words).mem.length c2).toArray 27)
    have HV := Lib.hid (And.intro hv (And.intro hb3 hb2'.size))
    clear hr2 hb1 hb2 hb2' kv hv hb3
    unfold mv
    go_wp2_with fail
    obtain ⟨w3, ew3⟩ : ∃ W, w2.alloc (.cells (mcells (newM words) A2 (newM words).mem.length c2).toArray 27) = W := ⟨_, rfl⟩
    rw [ew3] at HV
    have ew3' : w2.alloc (.cells #[.int .i64 (newM words).p, .int .i64 ((newM words).r 0), .int .i64 ((newM words).r 1), .int .i64 ((newM words).r 2), .int .i64 ((newM words).r 3), .int .i64 ((newM words).r 4), .int .i64 ((newM words).r 5), .int .i64 ((newM words).r 6), .int .i64 ((newM words).r 7), .slice A2 (newM words).mem.length c2, .int .i64 (newM words).s, .int .i64 (newM words).t] 27) = w3 := ew3
    rw [ew3']
    obtain ⟨gm, egm⟩ : ∃ x, w2.heap.size = x := ⟨_, rfl⟩
    rw [egm] at HV ⊢
    clear ew3 ew3' egm
    go_loopw [8] (fun u wz => ∃ (i : Nat) (M : Mach), i ≤ 200 ∧ u = .int .i64 (i : Int) ∧ Var wz gm M ∧ On l.length M ∧ MOk M ∧ M.mem.length ≤ 64 ∧ Below w.heap.size w wz) (fun u _ => 200 - (intOf u).toNat)
    case atStart => exact ⟨0, newM words, by omega, rfl, HV.out.1, on_new (by rw [H.out.1]; omega) words, newM_ok words, new_len words, HV.out.2.1⟩
    case round =>
      obtain ⟨i, M, hi200, rfl, hv, hon, hok, hml, hbel⟩ := hrel
      by_cases hlt : (i : Int) < k
      · by_cases hlt2 : i < 200
        · have hlt2i : (i : Int) < 200 := by omega
          obtain ⟨A1, c1, base, kb, hrow, hne⟩ := hv.at_
          have hst := pvStep A l n cp H.out.1 (by omega) wr (H.out.2.1.below hbel) (hG.below hbel) M A1 M.mem.length c1 (machAt_row hrow hok) (by omega)
          have hso := stepM_on HP.out hon
          have hse := stepM_stepped l M
          have hsk := stepM_ok (l := l) H.out.2.1.ok (by rw [H.out.1]; omega) hok
          obtain ⟨X, kd, nm, es⟩ : ∃ X kd nm, stepM l M = (X, kd, nm) := ⟨_, _, _, rfl⟩
          rw [es] at hst hso hse hsk
          have hxl : X.mem.length ≤ 64 := by rw [hse.len]; exact hml
          have hxp0 : ¬ X.p < 0 := by have h := hso.1.p0; dsimp only at h; omega
          have hxpn : ¬ X.p ≥ (n : Int) := by have h := hso.1.pn; rw [H.out.1] at h; dsimp only at h; omega
          have htr : kd = 3 → nm = 80 ∨ nm = 81 := hso.2
          have HE := Lib.hid (And.intro kb (And.intro hbel (And.intro hst (And.intro hso.1 (And.intro hsk hxl)))))
          clear kb hbel hst hso hsk hxl hrow hne hv hon hok hml hse es
          go_wp2_with (first | (with_reducible refine st_load 27 ?_; refine stopped ?_) | fail)
          refine go_on ?_
          refine wpList_load_at rfl 27 (.tmp 7) rfl gm 0 rfl (mcells M A1 M.mem.length c1).toArray _ (Blk.cells HE.out.1) Tryd.underlying27 rfl mach_size ?_
          simp only [Act.put, List.setIfInBounds_toArray, List.set_cons_zero, List.set_cons_succ]
          go_wp2_with fail
          refine HE.out.2.2.1.mono ?_
          rintro e w4 ⟨A4, c4, rfl, _, hr4, hb4⟩
          dsimp only at hr4 hb4 ⊢
          have k9 := (Blk.new w4 27 (mcells X A4 X.mem.length c4).toArray).alloc (.cells #[.int .i64 kd, .int .i64 nm] 38)
          have kE := blk2 w4 (.cells (mcells X A4 X.mem.length c4).toArray 27) 38 #[.int .i64 kd, .int .i64 nm]
          have kg := ((HE.out.1.below hb4 HE.out.1.lt).alloc (.cells (mcells X A4 X.mem.length c4).toArray 27)).alloc (.cells #[.int .i64 kd, .int .i64 nm] 38)
          have hrw := row_alloc (row_alloc hr4 (.cells (mcells X A4 X.mem.length c4).toArray 27)) (.cells #[.int .i64 kd, .int .i64 nm] 38)
          have hne4 : (Value.slice A4 X.mem.length c4).ownBlock ≠ some gm := fun e => by have h1 := (World.ownsRow.lt hr4 _ e).1; have h2 := HE.out.1.lt; omega
          have hb5 : Below w.heap.size w ((w4.alloc (.cells (mcells X A4 X.mem.length c4).toArray 27)).alloc (.cells #[.int .i64 kd, .int .i64 nm] 38)) := by
            have h := HE.out.2.1.trans (hb4.mono HE.out.2.1.size)
            exact (h.alloc h.size _).alloc (by rw [size_alloc1]; exact Nat.le_succ_of_le h.size) _
          obtain ⟨w5, ew5⟩ : ∃ W, (w4.alloc (.cells (mcells X A4 X.mem.length c4).toArray 27)).alloc (.cells #[.int .i64 kd, .int .i64 nm] 38) = W := ⟨_, rfl⟩
          rw [ew5] at k9 kE kg hrw hb5
          have ew5' : (w4.alloc (.cells #[.int .i64 X.p, .int .i64 (X.r 0), .int .i64 (X.r 1), .int .i64 (X.r 2), .int .i64 (X.r 3), .int .i64 (X.r 4), .int .i64 (X.r 5), .int .i64 (X.r 6), .int .i64 (X.r 7), .slice A4 X.mem.length c4, .int .i64 X.s, .int .i64 X.t] 27)).alloc (.cells #[.int .i64 kd, .int .i64 nm] 38) = w5 := ew5
          unfold mv ev
          go_wp2_with (first | (with_reducible refine st_load 3 ?_; refine stopped ?_) | fail)
          try rw [ew5']
          obtain ⟨g4, eg4⟩ : ∃ x, w4.heap.size = x := ⟨_, rfl⟩
          obtain ⟨g5, eg5⟩ : ∃ x, g4 + 1 = x := ⟨_, rfl⟩
          rw [eg4] at k9 kE ⊢
          rw [eg5] at kE ⊢
          have m0 : w5.cell? ⟨g4, 0, none⟩ = some (.int .i64 X.p) := by rw [k9.cell]; rfl
          have m1 : w5.cell? ⟨g5, 0, none⟩ = some (.int .i64 kd) := by rw [kE.cell]; rfl
          have m2 : w5.cell? ⟨g5, 1, none⟩ = some (.int .i64 nm) := by rw [kE.cell]; rfl
          have HF := Lib.hid (And.intro k9 (And.intro kg (And.intro hrw (And.intro hne4 hb5))))
          clear k9 kE kg hrw hne4 hb5 ew5 ew5' hr4 hb4 eg4 eg5
          refine go_on ?_
          by_cases hkd : kd = 3
          · have hkd1 : (kd == 3) = true := by rw [hkd]; rfl
            rcases htr hkd with h80 | h81
            · have hn1 : (nm == 80) = true := by rw [h80]; rfl
              have hn2 : (nm == 81) = false := by rw [h80]; rfl
              go_wp2_with (first | (with_reducible refine st_load 27 ?_; refine stopped ?_) | fail)
              refine go_on ?_
              refine wpList_load_at rfl 27 (.tmp 9) rfl g4 0 rfl (mcells X A4 X.mem.length c4).toArray _ (Blk.cells HF.out.1) Tryd.underlying27 rfl mach_size ?_
              refine wpList_store_whole rfl 27 (.tmp 7) (.tmp 57) rfl gm (mcells X A4 X.mem.length c4) rfl rfl 27 (mcells M A1 M.mem.length c1) HF.out.2.1 mach_size rfl (mcells_one _ _ _ _) ?_
              intro w6 hb6 hg6
              simp only [Act.put, List.setIfInBounds_toArray, List.set_cons_zero, List.set_cons_succ]
              refine wpList_nil ?_
              have hv6 : Var w6 gm X := ⟨A4, c4, _, hb6, row_not HF.out.2.2.1 hg6 HF.out.2.2.2.1, HF.out.2.2.2.1⟩
              have hbel6 : Below w.heap.size w w6 := HF.out.2.2.2.2.grown hg6 HF.out.2.2.2.2.size (fun g e => by cases e; exact HV.out.2.2)
              have HZ := Lib.hid (And.intro hv6 hbel6)
              clear hb6 hg6 hv6 hbel6
              go_wp2_with fail
              go_roundw
              case rel => exact ⟨i + 1, X, by omega, by go_num, HZ.out.1, HE.out.2.2.2.1, HE.out.2.2.2.2.1, HE.out.2.2.2.2.2, HZ.out.2⟩
              case measure => simp only [intOf]; omega
            · have hn1 : (nm == 80) = false := by rw [h81]; rfl
              have hn2 : (nm == 81) = true := by rw [h81]; rfl
              go_wp2_with (first | (with_reducible refine st_load 27 ?_; refine stopped ?_) | fail)
              refine go_on ?_
              refine wpList_load_at rfl 27 (.tmp 9) rfl g4 0 rfl (mcells X A4 X.mem.length c4).toArray _ (Blk.cells HF.out.1) Tryd.underlying27 rfl mach_size ?_
              refine wpList_store_whole rfl 27 (.tmp 7) (.tmp 57) rfl gm (mcells X A4 X.mem.length c4) rfl rfl 27 (mcells M A1 M.mem.length c1) HF.out.2.1 mach_size rfl (mcells_one _ _ _ _) ?_
              intro w6 hb6 hg6
              simp only [Act.put, List.setIfInBounds_toArray, List.set_cons_zero, List.set_cons_succ]
              refine wpList_nil ?_
              have hv6 : Var w6 gm X := ⟨A4, c4, _, hb6, row_not HF.out.2.2.1 hg6 HF.out.2.2.2.1, HF.out.2.2.2.1⟩
              have hbel6 : Below w.heap.size w w6 := HF.out.2.2.2.2.grown hg6 HF.out.2.2.2.2.size (fun g e => by cases e; exact HV.out.2.2)
              have HZ := Lib.hid (And.intro hv6 hbel6)
              clear hb6 hg6 hv6 hbel6
              go_wp2_with fail
              go_roundw
              case rel => exact ⟨i + 1, X, by omega, by go_num, HZ.out.1, HE.out.2.2.2.1, HE.out.2.2.2.2.1, HE.out.2.2.2.2.2, HZ.out.2⟩
              case measure => simp only [intOf]; omega
          · have hkd1 : (kd == 3) = false := by rw [beq_eq_false_iff_ne]; exact hkd
            go_wp2_with (first | (with_reducible refine st_load 27 ?_; refine stopped ?_) | fail)
            refine go_on ?_
            refine wpList_load_at rfl 27 (.tmp 9) rfl g4 0 rfl (mcells X A4 X.mem.length c4).toArray _ (Blk.cells HF.out.1) Tryd.underlying27 rfl mach_size ?_
            refine wpList_store_whole rfl 27 (.tmp 7) (.tmp 57) rfl gm (mcells X A4 X.mem.length c4) rfl rfl 27 (mcells M A1 M.mem.length c1) HF.out.2.1 mach_size rfl (mcells_one _ _ _ _) ?_
            intro w6 hb6 hg6
            simp only [Act.put, List.setIfInBounds_toArray, List.set_cons_zero, List.set_cons_succ]
            refine wpList_nil ?_
            have hv6 : Var w6 gm X := ⟨A4, c4, _, hb6, row_not HF.out.2.2.1 hg6 HF.out.2.2.2.1, HF.out.2.2.2.1⟩
            have hbel6 : Below w.heap.size w w6 := HF.out.2.2.2.2.grown hg6 HF.out.2.2.2.2.size (fun g e => by cases e; exact HV.out.2.2)
            have HZ := Lib.hid (And.intro hv6 hbel6)
            clear hb6 hg6 hv6 hbel6
            go_wp2_with fail
            go_roundw
            case rel => exact ⟨i + 1, X, by omega, by go_num, HZ.out.1, HE.out.2.2.2.1, HE.out.2.2.2.2.1, HE.out.2.2.2.2.2, HZ.out.2⟩
            case measure => simp only [intOf]; omega
        · have hlt2i : ¬ (i : Int) < 200 := by omega
          go_wp2_with fail
          refine (pvmAwake wr (hG.below hbel)).mono ?_
          rintro e w4 ⟨rfl, hb4⟩
          go_wp2_with fail
          go_ret
          exact ⟨rfl, hbel.trans (hb4.mono hbel.size)⟩
      · skip
        go_wp2_with fail
        refine (pvmAwake wr (hG.below hbel)).mono ?_
        rintro e w4 ⟨rfl, hb4⟩
        go_wp2_with fail
        go_ret
        exact ⟨rfl, hbel.trans (hb4.mono hbel.size)⟩
  · have hfc : faultC (f1, f2) = [((f1 : Int), (f2 : Int))] := by unfold faultC; rw [if_neg hf]
    go_wp2_with (first
      | (go_at_call 15; refine H.out.2.2.2.2.2.mono ?_; rintro e w1 ⟨v1, rfl, hc1, hb1⟩; rw [hfc] at hc1; obtain ⟨g1, u1, rfl, _, _⟩ := hc1)
      | fail)
    refine (pvmAwake w1 (hG.below hb1)).mono ?_
    rintro e w4 ⟨rfl, hb4⟩
    go_wp2_with fail
    go_ret
    exact ⟨rfl, hb1.trans (hb4.mono hb1.size)⟩
end Go.Proofs.YthgiehlfmdobkaaDoor
