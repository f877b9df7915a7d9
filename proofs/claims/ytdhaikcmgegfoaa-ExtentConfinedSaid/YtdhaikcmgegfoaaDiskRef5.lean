/-
  The disk's reference: Write, by its contract. Conditions: the theorem's own premises.
-/
import Derived.Test.YtdhaikcmgegfoaaDiskRef4
namespace Go.Proofs.Ytdhaikcmgegfoaa
open Go.RowKit

theorem rwrite_info : (Try.prog.info? 90).map (fun i => (i.zero, i.size, i.bytes)) = some (some (.agg #[.int .i64 0, .string ⟨#[]⟩]), 2, 24) := by kernel_rfl
def Dk.write (d : Dk) (k : Int) (b : List UInt8) : Dk × Nat :=
  if k < 0 ∨ (d.has.length : Int) ≤ k then (d, 4) else if b.length ≠ 64 then (d, 1) else if d.step.2 = true then ({ d.step.1 with waits := d.step.1.waits ++ [(k.toNat, b)] }, 0) else (d.step.1, 9)
theorem step_has (d : Dk) : d.step.1.has.length = d.has.length := by
  unfold Dk.step
  split
  · rfl
  · split
    · unfold Dk.crash
      split
      · rfl
      · simp [Dk.laid, lay_length]
    · split <;> rfl
theorem wvs_one_write (p : Nat) (b : List UInt8) (st : ByteArray) (h : sv b = .string st) : wvs [(p, b)] = [.int .i64 (p : Int), .string st] := by simp [wvs, h]
theorem one_write (p : Nat) (st : ByteArray) : ∀ u ∈ [Value.int .i64 (p : Int), Value.string st], u.oneCell' = true := by
  intro u hu
  simp only [List.mem_cons, List.not_mem_nil, or_false] at hu
  rcases hu with rfl | rfl <;> rfl

set_option maxRecDepth 100000 in
set_option maxHeartbeats 1000000 in
set_option linter.unusedSimpArgs false in
theorem refWrite_any (w : World) (cs : List Value) (d : Dk) (h : RefIs w w.heap.size cs d) (hw : d.waits.length ≤ 1000000) (k : Int) (b : List UInt8) :
    Calls Try.prog 20 #[.agg cs.toArray, .int .i64 k, sv b] w (RefPost w cs d (d.write k b).1 (fun v => .tuple #[v, .int .i64 ((d.write k b).2 : Nat)])) := by
  obtain ⟨st, hst⟩ : ∃ st, sv b = .string st := ⟨_, rfl⟩
  have hsz : st.size = b.length := by
    have : st = ⟨b.toArray⟩ := by unfold sv at hst; injection hst with hst; exact hst.symm
    rw [this]
    rfl
  rw [hst]
  obtain ⟨i0, hi0, hz0, hz1, hz2⟩ := info_parts rwrite_info
  obtain ⟨hok, A0, W, S0, ca0, cw, cs0, ecs, hA0, hW, hS0⟩ := h
  subst ecs
  obtain ⟨X, hX⟩ : ∃ X, (refCells A0 W S0 ca0 cw cs0 d).toArray = X := ⟨_, rfl⟩
  rw [hX]
  have HX := Lib.hid hX
  have HP := Lib.hid (And.intro hA0 (And.intro hW hS0))
  have HO := Lib.hid hok
  clear hX hA0 hW hS0 hok
  go_enter Try.func20, Try.ntmps20
  go_wp2_with (first
    | (refine wpList_box rfl 45 (.tmp 0) rfl X rfl ?_; intro w1 hb1 hw1 hz1; refine stopped ?_)
    | fail)
  refine go_on ?_
  refine wpList_alloc rfl 45 rfl _ rdisk_zero ?_
  intro w2 hb2 hw2 hz2
  simp only [Act.put, List.setIfInBounds_toArray, List.set_cons_zero, List.set_cons_succ]
  rw [← HX.out] at hb1
  obtain ⟨g3, e3⟩ : ∃ g, w.heap.size = g := ⟨_, rfl⟩
  obtain ⟨g6, e6⟩ : ∃ g, w1.heap.size = g := ⟨_, rfl⟩
  rw [e3] at hb1 hz1 hw1
  rw [e6] at hb2 hz2 hw2
  rw [e3, e6]
  have h36 : g6 = g3 + 1 := by omega
  have hbb : Below g3 w w2 := hw1.trans (hw2.mono (by omega))
  have HB := Lib.hid (And.intro (hb1.below hw2 (by omega)) (And.intro hb2 (And.intro hbb (And.intro h36 (And.intro hz2 e3)))))
  have hR2 : RefIs w2 w2.heap.size (refCells A0 W S0 ca0 cw cs0 d) d := (RefIs.below ⟨HO.out, A0, W, S0, ca0, cw, cs0, rfl, HP.out.1, HP.out.2.1, HP.out.2.2⟩ (e3 ▸ hbb)).more (by omega)
  have hF : ∀ g, w.heap.size ≤ g → RefFar (refCells A0 W S0 ca0 cw cs0 d) d g := fun g hg => ref_far ⟨far_below HP.out.1 hg (by rw [svs_length]; exact id), far_below HP.out.2.1 hg (by rw [wvs_length]; omega), far_below HP.out.2.2 hg (by rw [bvs_length]; exact id)⟩
  have hc0 : w2.cell? ⟨g3, 0, none⟩ = some (.slice A0 d.has.length ca0) := by rw [HB.out.1.cell]; rfl
  have hc1 : w2.cell? ⟨g3, 1, none⟩ = some (.slice W d.waits.length cw) := by rw [HB.out.1.cell]; rfl
  have hc2 : w2.cell? ⟨g3, 2, none⟩ = some (.bool d.off) := by rw [HB.out.1.cell]; rfl
  have hc3 : w2.cell? ⟨g3, 3, none⟩ = some (.int .i64 d.left) := by rw [HB.out.1.cell]; rfl
  have hc4 : w2.cell? ⟨g3, 4, none⟩ = some (.slice S0 d.surv.length cs0) := by rw [HB.out.1.cell]; rfl
  have hWk : Wk w w2 g3 g6 (refCells A0 W S0 ca0 cw cs0 d) d (refCells A0 W S0 ca0 cw cs0 d) d := ⟨HB.out.1, hR2, fun g _ h => h, HB.out.2.1, HB.out.2.2.1, by omega, HB.out.2.2.2.1, e3, hF⟩
  have HK := Lib.hid hWk
  clear hb1 hb2 hw1 hw2 hz1 hz2 hbb e3 e6 h36 hR2 hF hWk
  obtain ⟨nh, enh⟩ : ∃ n, d.has.length = n := ⟨_, rfl⟩
  have HN := Lib.hid enh
  rw [enh] at hc0
  by_cases hk0 : k < 0
  · have hwr : d.write k b = (d, 4) := by unfold Dk.write; rw [if_pos (.inl hk0)]
    clear enh
    go_wp2_with (first | (with_reducible refine st_load 45 ?_; refine stopped ?_) | fail)
    refine go_on ?_
    refine wpList_load_at rfl 45 (.tmp 3) rfl g3 0 rfl (refCells A0 W S0 ca0 cw cs0 d).toArray _ (Blk.cells HK.out.blk) Try.underlying45 rfl rdisk_size ?_
    refine wpList_store_whole rfl 45 (.tmp 6) (.tmp 18) rfl g6 (refCells A0 W S0 ca0 cw cs0 d) rfl rfl 45 (refCells none none none 0 0 0 ⟨[], [], false, 0, []⟩) HK.out.zero rdisk_size rfl (refCells_one _ _ _ _ _ _ _) ?_
    intro w10 hbw10 hgw10
    simp only [Act.put, List.setIfInBounds_toArray, List.set_cons_zero, List.set_cons_succ]
    repeat (first | go_values | go_skip | go_guarded | go_step)
    refine bodyPost_rowv rfl g6 rfl (.int .i64 4) rfl 45 _ _ hbw10 Try.underlying45 rfl rdisk_size rfl ?_
    show RefPost w _ d (d.write k b).1 (fun v => .tuple #[v, .int .i64 ((d.write k b).2 : Nat)]) _ _
    rw [hwr]
    exact HK.out.done hgw10 _
  · by_cases hk1 : (nh : Int) ≤ k
    · have hwr : d.write k b = (d, 4) := by unfold Dk.write; rw [if_pos (.inr (by rw [HN.out]; exact hk1))]
      clear enh
      go_wp2_with (first | (with_reducible refine st_load 45 ?_; refine stopped ?_) | fail)
      refine go_on ?_
      refine wpList_load_at rfl 45 (.tmp 3) rfl g3 0 rfl (refCells A0 W S0 ca0 cw cs0 d).toArray _ (Blk.cells HK.out.blk) Try.underlying45 rfl rdisk_size ?_
      refine wpList_store_whole rfl 45 (.tmp 6) (.tmp 18) rfl g6 (refCells A0 W S0 ca0 cw cs0 d) rfl rfl 45 (refCells none none none 0 0 0 ⟨[], [], false, 0, []⟩) HK.out.zero rdisk_size rfl (refCells_one _ _ _ _ _ _ _) ?_
      intro w10 hbw10 hgw10
      simp only [Act.put, List.setIfInBounds_toArray, List.set_cons_zero, List.set_cons_succ]
      repeat (first | go_values | go_skip | go_guarded | go_step)
      refine bodyPost_rowv rfl g6 rfl (.int .i64 4) rfl 45 _ _ hbw10 Try.underlying45 rfl rdisk_size rfl ?_
      show RefPost w _ d (d.write k b).1 (fun v => .tuple #[v, .int .i64 ((d.write k b).2 : Nat)]) _ _
      rw [hwr]
      exact HK.out.done hgw10 _
    · obtain ⟨p, rfl⟩ : ∃ p : Nat, k = (p : Int) := ⟨k.toNat, by omega⟩
      have hp : p < nh := by omega
      by_cases h64 : b.length = 64
      · have hs64 : st.size = 64 := by omega
        have hs64i : (st.size : Int) = 64 := by omega
        have HSZ := Lib.hid h64
        clear hsz enh h64
        go_wp2_with (first | (with_reducible refine st_load 45 ?_; refine stopped ?_) | fail)
        refine go_on ?_
        refine wpList_load_at rfl 45 (.tmp 3) rfl g3 0 rfl (refCells A0 W S0 ca0 cw cs0 d).toArray _ (Blk.cells HK.out.blk) Try.underlying45 rfl rdisk_size ?_
        simp only [Act.put, List.setIfInBounds_toArray, List.set_cons_zero, List.set_cons_succ]
        have hL := refStep_any w2 _ d HK.out.ref (by omega)
        obtain ⟨D, eD⟩ : ∃ D, d.step.1 = D := ⟨_, rfl⟩
        obtain ⟨t, et⟩ : ∃ t, d.step.2 = t := ⟨_, rfl⟩
        have hwr : d.write (p : Int) b = if t = true then ({ D with waits := D.waits ++ [(p, b)] }, 0) else (D, 9) := by
          unfold Dk.write
          rw [if_neg (by rw [HN.out]; omega), if_neg (by rw [HSZ.out]; decide), eD, et]
          rfl
        have hDw : D.waits.length ≤ 1000000 := by have := step_waits d; rw [eD] at this; omega
        have hDh : D.has.length = nh := by rw [← eD, step_has]; exact HN.out
        rw [eD, et] at hL
        have HD := Lib.hid (And.intro hwr (And.intro hDw hDh))
        clear hwr eD et hDw hDh
        go_wp2_with (first
          | (go_at_call 43; refine hL.mono ?_; rintro e w5 ⟨cs5, rfl, hR5, hfar5, hb5⟩; obtain ⟨ok5, A5, W5, S5, ca5, cw5, cs5, rfl, hA5, hW5, hS5⟩ := hR5)
          | (with_reducible refine st_store 45 ?_; refine stopped ?_)
          | fail)
        refine go_on ?_
        have hR5 : RefIs w5 w5.heap.size (refCells A5 W5 S5 ca5 cw5 cs5 D) D := ⟨ok5, A5, W5, S5, ca5, cw5, cs5, rfl, hA5, hW5, hS5⟩
        have hblk5 := HK.out.blk.below hb5 (by have := HK.out.siz; have := HK.out.next; omega)
        refine wpList_store_whole rfl 45 (.tmp 3) (.tmp 26) rfl g3 (refCells A5 W5 S5 ca5 cw5 cs5 D) rfl rfl 45 (refCells A0 W S0 ca0 cw cs0 d) hblk5 rdisk_size rfl (refCells_one _ _ _ _ _ _ _) ?_
        intro w6 hbw6 hgw6
        simp only [Act.put, List.setIfInBounds_toArray, List.set_cons_zero, List.set_cons_succ]
        have HK2 := Lib.hid (HK.out.call hR5 hfar5 hb5 hgw6 hbw6)
        clear hR5 hfar5 hb5 hgw6 hbw6 hblk5 hA5 hW5 hS5 ok5 hL hc0 hc1 hc2 hc3 hc4
        cases t
        · have hwr : d.write (p : Int) b = (D, 9) := by rw [HD.out.1, if_neg (by decide)]
          go_wp2_with (first | (with_reducible refine st_load 45 ?_; refine stopped ?_) | fail)
          refine go_on ?_
          refine wpList_load_at rfl 45 (.tmp 3) rfl g3 0 rfl (refCells A5 W5 S5 ca5 cw5 cs5 D).toArray _ (Blk.cells HK2.out.blk) Try.underlying45 rfl rdisk_size ?_
          refine wpList_store_whole rfl 45 (.tmp 6) (.tmp 30) rfl g6 (refCells A5 W5 S5 ca5 cw5 cs5 D) rfl rfl 45 (refCells none none none 0 0 0 ⟨[], [], false, 0, []⟩) HK2.out.zero rdisk_size rfl (refCells_one _ _ _ _ _ _ _) ?_
          intro w10 hbw10 hgw10
          simp only [Act.put, List.setIfInBounds_toArray, List.set_cons_zero, List.set_cons_succ]
          repeat (first | go_values | go_skip | go_guarded | go_step)
          refine bodyPost_rowv rfl g6 rfl (.int .i64 9) rfl 45 _ _ hbw10 Try.underlying45 rfl rdisk_size rfl ?_
          show RefPost w _ d (d.write (p : Int) b).1 (fun v => .tuple #[v, .int .i64 ((d.write (p : Int) b).2 : Nat)]) _ _
          rw [hwr]
          exact HK2.out.done hgw10 _
        · have hwr : d.write (p : Int) b = ({ D with waits := D.waits ++ [(p, b)] }, 0) := by rw [HD.out.1, if_pos rfl]
          obtain ⟨nW, enW⟩ : ∃ n, D.waits.length = n := ⟨_, rfl⟩
          have hcW : w6.cell? ⟨g3, 1, none⟩ = some (.slice W5 nW cw5) := by rw [HK2.out.blk.cell, ← enW]; rfl
          have hlt3 : g3 < w6.heap.size := by have := HK2.out.siz; have := HK2.out.next; omega
          have hcWa := fun o => ((below_alloc w6 o).cell (p := ⟨g3, 1, none⟩) hlt3).trans hcW
          obtain ⟨okD, A', W', S', ca', cw', cs', eC, hVA, hVW, hVS⟩ := HK2.out.ref
          simp only [refCells, List.cons.injEq, Value.slice.injEq] at eC
          obtain ⟨⟨rfl, _, rfl⟩, ⟨rfl, _, rfl⟩, _, _, ⟨rfl, _, rfl⟩, _⟩ := eC
          have HV := Lib.hid (And.intro okD (And.intro hVA (And.intro hVW hVS)))
          have HW := Lib.hid (And.intro hwr enW)
          have hnW : nW ≤ 1000000 := enW ▸ HD.out.2.1
          clear okD hVA hVW hVS hwr enW
          go_wp2_with (first
            | (at_builtin
               refine wpList_append_row _ rfl (.tmp 31) (.tmp 33) 42 rfl w6.heap.size 90 i0 _ 2 24 Try.underlying42 hi0 hz0 hz1 hz2 rfl (by decide) _ 0 [] rfl (row_empty w6 w6.heap.size 2 90 (Nat.le_refl _)) w6.heap.size W5 cw5 nW (wvs D.waits) rfl (HV.out.2.2.1.below (below_alloc w6 _)) (by rw [wvs_length, HW.out.2]) (wvs_one _) (by omega) (by simp only [maxLen]; omega) (by simp) ?_
               intro v7 w7 hown7 hg7 hb7
               rw [Nat.zero_add, List.nil_append] at hown7
               obtain ⟨A7, c7, rfl, _, _, _, hlt7⟩ := vs_of_row hown7
               have hbel7 : Below w6.heap.size w6 w7 := (below_alloc w6 _).trans (only_below hg7 (by simp) (fun g' e => by cases e; exact Nat.le_refl _))
               clear hg7 hb7 hlt7)
            | (at_builtin
               refine wpList_append_row _ rfl (.tmp 34) (.tmp 38) 42 rfl w6.heap.size 90 i0 _ 2 24 Try.underlying42 hi0 hz0 hz1 hz2 rfl (by decide) _ nW (wvs D.waits) rfl (row_alloc hown7 _) (w7.heap.size + 1) (some ⟨w7.heap.size, 0, none⟩) 1 1 [.int .i64 (p : Int), .string st] rfl (vs_of_blk (Blk.new w7 90 #[.int .i64 (p : Int), .string st]) (Nat.lt_succ_self _)) rfl (one_write p st) (by omega) (by simp only [maxLen]; omega) (by have := hbel7.size; simp; omega) ?_
               intro v8 w8 hown8 hg8 hb8
               obtain ⟨A8, c8, rfl, _, _, _, hlt8⟩ := vs_of_row hown8
               have hbel8 : Below w6.heap.size w6 w8 := (hbel7.trans ((below_alloc w7 (.cells #[.int .i64 (p : Int), .string st] 90)).mono hbel7.size)).trans (only_below hg8 (by have := hbel7.size; simp; omega) (fun g' e => (World.ownsRow.lt hown7 g' e).1))
               have hblk8 := HK2.out.blk.below hbel8 hlt3
               have hf8 := hblk8.frozen 1
               have hc8 := (hbel8.cell (p := ⟨g3, 1, none⟩) hlt3).trans hcW
               have HO8 := Lib.hid (And.intro hown8 (And.intro hbel8 hblk8))
               clear hown7 hown8 hg8 hb8 hlt8 hbel7 hblk8 hbel8)
            | (with_reducible refine st_load 45 ?_; refine stopped ?_)
            | fail)
          refine go_on ?_
          obtain ⟨D', eD'⟩ : ∃ D', ({ D with waits := D.waits ++ [(p, b)] } : Dk) = D' := ⟨_, rfl⟩
          have hD' : D'.has = D.has ∧ D'.waits = D.waits ++ [(p, b)] ∧ D'.surv = D.surv ∧ D'.off = D.off ∧ D'.left = D.left := by rw [← eD']; exact ⟨rfl, rfl, rfl, rfl, rfl⟩
          have hwl : D'.waits.length = nW + 1 := by rw [hD'.2.1, List.length_append, HW.out.2]; rfl
          have hset := HO8.out.2.2.set_ 1 (.slice A8 (nW + 1) c8)
          have hblk9 : Blk (w8.setCell ⟨g3, 1, none⟩ (.slice A8 (nW + 1) c8)) g3 45 (refCells A5 A8 S5 ca5 c8 cs5 D').toArray := by
            have e : (refCells A5 A8 S5 ca5 c8 cs5 D').toArray = (refCells A5 W5 S5 ca5 cw5 cs5 D).toArray.setIfInBounds 1 (.slice A8 (nW + 1) c8) := by
              simp [refCells, hD', hwl, HW.out.2]
            rw [e]
            exact hset
          obtain ⟨A9, c9, hv9, _, _, hvs9, _⟩ := vs_of_row HO8.out.1
          injection hv9 with hA9 _ hc9
          subst hA9 hc9
          have hok' : D'.ok := by
            refine ⟨by rw [hD'.1]; exact HV.out.1.small, by rw [hD'.1]; exact HV.out.1.len, ?_, by rw [hD'.2.2.2.2]; exact HV.out.1.leftB⟩
            intro q hq
            rw [hD'.2.1] at hq
            rw [hD'.1]
            rcases List.mem_append.1 hq with hq | hq
            · exact HV.out.1.at_ q hq
            · simp only [List.mem_singleton] at hq
              subst hq
              exact ⟨by rw [HD.out.2.2]; exact hp, HSZ.out⟩
          have hge := HO8.out.2.1.size
          have hR8 : RefIs w8 w8.heap.size (refCells A5 A8 S5 ca5 c8 cs5 D') D' := by
            refine ⟨hok', A5, A8, S5, ca5, c8, cs5, rfl, ?_, ?_, ?_⟩
            · rw [hD'.1]; exact (HV.out.2.1.below HO8.out.2.1).more hge
            · rw [hD'.2.1, wvs_append, wvs_one_write p b st hst]; exact hvs9
            · rw [hD'.2.2.1]; exact (HV.out.2.2.2.below HO8.out.2.1).more hge
          have HK3 := Lib.hid (HK2.out.call hR8 (fun g hg hf => by
            have h0 := hf _ _ _ _ _ _ rfl
            refine ref_far ⟨?_, far_row HO8.out.1 hg, ?_⟩
            · rw [hD'.1]; exact h0.1
            · rw [hD'.2.2.1]; exact h0.2.2) HO8.out.2.1 (one_set w8 g3 1 (.slice A8 (nW + 1) c8)) hblk9)
          have hwr : d.write (p : Int) b = (D', 0) := by rw [HW.out.1, eD']
          clear hset hblk9 hvs9 hR8 hD' hwl
          refine wpList_load_at rfl 45 (.tmp 3) rfl g3 0 rfl (refCells A5 A8 S5 ca5 c8 cs5 D').toArray _ (Blk.cells HK3.out.blk) Try.underlying45 rfl rdisk_size ?_
          refine wpList_store_whole rfl 45 (.tmp 6) (.tmp 41) rfl g6 (refCells A5 A8 S5 ca5 c8 cs5 D') rfl rfl 45 (refCells none none none 0 0 0 ⟨[], [], false, 0, []⟩) HK3.out.zero rdisk_size rfl (refCells_one _ _ _ _ _ _ _) ?_
          intro w10 hbw10 hgw10
          simp only [Act.put, List.setIfInBounds_toArray, List.set_cons_zero, List.set_cons_succ]
          repeat (first | go_values | go_skip | go_guarded | go_step)
          refine bodyPost_rowv rfl g6 rfl (.int .i64 0) rfl 45 _ _ hbw10 Try.underlying45 rfl rdisk_size rfl ?_
          show RefPost w _ d (d.write (p : Int) b).1 (fun v => .tuple #[v, .int .i64 ((d.write (p : Int) b).2 : Nat)]) _ _
          rw [hwr]
          exact HK3.out.done hgw10 _
      · have hs64 : ¬ (st.size : Int) = 64 := by omega
        have hwr : d.write (p : Int) b = (d, 1) := by unfold Dk.write; rw [if_neg (by rw [HN.out]; omega), if_pos h64]
        clear enh
        go_wp2_with (first | (with_reducible refine st_load 45 ?_; refine stopped ?_) | fail)
        refine go_on ?_
        refine wpList_load_at rfl 45 (.tmp 3) rfl g3 0 rfl (refCells A0 W S0 ca0 cw cs0 d).toArray _ (Blk.cells HK.out.blk) Try.underlying45 rfl rdisk_size ?_
        refine wpList_store_whole rfl 45 (.tmp 6) (.tmp 22) rfl g6 (refCells A0 W S0 ca0 cw cs0 d) rfl rfl 45 (refCells none none none 0 0 0 ⟨[], [], false, 0, []⟩) HK.out.zero rdisk_size rfl (refCells_one _ _ _ _ _ _ _) ?_
        intro w10 hbw10 hgw10
        simp only [Act.put, List.setIfInBounds_toArray, List.set_cons_zero, List.set_cons_succ]
        repeat (first | go_values | go_skip | go_guarded | go_step)
        refine bodyPost_rowv rfl g6 rfl (.int .i64 1) rfl 45 _ _ hbw10 Try.underlying45 rfl rdisk_size rfl ?_
        show RefPost w _ d (d.write (p : Int) b).1 (fun v => .tuple #[v, .int .i64 ((d.write (p : Int) b).2 : Nat)]) _ _
        rw [hwr]
        exact HK.out.done hgw10 _
end Go.Proofs.Ytdhaikcmgegfoaa
