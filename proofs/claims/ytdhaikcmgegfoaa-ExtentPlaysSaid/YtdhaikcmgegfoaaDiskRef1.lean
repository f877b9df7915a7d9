/-
  The disk's reference: New, by its contract. Conditions: the theorem's own premises.
-/
import Derived.Test.YtdhaikcmgegfoaaDiskRef0
namespace Go.Proofs.Ytdhaikcmgegfoaa
open Go.RowKit

/-- a new disk -/
def Dk.new (n : Nat) : Dk := ⟨List.replicate n nought, [], false, -1, []⟩
theorem Dk.new_ok (n : Nat) (h : n ≤ 256) : (Dk.new n).ok :=
  ⟨by simpa [Dk.new] using h, by intro s hs; simp only [Dk.new] at hs; rw [List.eq_of_mem_replicate hs]; exact nought_length, by simp [Dk.new], by simp [Dk.new]⟩
theorem rdisk_info : (Try.prog.info? 45).map (fun i => (i.zero, i.size)) = some (some (.agg (refCells none none none 0 0 0 ⟨[], [], false, 0, []⟩).toArray), 5) := by kernel_rfl

theorem new_cell {wr w2 w4 : World} {gd k c : Nat} {A : Option Addr} {st : ByteArray} {t tD : TypeId} (hown : wr.ownsRow (gd + 1) t 1 (.slice A k c) k (svs (List.replicate k nought))) (hsz : gd < wr.heap.size) (hB3 : Below wr.heap.size wr w2)
    (hg4 : (w2.alloc (.cells #[.string st] t)).grownBy w4 (Value.slice A k c).ownBlock) (hgd : Blk wr gd tD (refCells A none none c 0 0 (Dk.new k)).toArray) : w4.cell? ⟨gd, 0, none⟩ = some (.slice A k c) := by
  have hfar : ∀ g, (Value.slice A k c).ownBlock = some g → gd + 1 ≤ g := fun g e => (World.ownsRow.lt hown g e).1
  have hsz3 : gd + 1 ≤ (w2.alloc (.cells #[.string st] t)).heap.size := by have := hB3.size; simp; omega
  have hb4 : Below (gd + 1) (w2.alloc (.cells #[.string st] t)) w4 := only_below hg4 hsz3 hfar
  have hba : Below (gd + 1) wr w4 := ((hB3.trans ((below_alloc w2 _).mono hB3.size)).mono hsz).trans hb4
  rw [(hgd.below hba (Nat.lt_succ_self _)).cell]
  simp [refCells, Dk.new]
theorem refCells_one (A W S : Option Addr) (ca cw cs : Nat) (d : Dk) : ∀ v ∈ refCells A W S ca cw cs d, v.oneCell' = true := by
  intro v hv
  simp only [refCells, List.mem_cons, List.not_mem_nil, or_false] at hv
  rcases hv with rfl | rfl | rfl | rfl | rfl <;> rfl
theorem rdisk_size : (Try.prog.info? 45).map (·.size) = some 5 := by kernel_rfl
theorem one_str (st : ByteArray) : ∀ u ∈ [Value.string st], u.oneCell' = true := by
  intro u hu
  simp only [List.mem_singleton] at hu
  subst hu
  rfl
theorem new_appended {w wr w2 w4 : World} {gr gd k c c4 : Nat} {A A4 : Option Addr} {st : ByteArray} {t tD : TypeId} {cz : Array Value} (hown : wr.ownsRow (gd + 1) t 1 (.slice A k c) k (svs (List.replicate k nought))) (hsz : gd < wr.heap.size) (hB3 : Below wr.heap.size wr w2)
    (hown4 : w4.ownsRow (gd + 1) t 1 (.slice A4 (k + 1) c4) (k + 1) (svs (List.replicate k nought) ++ [.string st])) (hg4 : (w2.alloc (.cells #[.string st] t)).grownBy w4 (Value.slice A k c).ownBlock)
    (hgd : Blk wr gd tD (refCells A none none c 0 0 (Dk.new k)).toArray) (hgr : Blk wr gr tD cz) (hbel : Below gr w wr) (hlt : gr < gd) (hst : sv nought = .string st) (_hv4 : (Value.slice A4 (k + 1) c4).ownBlock = (Value.slice A k c).ownBlock ∨ (Value.slice A4 (k + 1) c4).ownBlock = some (w2.alloc (.cells #[.string st] t)).heap.size) :
    (w4.setCell ⟨gd, 0, none⟩ (.slice A4 (k + 1) c4)).ownsRow (gd + 1) t 1 (.slice A4 (k + 1) c4) (k + 1) (svs (List.replicate (k + 1) nought)) ∧ Below gr w (w4.setCell ⟨gd, 0, none⟩ (.slice A4 (k + 1) c4)) ∧ gd < (w4.setCell ⟨gd, 0, none⟩ (.slice A4 (k + 1) c4)).heap.size ∧ Blk (w4.setCell ⟨gd, 0, none⟩ (.slice A4 (k + 1) c4)) gr tD cz ∧
      w4.frozen? ⟨gd, 0, none⟩ = false ∧ Blk (w4.setCell ⟨gd, 0, none⟩ (.slice A4 (k + 1) c4)) gd tD (refCells A4 none none c4 0 0 (Dk.new (k + 1))).toArray := by
  have hfar : ∀ g, (Value.slice A k c).ownBlock = some g → gd + 1 ≤ g := fun g e => (World.ownsRow.lt hown g e).1
  have hsz3 : gd + 1 ≤ (w2.alloc (.cells #[.string st] t)).heap.size := by have := hB3.size; simp; omega
  have hb4 : Below (gd + 1) (w2.alloc (.cells #[.string st] t)) w4 := only_below hg4 hsz3 hfar
  have hb3 := below_alloc w2 (.cells #[.string st] t)
  have hba : Below (gd + 1) wr w4 := ((hB3.trans (hb3.mono hB3.size)).mono hsz).trans hb4
  have hgd4 := hgd.below hba (Nat.lt_succ_self _)
  have hown5 : (w4.setCell ⟨gd, 0, none⟩ (.slice A4 (k + 1) c4)).ownsRow (gd + 1) t 1 (.slice A4 (k + 1) c4) (k + 1) (svs (List.replicate k nought) ++ [.string st]) :=
    World.ownsRow.kept hown4 (only_setCell (only_refl w4 (some gd)) (.inl rfl) _) (by
      cases e : (Value.slice A4 (k + 1) c4).ownBlock with
      | none => exact .inl rfl
      | some g =>
        refine .inr (fun h => ?_)
        have := (World.ownsRow.lt hown4 g e).1
        injection h with h
        omega)
  refine ⟨?_, ?_, ?_, (hgr.below hba (by omega)).far (by simp; omega) _, hgd4.frozen 0, ?_⟩
  · rw [List.replicate_succ', svs_append]
    have : svs [nought] = [.string st] := by simp [svs, hst]
    rw [this]
    exact hown5
  · exact (hbel.trans (hba.mono (by omega))).setCell (by simp; omega) _
  · have := hba.size
    simp
    omega
  · have := hgd4.set_ 0 (.slice A4 (k + 1) c4)
    simpa [refCells, Dk.new] using this

set_option maxRecDepth 100000 in
set_option maxHeartbeats 1000000 in
theorem refNew_yes (n : Nat) (hn : 0 < n) (hn2 : n ≤ 256) (w : World) : Calls Try.prog 14 #[.int .i64 (n : Int)] w fun e w' =>
    ∃ cs : List Value, e = .returned (.tuple #[.agg cs.toArray, .bool true]) ∧ RefIs w' w'.heap.size cs (Dk.new n) ∧ Below w.heap.size w w' ∧ ∃ A c, cs = refCells A none none c 0 0 (Dk.new n) ∧ ∀ b o, A = some ⟨b, o, none⟩ → w.heap.size ≤ b := by
  have a1 : ¬ (n : Int) < 1 := by omega
  have a2 : ¬ (n : Int) > 256 := by omega
  obtain ⟨i0, hi0, hz0, hz1, hz2⟩ := info_parts strInfo
  obtain ⟨st, hst⟩ : ∃ st, sv nought = .string st := ⟨_, rfl⟩
  go_enter Try.func14, Try.ntmps14
  go_wp2
  obtain ⟨gr, egr⟩ : ∃ g, w.heap.size = g := ⟨_, rfl⟩
  obtain ⟨gd, egd⟩ : ∃ g, w.heap.size + 1 = g := ⟨_, rfl⟩
  generalize hw0 : (World.alloc (w.alloc _) _) = w0
  have hgr : Blk w0 gr 45 (refCells none none none 0 0 0 ⟨[], [], false, 0, []⟩).toArray := by
    rw [← hw0, ← egr]
    exact (Blk.new w _ _).alloc _
  have hgd : Blk w0 gd 45 (refCells none none none 0 0 0 (Dk.new 0)).toArray := by
    rw [← hw0, ← egd, show w.heap.size + 1 = (w.alloc (.cells (refCells none none none 0 0 0 ⟨[], [], false, 0, []⟩).toArray 45)).heap.size by simp]
    exact Blk.new _ _ _
  have hb0 : Below gr w w0 := by
    rw [← hw0, ← egr]
    exact (below_alloc w _).alloc (by simp) _
  have hs0 : w0.heap.size = gd + 1 := by rw [← hw0, ← egd]; simp
  rw [egd, egr]
  have hlt : gr < gd := by omega
  have HW := Lib.hid (And.intro hgr (And.intro hgd (And.intro hb0 (And.intro hs0 (And.intro hlt egr)))))
  have H2 := Lib.hid (And.intro hn hn2)
  clear hgr hgd hb0 hs0 hlt egr egd hw0 hn hn2
  go_loopw [5] (fun i wz => ∃ (k : Nat) (A : Option Addr) (c : Nat), k ≤ n ∧ i = .int .i64 (k : Int) ∧ wz.ownsRow (gd + 1) 9 1 (.slice A k c) k (svs (List.replicate k nought)) ∧ Below gr w wz ∧ gd < wz.heap.size ∧ Blk wz gr 45 (refCells none none none 0 0 0 ⟨[], [], false, 0, []⟩).toArray ∧ Blk wz gd 45 (refCells A none none c 0 0 (Dk.new k)).toArray) (fun i _ => n - (intOf i).toNat)
  case atStart => exact ⟨0, none, 0, by omega, rfl, row_nil _ _ _ _, HW.out.2.2.1, by rw [HW.out.2.2.2.1]; omega, HW.out.1, HW.out.2.1⟩
  case round =>
    obtain ⟨k, A, c, hk, rfl, hown, hbel, hsz, hgr, hgd⟩ := hrel
    by_cases hlt : k < n
    · have HG := Lib.hid (And.intro hown (And.intro hbel (And.intro hsz (And.intro hgr hgd))))
      clear hown hbel hsz hgr hgd
      go_wp2
      have hS0 : wr.drew.cell? ⟨gd, 0, none⟩ = some (.slice A k c) := by
        have := HG.out.2.2.2.2.cell 0
        simpa [refCells, Dk.new] using this
      have hS1 : wr.cell? ⟨gd, 0, none⟩ = some (.slice A k c) := hS0
      have hk2 : k < 256 := Nat.lt_of_lt_of_le hlt H2.out.2
      refine wp_region_held_drew (S := fun _ => True) (by kernel_rfl) trivial (fun _ => ?_)
      refine wpAnyH_ready (rs := [0, 2]) (by kernel_rfl) (by simp) ?_
      refine AllReadyH.cons (List.getElem?_toArray.trans (List.getElem?_cons_zero)) (fun K hK => ?_) ?_
      · go_simp
        refine hK.out _ _ trivial (fun _ => ?_)
        clear hK K
        try simp only [Act.put, List.setIfInBounds_toArray, List.set_cons_zero, List.set_cons_succ]
        refine wpAnyH_ready (rs := [1, 2]) (by kernel_rfl) (by simp) ?_
        refine AllReadyH.cons (List.getElem?_toArray.trans (List.getElem?_cons_succ.trans (List.getElem?_cons_zero))) (fun K hK => ?_) ?_
        · go_simp
          refine hK.out _ _ trivial (fun _ => ?_)
          clear hK K
          try simp only [Act.put, List.setIfInBounds_toArray, List.set_cons_zero, List.set_cons_succ]
          refine wpAnyH_ready (rs := [2]) (by kernel_rfl) (by simp) ?_
          refine AllReadyH.cons (List.getElem?_toArray.trans (List.getElem?_cons_succ.trans (List.getElem?_cons_succ.trans (List.getElem?_cons_zero)))) (fun K hK => ?_) AllReadyH.nil
          go_simp
          refine (noughts_any _).mono ?_
          rintro e w2 ⟨he, hb2⟩
          rw [hst] at he
          subst he
          have hB3 : Below wr.heap.size wr w2 := below_undr hb2
          have hS2 := (hB3.cell (p := ⟨gd, 0, none⟩) HG.out.2.2.1).trans hS1
          have hS3 := fun o => ((below_alloc w2 o).cell (p := ⟨gd, 0, none⟩) (Nat.lt_of_lt_of_le HG.out.2.2.1 hB3.size)).trans hS2
          clear hb2
          refine hK.out _ _ trivial (fun _ => ?_)
          clear hK K
          try simp only [Act.put, List.setIfInBounds_toArray, List.set_cons_zero, List.set_cons_succ]
          refine wpAnyH_ready (rs := [3]) (by kernel_rfl) (by simp) ?_
          refine AllReadyH.cons (List.getElem?_toArray.trans (List.getElem?_cons_succ.trans (List.getElem?_cons_succ.trans (List.getElem?_cons_succ.trans (List.getElem?_cons_zero))))) (fun K hK => ?_) AllReadyH.nil
          go_simp
          refine hK.out _ _ trivial (fun _ => ?_)
          clear hK K
          try simp only [Act.put, List.setIfInBounds_toArray, List.set_cons_zero, List.set_cons_succ]
          refine wpAnyH_ready (rs := [4]) (by kernel_rfl) (by simp) ?_
          refine AllReadyH.cons (List.getElem?_toArray.trans (List.getElem?_cons_succ.trans (List.getElem?_cons_succ.trans (List.getElem?_cons_succ.trans (List.getElem?_cons_succ.trans (List.getElem?_cons_zero)))))) (fun K hK => ?_) AllReadyH.nil
          refine step_append_row _ rfl (.tmp 20) (.tmp 22) 41 rfl (gd + 1) 9 i0 _ 1 16 Try.underlying41 hi0 hz0 hz1 hz2 rfl (by decide) (.slice A k c) k (svs (List.replicate k nought)) rfl (row_below (row_below HG.out.1 hB3) (below_alloc w2 (.cells #[.string st] 9))) (w2.heap.size + 1) (some ⟨w2.heap.size, 0, none⟩) 1 1 [.string st] rfl (vs_of_blk (Blk.new w2 9 #[.string st]) (Nat.lt_succ_self _)) rfl (one_str st) (by omega) (by simp only [maxLen]; omega) (by have := HG.out.2.2.1; have := hB3.size; simp; omega) ?_
          intro v4 w4 hown4 hg4 hv4
          obtain ⟨A4, c4, rfl, _, _, _, hlt4⟩ := vs_of_row hown4
          have HN := Lib.hid (new_appended HG.out.1 HG.out.2.2.1 hB3 hown4 hg4 HG.out.2.2.2.2 HG.out.2.2.2.1 HG.out.2.1 HW.out.2.2.2.2.1 hst hv4)
          have hfr4 := HN.out.2.2.2.2.1
          have hS4 : w4.cell? ⟨gd, 0, none⟩ = some (.slice A k c) := new_cell HG.out.1 HG.out.2.2.1 hB3 hg4 HG.out.2.2.2.2
          clear hown4 hg4 hv4 hlt4
          refine hK.out _ _ trivial (fun _ => ?_)
          clear hK K
          try simp only [Act.put, List.setIfInBounds_toArray, List.set_cons_zero, List.set_cons_succ]
          refine wpAnyH_ready (rs := [5]) (by kernel_rfl) (by simp) ?_
          refine AllReadyH.cons (List.getElem?_toArray.trans (List.getElem?_cons_succ.trans (List.getElem?_cons_succ.trans (List.getElem?_cons_succ.trans (List.getElem?_cons_succ.trans (List.getElem?_cons_succ.trans (List.getElem?_cons_zero))))))) (fun K hK => ?_) AllReadyH.nil
          go_simp
          refine hK.out _ _ trivial (fun _ => ?_)
          clear hK K
          try simp only [Act.put, List.setIfInBounds_toArray, List.set_cons_zero, List.set_cons_succ]
          refine wpAnyH_ready (rs := [6]) (by kernel_rfl) (by simp) ?_
          refine AllReadyH.cons (List.getElem?_toArray.trans (List.getElem?_cons_succ.trans (List.getElem?_cons_succ.trans (List.getElem?_cons_succ.trans (List.getElem?_cons_succ.trans (List.getElem?_cons_succ.trans (List.getElem?_cons_succ.trans (List.getElem?_cons_zero)))))))) (fun K hK => ?_) AllReadyH.nil
          go_simp
          refine hK.out _ _ trivial (fun _ => ?_)
          clear hK K
          try simp only [Act.put, List.setIfInBounds_toArray, List.set_cons_zero, List.set_cons_succ]
          refine wpAnyH_done (by kernel_rfl) ?_ _
          go_wp2
          go_roundw
          case rel => exact ⟨k + 1, A4, c4, by omega, by go_num, HN.out.1, HN.out.2.1, HN.out.2.2.1, HN.out.2.2.2.1, HN.out.2.2.2.2.2⟩
          case measure => simp [intOf]; omega
        refine AllReadyH.cons (List.getElem?_toArray.trans (List.getElem?_cons_succ.trans (List.getElem?_cons_succ.trans (List.getElem?_cons_zero)))) (fun K hK => ?_) AllReadyH.nil
        go_simp
        refine (noughts_any _).mono ?_
        rintro e w2 ⟨he, hb2⟩
        rw [hst] at he
        subst he
        have hB3 : Below wr.heap.size wr w2 := below_undr hb2
        have hS2 := (hB3.cell (p := ⟨gd, 0, none⟩) HG.out.2.2.1).trans hS1
        have hS3 := fun o => ((below_alloc w2 o).cell (p := ⟨gd, 0, none⟩) (Nat.lt_of_lt_of_le HG.out.2.2.1 hB3.size)).trans hS2
        clear hb2
        refine hK.out _ _ trivial (fun _ => ?_)
        clear hK K
        try simp only [Act.put, List.setIfInBounds_toArray, List.set_cons_zero, List.set_cons_succ]
        refine wpAnyH_ready (rs := [1, 3]) (by kernel_rfl) (by simp) ?_
        refine AllReadyH.cons (List.getElem?_toArray.trans (List.getElem?_cons_succ.trans (List.getElem?_cons_zero))) (fun K hK => ?_) ?_
        · go_simp
          refine hK.out _ _ trivial (fun _ => ?_)
          clear hK K
          try simp only [Act.put, List.setIfInBounds_toArray, List.set_cons_zero, List.set_cons_succ]
          refine wpAnyH_ready (rs := [3]) (by kernel_rfl) (by simp) ?_
          refine AllReadyH.cons (List.getElem?_toArray.trans (List.getElem?_cons_succ.trans (List.getElem?_cons_succ.trans (List.getElem?_cons_succ.trans (List.getElem?_cons_zero))))) (fun K hK => ?_) AllReadyH.nil
          go_simp
          refine hK.out _ _ trivial (fun _ => ?_)
          clear hK K
          try simp only [Act.put, List.setIfInBounds_toArray, List.set_cons_zero, List.set_cons_succ]
          refine wpAnyH_ready (rs := [4]) (by kernel_rfl) (by simp) ?_
          refine AllReadyH.cons (List.getElem?_toArray.trans (List.getElem?_cons_succ.trans (List.getElem?_cons_succ.trans (List.getElem?_cons_succ.trans (List.getElem?_cons_succ.trans (List.getElem?_cons_zero)))))) (fun K hK => ?_) AllReadyH.nil
          refine step_append_row _ rfl (.tmp 20) (.tmp 22) 41 rfl (gd + 1) 9 i0 _ 1 16 Try.underlying41 hi0 hz0 hz1 hz2 rfl (by decide) (.slice A k c) k (svs (List.replicate k nought)) rfl (row_below (row_below HG.out.1 hB3) (below_alloc w2 (.cells #[.string st] 9))) (w2.heap.size + 1) (some ⟨w2.heap.size, 0, none⟩) 1 1 [.string st] rfl (vs_of_blk (Blk.new w2 9 #[.string st]) (Nat.lt_succ_self _)) rfl (one_str st) (by omega) (by simp only [maxLen]; omega) (by have := HG.out.2.2.1; have := hB3.size; simp; omega) ?_
          intro v4 w4 hown4 hg4 hv4
          obtain ⟨A4, c4, rfl, _, _, _, hlt4⟩ := vs_of_row hown4
          have HN := Lib.hid (new_appended HG.out.1 HG.out.2.2.1 hB3 hown4 hg4 HG.out.2.2.2.2 HG.out.2.2.2.1 HG.out.2.1 HW.out.2.2.2.2.1 hst hv4)
          have hfr4 := HN.out.2.2.2.2.1
          have hS4 : w4.cell? ⟨gd, 0, none⟩ = some (.slice A k c) := new_cell HG.out.1 HG.out.2.2.1 hB3 hg4 HG.out.2.2.2.2
          clear hown4 hg4 hv4 hlt4
          refine hK.out _ _ trivial (fun _ => ?_)
          clear hK K
          try simp only [Act.put, List.setIfInBounds_toArray, List.set_cons_zero, List.set_cons_succ]
          refine wpAnyH_ready (rs := [5]) (by kernel_rfl) (by simp) ?_
          refine AllReadyH.cons (List.getElem?_toArray.trans (List.getElem?_cons_succ.trans (List.getElem?_cons_succ.trans (List.getElem?_cons_succ.trans (List.getElem?_cons_succ.trans (List.getElem?_cons_succ.trans (List.getElem?_cons_zero))))))) (fun K hK => ?_) AllReadyH.nil
          go_simp
          refine hK.out _ _ trivial (fun _ => ?_)
          clear hK K
          try simp only [Act.put, List.setIfInBounds_toArray, List.set_cons_zero, List.set_cons_succ]
          refine wpAnyH_ready (rs := [6]) (by kernel_rfl) (by simp) ?_
          refine AllReadyH.cons (List.getElem?_toArray.trans (List.getElem?_cons_succ.trans (List.getElem?_cons_succ.trans (List.getElem?_cons_succ.trans (List.getElem?_cons_succ.trans (List.getElem?_cons_succ.trans (List.getElem?_cons_succ.trans (List.getElem?_cons_zero)))))))) (fun K hK => ?_) AllReadyH.nil
          go_simp
          refine hK.out _ _ trivial (fun _ => ?_)
          clear hK K
          try simp only [Act.put, List.setIfInBounds_toArray, List.set_cons_zero, List.set_cons_succ]
          refine wpAnyH_done (by kernel_rfl) ?_ _
          go_wp2
          go_roundw
          case rel => exact ⟨k + 1, A4, c4, by omega, by go_num, HN.out.1, HN.out.2.1, HN.out.2.2.1, HN.out.2.2.2.1, HN.out.2.2.2.2.2⟩
          case measure => simp [intOf]; omega
        refine AllReadyH.cons (List.getElem?_toArray.trans (List.getElem?_cons_succ.trans (List.getElem?_cons_succ.trans (List.getElem?_cons_succ.trans (List.getElem?_cons_zero))))) (fun K hK => ?_) AllReadyH.nil
        go_simp
        refine hK.out _ _ trivial (fun _ => ?_)
        clear hK K
        try simp only [Act.put, List.setIfInBounds_toArray, List.set_cons_zero, List.set_cons_succ]
        refine wpAnyH_ready (rs := [1]) (by kernel_rfl) (by simp) ?_
        refine AllReadyH.cons (List.getElem?_toArray.trans (List.getElem?_cons_succ.trans (List.getElem?_cons_zero))) (fun K hK => ?_) AllReadyH.nil
        go_simp
        refine hK.out _ _ trivial (fun _ => ?_)
        clear hK K
        try simp only [Act.put, List.setIfInBounds_toArray, List.set_cons_zero, List.set_cons_succ]
        refine wpAnyH_ready (rs := [4]) (by kernel_rfl) (by simp) ?_
        refine AllReadyH.cons (List.getElem?_toArray.trans (List.getElem?_cons_succ.trans (List.getElem?_cons_succ.trans (List.getElem?_cons_succ.trans (List.getElem?_cons_succ.trans (List.getElem?_cons_zero)))))) (fun K hK => ?_) AllReadyH.nil
        refine step_append_row _ rfl (.tmp 20) (.tmp 22) 41 rfl (gd + 1) 9 i0 _ 1 16 Try.underlying41 hi0 hz0 hz1 hz2 rfl (by decide) (.slice A k c) k (svs (List.replicate k nought)) rfl (row_below (row_below HG.out.1 hB3) (below_alloc w2 (.cells #[.string st] 9))) (w2.heap.size + 1) (some ⟨w2.heap.size, 0, none⟩) 1 1 [.string st] rfl (vs_of_blk (Blk.new w2 9 #[.string st]) (Nat.lt_succ_self _)) rfl (one_str st) (by omega) (by simp only [maxLen]; omega) (by have := HG.out.2.2.1; have := hB3.size; simp; omega) ?_
        intro v4 w4 hown4 hg4 hv4
        obtain ⟨A4, c4, rfl, _, _, _, hlt4⟩ := vs_of_row hown4
        have HN := Lib.hid (new_appended HG.out.1 HG.out.2.2.1 hB3 hown4 hg4 HG.out.2.2.2.2 HG.out.2.2.2.1 HG.out.2.1 HW.out.2.2.2.2.1 hst hv4)
        have hfr4 := HN.out.2.2.2.2.1
        have hS4 : w4.cell? ⟨gd, 0, none⟩ = some (.slice A k c) := new_cell HG.out.1 HG.out.2.2.1 hB3 hg4 HG.out.2.2.2.2
        clear hown4 hg4 hv4 hlt4
        refine hK.out _ _ trivial (fun _ => ?_)
        clear hK K
        try simp only [Act.put, List.setIfInBounds_toArray, List.set_cons_zero, List.set_cons_succ]
        refine wpAnyH_ready (rs := [5]) (by kernel_rfl) (by simp) ?_
        refine AllReadyH.cons (List.getElem?_toArray.trans (List.getElem?_cons_succ.trans (List.getElem?_cons_succ.trans (List.getElem?_cons_succ.trans (List.getElem?_cons_succ.trans (List.getElem?_cons_succ.trans (List.getElem?_cons_zero))))))) (fun K hK => ?_) AllReadyH.nil
        go_simp
        refine hK.out _ _ trivial (fun _ => ?_)
        clear hK K
        try simp only [Act.put, List.setIfInBounds_toArray, List.set_cons_zero, List.set_cons_succ]
        refine wpAnyH_ready (rs := [6]) (by kernel_rfl) (by simp) ?_
        refine AllReadyH.cons (List.getElem?_toArray.trans (List.getElem?_cons_succ.trans (List.getElem?_cons_succ.trans (List.getElem?_cons_succ.trans (List.getElem?_cons_succ.trans (List.getElem?_cons_succ.trans (List.getElem?_cons_succ.trans (List.getElem?_cons_zero)))))))) (fun K hK => ?_) AllReadyH.nil
        go_simp
        refine hK.out _ _ trivial (fun _ => ?_)
        clear hK K
        try simp only [Act.put, List.setIfInBounds_toArray, List.set_cons_zero, List.set_cons_succ]
        refine wpAnyH_done (by kernel_rfl) ?_ _
        go_wp2
        go_roundw
        case rel => exact ⟨k + 1, A4, c4, by omega, by go_num, HN.out.1, HN.out.2.1, HN.out.2.2.1, HN.out.2.2.2.1, HN.out.2.2.2.2.2⟩
        case measure => simp [intOf]; omega
      refine AllReadyH.cons (List.getElem?_toArray.trans (List.getElem?_cons_succ.trans (List.getElem?_cons_succ.trans (List.getElem?_cons_zero)))) (fun K hK => ?_) AllReadyH.nil
      go_simp
      refine (noughts_any _).mono ?_
      rintro e w2 ⟨he, hb2⟩
      rw [hst] at he
      subst he
      have hB3 : Below wr.heap.size wr w2 := below_undr hb2
      have hS2 := (hB3.cell (p := ⟨gd, 0, none⟩) HG.out.2.2.1).trans hS1
      have hS3 := fun o => ((below_alloc w2 o).cell (p := ⟨gd, 0, none⟩) (Nat.lt_of_lt_of_le HG.out.2.2.1 hB3.size)).trans hS2
      clear hb2
      refine hK.out _ _ trivial (fun _ => ?_)
      clear hK K
      try simp only [Act.put, List.setIfInBounds_toArray, List.set_cons_zero, List.set_cons_succ]
      refine wpAnyH_ready (rs := [0, 3]) (by kernel_rfl) (by simp) ?_
      refine AllReadyH.cons (List.getElem?_toArray.trans (List.getElem?_cons_zero)) (fun K hK => ?_) ?_
      · go_simp
        refine hK.out _ _ trivial (fun _ => ?_)
        clear hK K
        try simp only [Act.put, List.setIfInBounds_toArray, List.set_cons_zero, List.set_cons_succ]
        refine wpAnyH_ready (rs := [1, 3]) (by kernel_rfl) (by simp) ?_
        refine AllReadyH.cons (List.getElem?_toArray.trans (List.getElem?_cons_succ.trans (List.getElem?_cons_zero))) (fun K hK => ?_) ?_
        · go_simp
          refine hK.out _ _ trivial (fun _ => ?_)
          clear hK K
          try simp only [Act.put, List.setIfInBounds_toArray, List.set_cons_zero, List.set_cons_succ]
          refine wpAnyH_ready (rs := [3]) (by kernel_rfl) (by simp) ?_
          refine AllReadyH.cons (List.getElem?_toArray.trans (List.getElem?_cons_succ.trans (List.getElem?_cons_succ.trans (List.getElem?_cons_succ.trans (List.getElem?_cons_zero))))) (fun K hK => ?_) AllReadyH.nil
          go_simp
          refine hK.out _ _ trivial (fun _ => ?_)
          clear hK K
          try simp only [Act.put, List.setIfInBounds_toArray, List.set_cons_zero, List.set_cons_succ]
          refine wpAnyH_ready (rs := [4]) (by kernel_rfl) (by simp) ?_
          refine AllReadyH.cons (List.getElem?_toArray.trans (List.getElem?_cons_succ.trans (List.getElem?_cons_succ.trans (List.getElem?_cons_succ.trans (List.getElem?_cons_succ.trans (List.getElem?_cons_zero)))))) (fun K hK => ?_) AllReadyH.nil
          refine step_append_row _ rfl (.tmp 20) (.tmp 22) 41 rfl (gd + 1) 9 i0 _ 1 16 Try.underlying41 hi0 hz0 hz1 hz2 rfl (by decide) (.slice A k c) k (svs (List.replicate k nought)) rfl (row_below (row_below HG.out.1 hB3) (below_alloc w2 (.cells #[.string st] 9))) (w2.heap.size + 1) (some ⟨w2.heap.size, 0, none⟩) 1 1 [.string st] rfl (vs_of_blk (Blk.new w2 9 #[.string st]) (Nat.lt_succ_self _)) rfl (one_str st) (by omega) (by simp only [maxLen]; omega) (by have := HG.out.2.2.1; have := hB3.size; simp; omega) ?_
          intro v4 w4 hown4 hg4 hv4
          obtain ⟨A4, c4, rfl, _, _, _, hlt4⟩ := vs_of_row hown4
          have HN := Lib.hid (new_appended HG.out.1 HG.out.2.2.1 hB3 hown4 hg4 HG.out.2.2.2.2 HG.out.2.2.2.1 HG.out.2.1 HW.out.2.2.2.2.1 hst hv4)
          have hfr4 := HN.out.2.2.2.2.1
          have hS4 : w4.cell? ⟨gd, 0, none⟩ = some (.slice A k c) := new_cell HG.out.1 HG.out.2.2.1 hB3 hg4 HG.out.2.2.2.2
          clear hown4 hg4 hv4 hlt4
          refine hK.out _ _ trivial (fun _ => ?_)
          clear hK K
          try simp only [Act.put, List.setIfInBounds_toArray, List.set_cons_zero, List.set_cons_succ]
          refine wpAnyH_ready (rs := [5]) (by kernel_rfl) (by simp) ?_
          refine AllReadyH.cons (List.getElem?_toArray.trans (List.getElem?_cons_succ.trans (List.getElem?_cons_succ.trans (List.getElem?_cons_succ.trans (List.getElem?_cons_succ.trans (List.getElem?_cons_succ.trans (List.getElem?_cons_zero))))))) (fun K hK => ?_) AllReadyH.nil
          go_simp
          refine hK.out _ _ trivial (fun _ => ?_)
          clear hK K
          try simp only [Act.put, List.setIfInBounds_toArray, List.set_cons_zero, List.set_cons_succ]
          refine wpAnyH_ready (rs := [6]) (by kernel_rfl) (by simp) ?_
          refine AllReadyH.cons (List.getElem?_toArray.trans (List.getElem?_cons_succ.trans (List.getElem?_cons_succ.trans (List.getElem?_cons_succ.trans (List.getElem?_cons_succ.trans (List.getElem?_cons_succ.trans (List.getElem?_cons_succ.trans (List.getElem?_cons_zero)))))))) (fun K hK => ?_) AllReadyH.nil
          go_simp
          refine hK.out _ _ trivial (fun _ => ?_)
          clear hK K
          try simp only [Act.put, List.setIfInBounds_toArray, List.set_cons_zero, List.set_cons_succ]
          refine wpAnyH_done (by kernel_rfl) ?_ _
          go_wp2
          go_roundw
          case rel => exact ⟨k + 1, A4, c4, by omega, by go_num, HN.out.1, HN.out.2.1, HN.out.2.2.1, HN.out.2.2.2.1, HN.out.2.2.2.2.2⟩
          case measure => simp [intOf]; omega
        refine AllReadyH.cons (List.getElem?_toArray.trans (List.getElem?_cons_succ.trans (List.getElem?_cons_succ.trans (List.getElem?_cons_succ.trans (List.getElem?_cons_zero))))) (fun K hK => ?_) AllReadyH.nil
        go_simp
        refine hK.out _ _ trivial (fun _ => ?_)
        clear hK K
        try simp only [Act.put, List.setIfInBounds_toArray, List.set_cons_zero, List.set_cons_succ]
        refine wpAnyH_ready (rs := [1]) (by kernel_rfl) (by simp) ?_
        refine AllReadyH.cons (List.getElem?_toArray.trans (List.getElem?_cons_succ.trans (List.getElem?_cons_zero))) (fun K hK => ?_) AllReadyH.nil
        go_simp
        refine hK.out _ _ trivial (fun _ => ?_)
        clear hK K
        try simp only [Act.put, List.setIfInBounds_toArray, List.set_cons_zero, List.set_cons_succ]
        refine wpAnyH_ready (rs := [4]) (by kernel_rfl) (by simp) ?_
        refine AllReadyH.cons (List.getElem?_toArray.trans (List.getElem?_cons_succ.trans (List.getElem?_cons_succ.trans (List.getElem?_cons_succ.trans (List.getElem?_cons_succ.trans (List.getElem?_cons_zero)))))) (fun K hK => ?_) AllReadyH.nil
        refine step_append_row _ rfl (.tmp 20) (.tmp 22) 41 rfl (gd + 1) 9 i0 _ 1 16 Try.underlying41 hi0 hz0 hz1 hz2 rfl (by decide) (.slice A k c) k (svs (List.replicate k nought)) rfl (row_below (row_below HG.out.1 hB3) (below_alloc w2 (.cells #[.string st] 9))) (w2.heap.size + 1) (some ⟨w2.heap.size, 0, none⟩) 1 1 [.string st] rfl (vs_of_blk (Blk.new w2 9 #[.string st]) (Nat.lt_succ_self _)) rfl (one_str st) (by omega) (by simp only [maxLen]; omega) (by have := HG.out.2.2.1; have := hB3.size; simp; omega) ?_
        intro v4 w4 hown4 hg4 hv4
        obtain ⟨A4, c4, rfl, _, _, _, hlt4⟩ := vs_of_row hown4
        have HN := Lib.hid (new_appended HG.out.1 HG.out.2.2.1 hB3 hown4 hg4 HG.out.2.2.2.2 HG.out.2.2.2.1 HG.out.2.1 HW.out.2.2.2.2.1 hst hv4)
        have hfr4 := HN.out.2.2.2.2.1
        have hS4 : w4.cell? ⟨gd, 0, none⟩ = some (.slice A k c) := new_cell HG.out.1 HG.out.2.2.1 hB3 hg4 HG.out.2.2.2.2
        clear hown4 hg4 hv4 hlt4
        refine hK.out _ _ trivial (fun _ => ?_)
        clear hK K
        try simp only [Act.put, List.setIfInBounds_toArray, List.set_cons_zero, List.set_cons_succ]
        refine wpAnyH_ready (rs := [5]) (by kernel_rfl) (by simp) ?_
        refine AllReadyH.cons (List.getElem?_toArray.trans (List.getElem?_cons_succ.trans (List.getElem?_cons_succ.trans (List.getElem?_cons_succ.trans (List.getElem?_cons_succ.trans (List.getElem?_cons_succ.trans (List.getElem?_cons_zero))))))) (fun K hK => ?_) AllReadyH.nil
        go_simp
        refine hK.out _ _ trivial (fun _ => ?_)
        clear hK K
        try simp only [Act.put, List.setIfInBounds_toArray, List.set_cons_zero, List.set_cons_succ]
        refine wpAnyH_ready (rs := [6]) (by kernel_rfl) (by simp) ?_
        refine AllReadyH.cons (List.getElem?_toArray.trans (List.getElem?_cons_succ.trans (List.getElem?_cons_succ.trans (List.getElem?_cons_succ.trans (List.getElem?_cons_succ.trans (List.getElem?_cons_succ.trans (List.getElem?_cons_succ.trans (List.getElem?_cons_zero)))))))) (fun K hK => ?_) AllReadyH.nil
        go_simp
        refine hK.out _ _ trivial (fun _ => ?_)
        clear hK K
        try simp only [Act.put, List.setIfInBounds_toArray, List.set_cons_zero, List.set_cons_succ]
        refine wpAnyH_done (by kernel_rfl) ?_ _
        go_wp2
        go_roundw
        case rel => exact ⟨k + 1, A4, c4, by omega, by go_num, HN.out.1, HN.out.2.1, HN.out.2.2.1, HN.out.2.2.2.1, HN.out.2.2.2.2.2⟩
        case measure => simp [intOf]; omega
      refine AllReadyH.cons (List.getElem?_toArray.trans (List.getElem?_cons_succ.trans (List.getElem?_cons_succ.trans (List.getElem?_cons_succ.trans (List.getElem?_cons_zero))))) (fun K hK => ?_) AllReadyH.nil
      go_simp
      refine hK.out _ _ trivial (fun _ => ?_)
      clear hK K
      try simp only [Act.put, List.setIfInBounds_toArray, List.set_cons_zero, List.set_cons_succ]
      refine wpAnyH_ready (rs := [0]) (by kernel_rfl) (by simp) ?_
      refine AllReadyH.cons (List.getElem?_toArray.trans (List.getElem?_cons_zero)) (fun K hK => ?_) AllReadyH.nil
      go_simp
      refine hK.out _ _ trivial (fun _ => ?_)
      clear hK K
      try simp only [Act.put, List.setIfInBounds_toArray, List.set_cons_zero, List.set_cons_succ]
      refine wpAnyH_ready (rs := [1]) (by kernel_rfl) (by simp) ?_
      refine AllReadyH.cons (List.getElem?_toArray.trans (List.getElem?_cons_succ.trans (List.getElem?_cons_zero))) (fun K hK => ?_) AllReadyH.nil
      go_simp
      refine hK.out _ _ trivial (fun _ => ?_)
      clear hK K
      try simp only [Act.put, List.setIfInBounds_toArray, List.set_cons_zero, List.set_cons_succ]
      refine wpAnyH_ready (rs := [4]) (by kernel_rfl) (by simp) ?_
      refine AllReadyH.cons (List.getElem?_toArray.trans (List.getElem?_cons_succ.trans (List.getElem?_cons_succ.trans (List.getElem?_cons_succ.trans (List.getElem?_cons_succ.trans (List.getElem?_cons_zero)))))) (fun K hK => ?_) AllReadyH.nil
      refine step_append_row _ rfl (.tmp 20) (.tmp 22) 41 rfl (gd + 1) 9 i0 _ 1 16 Try.underlying41 hi0 hz0 hz1 hz2 rfl (by decide) (.slice A k c) k (svs (List.replicate k nought)) rfl (row_below (row_below HG.out.1 hB3) (below_alloc w2 (.cells #[.string st] 9))) (w2.heap.size + 1) (some ⟨w2.heap.size, 0, none⟩) 1 1 [.string st] rfl (vs_of_blk (Blk.new w2 9 #[.string st]) (Nat.lt_succ_self _)) rfl (one_str st) (by omega) (by simp only [maxLen]; omega) (by have := HG.out.2.2.1; have := hB3.size; simp; omega) ?_
      intro v4 w4 hown4 hg4 hv4
      obtain ⟨A4, c4, rfl, _, _, _, hlt4⟩ := vs_of_row hown4
      have HN := Lib.hid (new_appended HG.out.1 HG.out.2.2.1 hB3 hown4 hg4 HG.out.2.2.2.2 HG.out.2.2.2.1 HG.out.2.1 HW.out.2.2.2.2.1 hst hv4)
      have hfr4 := HN.out.2.2.2.2.1
      have hS4 : w4.cell? ⟨gd, 0, none⟩ = some (.slice A k c) := new_cell HG.out.1 HG.out.2.2.1 hB3 hg4 HG.out.2.2.2.2
      clear hown4 hg4 hv4 hlt4
      refine hK.out _ _ trivial (fun _ => ?_)
      clear hK K
      try simp only [Act.put, List.setIfInBounds_toArray, List.set_cons_zero, List.set_cons_succ]
      refine wpAnyH_ready (rs := [5]) (by kernel_rfl) (by simp) ?_
      refine AllReadyH.cons (List.getElem?_toArray.trans (List.getElem?_cons_succ.trans (List.getElem?_cons_succ.trans (List.getElem?_cons_succ.trans (List.getElem?_cons_succ.trans (List.getElem?_cons_succ.trans (List.getElem?_cons_zero))))))) (fun K hK => ?_) AllReadyH.nil
      go_simp
      refine hK.out _ _ trivial (fun _ => ?_)
      clear hK K
      try simp only [Act.put, List.setIfInBounds_toArray, List.set_cons_zero, List.set_cons_succ]
      refine wpAnyH_ready (rs := [6]) (by kernel_rfl) (by simp) ?_
      refine AllReadyH.cons (List.getElem?_toArray.trans (List.getElem?_cons_succ.trans (List.getElem?_cons_succ.trans (List.getElem?_cons_succ.trans (List.getElem?_cons_succ.trans (List.getElem?_cons_succ.trans (List.getElem?_cons_succ.trans (List.getElem?_cons_zero)))))))) (fun K hK => ?_) AllReadyH.nil
      go_simp
      refine hK.out _ _ trivial (fun _ => ?_)
      clear hK K
      try simp only [Act.put, List.setIfInBounds_toArray, List.set_cons_zero, List.set_cons_succ]
      refine wpAnyH_done (by kernel_rfl) ?_ _
      go_wp2
      go_roundw
      case rel => exact ⟨k + 1, A4, c4, by omega, by go_num, HN.out.1, HN.out.2.1, HN.out.2.2.1, HN.out.2.2.2.1, HN.out.2.2.2.2.2⟩
      case measure => simp [intOf]; omega
    · obtain rfl : k = n := by omega
      have HE := Lib.hid (And.intro hbel (And.intro hsz (And.intro hgr (And.intro hgd hown))))
      clear hbel hsz hgr hgd hown
      go_wp2_with (first | (with_reducible refine st_load 45 ?_; refine stopped ?_) | fail)
      refine go_on ?_
      refine wpList_load_at rfl 45 (.tmp 4) rfl gd 0 rfl (refCells A none none c 0 0 (Dk.new k)).toArray _ (Blk.cells HE.out.2.2.2.1) Try.underlying45 rfl rdisk_size ?_
      refine wpList_store_whole rfl 45 (.tmp 2) (.tmp 25) rfl gr (refCells A none none c 0 0 (Dk.new k)) rfl rfl 45 (refCells none none none 0 0 0 ⟨[], [], false, 0, []⟩) HE.out.2.2.1 rdisk_size rfl (refCells_one _ _ _ _ _ _ _) ?_
      intro w10 hb10 hg10
      simp only [Act.put, List.setIfInBounds_toArray, List.set_cons_zero, List.set_cons_succ]
      repeat (first | go_values | go_skip | go_guarded | go_step)
      refine bodyPost_rowv rfl gr rfl (.bool true) rfl 45 _ _ hb10 Try.underlying45 rfl rdisk_size rfl ?_
      have hrow := row_kept HE.out.2.2.2.2 hg10 (by have := HW.out.2.2.2.2.1; omega)
      obtain ⟨A', c', hv, _, _, hvs, hnw⟩ := vs_of_row hrow
      injection hv with hA _ hc
      subst hA hc
      refine ⟨_, rfl, ⟨Dk.new_ok _ H2.out.2, A, none, none, c, 0, 0, ?_, ?_, Vs.nil_, Vs.nil_⟩, ?_, A, c, rfl, fun b o e => ?_⟩
      · rfl
      · exact hvs
      · rw [HW.out.2.2.2.2.2]
        exact HE.out.1.trans (only_below hg10 (Nat.le_trans (Nat.le_of_eq HW.out.2.2.2.2.2.symm) HE.out.1.size) (fun g' e => by cases e; exact Nat.le_refl _))
      · subst e
        have := (hnw b rfl).1
        have := HW.out.2.2.2.2.1
        have := HW.out.2.2.2.2.2
        omega
end Go.Proofs.Ytdhaikcmgegfoaa
