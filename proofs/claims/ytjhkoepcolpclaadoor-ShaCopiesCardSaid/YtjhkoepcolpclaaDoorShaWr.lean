/-
  A Hash's Write, by its contract. Conditions: the tables read as the program's text lays them; the bytes that come do not lie in the Hash's block; the theorem's own premises.
-/
import Derived.Test.YtjhkoepcolpclaaDoorShaWrM
import Derived.BigQuiet
import Derived.Deep.RegionHeld3
namespace Go.Proofs.YtjhkoepcolpclaaDoor
open Go.RowKit

theorem elem_bytes : Tryd.prog.elem 22 = 5 := by kernel_rfl
def lenV : Value → Nat
  | .slice _ n _ => n
  | _ => 0

set_option maxRecDepth 100000 in
set_option maxHeartbeats 4000000 in
set_option linter.unusedSimpArgs false in
theorem write_any (g : Nat) (l b : List UInt8) (A : Option Addr) (c B : Nat) (w : World) (hh : Has w g l) (h2 : 2 ≤ g) (ht : Tabs w) (hb : ∀ w', w.grownBy w' (some g) → Bs w' B A b) (hc : b.length ≤ c) (hl : l.length + b.length ≤ 4611686018427387904) :
    Calls Tryd.prog 17 #[.pointer (some ⟨g, 0, none⟩), .slice A b.length c] w fun e w' => e = .returned (.tuple #[]) ∧ Has w' g (l ++ b) ∧ w.grownBy w' (some g) := by
  have HH := Lib.hid hh
  have HT := Lib.hid ht
  have HB := Lib.hid hb
  clear hh ht hb
  go_enter Tryd.func17, Tryd.ntmps17
  go_wp2_with fail
  go_loopw [1] (fun v wz => ∃ (k m c' : Nat) (A' : Option Addr) (r : List UInt8), k + m = b.length ∧ b.drop k = r ∧ r.length = m ∧ v = .slice A' m c' ∧ m ≤ c' ∧ (∀ w', w.grownBy w' (some g) → Bs w' B A' r) ∧ Has wz g (l ++ b.take k) ∧ w.grownBy wz (some g)) (fun v _ => lenV v)
  case atStart => exact ⟨0, b.length, c, A, b, by omega, rfl, rfl, rfl, hc, HB.out, by simpa using HH.out, only_refl _ _⟩
  case round =>
    obtain ⟨k, m, c', A', r, hkm, hr, hrm, rfl, hmc, hbs, ⟨blk, hblk, h64, hbeg⟩, hgr⟩ := hrel
    by_cases hm : m = 0
    · obtain rfl : k = b.length := by omega
      rw [List.take_length] at hblk hbeg
      have HHas := Lib.hid (show Has wr g (l ++ b) from ⟨blk, hblk, h64, hbeg⟩)
      have HGr := Lib.hid hgr
      clear hblk hbeg h64 hgr hbs
      subst hm
      go_wp2_with fail
      go_end0
      exact ⟨rfl, HHas.out, HGr.out⟩
    · obtain ⟨q, eq⟩ : ∃ q, l ++ b.take k = q := ⟨_, rfl⟩
      rw [eq] at hblk hbeg
      have hql : q.length = l.length + k := by rw [← eq]; simp; omega
      obtain ⟨n, en⟩ : ∃ n, q.length = n := ⟨_, rfl⟩
      obtain ⟨f, ef⟩ : ∃ f, n % 64 = f := ⟨_, rfl⟩
      obtain ⟨t, et⟩ : ∃ t, Nat.min m (64 - f) = t := ⟨_, rfl⟩
      have hf : f < 64 := by omega
      have ht1 : t ≤ m := by rw [← et]; exact Nat.min_le_left _ _
      have ht2 : t ≤ 64 - f := by rw [← et]; exact Nat.min_le_right _ _
      have ht0 : 0 < t := by
        rw [← et]
        exact Nat.lt_min.2 ⟨by omega, by omega⟩
      have hcell : wr.cell? ⟨g, 72, none⟩ = some (.int .i64 (n : Int)) := by rw [hblk.cell, List.getElem?_toArray, ← en]; exact HV_n _ _ _ (St.list_length _) h64
      have a1 : (n : Int) % 64 = (f : Int) := by omega
      have a2 : (n : Int).tmod 64 = (f : Int) := by rw [Int.tmod_eq_emod_of_nonneg (by omega)]; exact a1
      have a3 : (f : Int) ≤ 64 := by omega
      have a4 : (f : Int) < 64 := by omega
      have a5 : ¬ (64 = f) := by omega
      have a5' : ¬ (f = 64) := by omega
      have a6 : (0 : Int) < (m : Int) := by omega
      have HMore := Lib.hid (begun_more q r blk t h64 (by rw [en] at hbeg ⊢; exact hbeg) (by rw [en, ef]; exact ht2) (by rw [hrm]; exact ht1))
      have hq2 : q ++ r.take t = l ++ b.take (k + t) := by
        rw [← eq, ← hr, List.append_assoc]
        congr 1
        rw [List.take_add]
      have HQ := Lib.hid (And.intro hq2 (And.intro hr hrm))
      have HNL := Lib.hid (show n = l.length + k by omega)
      have HBs := Lib.hid hbs
      have HBk := Lib.hid (And.intro hblk h64)
      have HGr := Lib.hid hgr
      clear hblk hbeg hbs hgr eq hql hq2 hr hrm
      go_wp2_with fail
      refine region_tail 10 (by kernel_rfl) (by kernel_rfl) ?_
      simp only [List.take_succ_cons, List.take_zero, List.drop_succ_cons, List.drop_zero]
      repeat still_step
      refine wpStill_nil ?_
      have hsrc : 0 < t → ∃ ad, A' = some ad ∧ ∀ (j : Nat) v, (bv (r.take t))[j]? = some v → wr.drew.cell? (ad.add j) = some v := fun _ => by
        have hbs := HBs.out wr.drew (only_drewN HGr.out 1)
        obtain ⟨ab, ao, rfl, _, hc⟩ := hbs (by have := HQ.out.2.2; omega)
        refine ⟨_, rfl, fun j v hv => ?_⟩
        have hj : j < (r.take t).length := by
          have := (List.getElem?_eq_some_iff.1 hv).1
          rwa [bv_length] at this
        rw [bv_get hj] at hv
        obtain rfl := Option.some.inj hv
        rw [Addr.add_lit, hc j (by simp at hj; omega)]
        simp
      refine wpList_copy_row rfl (.tmp 16) (.tmp 17) 22 22 rfl 5 Tryd.underlying22 u8_info g (8 + f) (64 - f) (64 - f) m c' A' rfl rfl (HV (shaH.take (n / 64) q).list blk n) 53 (by rw [← en]; exact HBk.out.1.drewN 1) (bv (r.take t)) t et.symm (by rw [bv_length, List.length_take, HQ.out.2.2]; omega) hsrc (by rw [HV_length _ _ _ (St.list_length _) HBk.out.2]; omega) (bv_one _) ?_
      intro w2 hb2 hg2
      simp only [Act.put, List.setIfInBounds_toArray, List.set_cons_zero, List.set_cons_succ]
      rw [HV_splice_blk _ _ _ _ _ (St.list_length _) (by rw [HBk.out.2, List.length_take, HQ.out.2.2]; omega)] at hb2
      obtain ⟨blk2, eb2⟩ : ∃ x, splice blk f (r.take t) = x := ⟨_, rfl⟩
      have hmore := HMore.out
      rw [en, ef, eb2] at hmore
      rw [eb2] at hb2
      have HM := Lib.hid hmore
      have hcell2 : w2.cell? ⟨g, 72, none⟩ = some (.int .i64 (n : Int)) := by rw [hb2.cell, List.getElem?_toArray]; exact HV_n _ _ _ (St.list_length _) hmore.1
      have hfro2 := hb2.frozen 72
      obtain ⟨nt, ent⟩ : ∃ x, n + t = x := ⟨_, rfl⟩
      have b1 : (n : Int) + (t : Int) = (nt : Int) := by omega
      have b1' : wrap64 (nt : Int) = (nt : Int) := by have := HNL.out; unfold wrap64; omega
      have hb3 : Blk (w2.setCell ⟨g, 72, none⟩ (.int .i64 (nt : Int))) g 53 (HV (shaH.take (n / 64) q).list blk2 nt).toArray := by
        have := hb2.set_ 72 (.int .i64 (nt : Int))
        rwa [List.setIfInBounds_toArray, HV_set _ _ _ _ (St.list_length _) hmore.1] at this
      have HB3 := Lib.hid hb3
      have HG3 := Lib.hid (only_trans (only_trans (only_drewN HGr.out 1) hg2) (only_setCell (only_refl w2 (some g)) (p := ⟨g, 72, none⟩) (.inl rfl) (.int .i64 (nt : Int))))
      have HE := Lib.hid (And.intro en (And.intro ef (And.intro ent hkm)))
      clear hmore hb2 hg2 hb3 hsrc HMore HBk HGr eb2 hcell
      go_wp2_with (first | (with_reducible refine at_slice ?_; refine stopped ?_) | fail)
      refine go_on ?_
      obtain ⟨w3, ew3⟩ : ∃ x, w2.setCell ⟨g, 72, none⟩ (.int .i64 (nt : Int)) = x := ⟨_, rfl⟩
      rw [ew3]
      have hb3 := HB3.out
      have hg3 := HG3.out
      rw [ew3] at hb3 hg3
      refine wpList_slice_from rfl 22 (.tmp 27) (.tmp 28) rfl 5 Tryd.underlying22 elem_bytes u8_info A' r m c' t rfl rfl HQ.out.2.2 ht1 hmc ?_
      intro A2 m2 c2 hm2 hmc2 hbs2
      simp only [Act.put, List.setIfInBounds_toArray, List.set_cons_zero, List.set_cons_succ]
      have HB3' := Lib.hid (And.intro hb3 hg3)
      have HA2 := Lib.hid (fun w' hw' => hbs2 w' B (HBs.out w' hw'))
      have hcell3 : w3.cell? ⟨g, 72, none⟩ = some (.int .i64 (nt : Int)) := by rw [hb3.cell, List.getElem?_toArray]; exact HV_n _ _ _ (St.list_length _) HM.out.1
      have hmt : (r.take t).length = t := by rw [List.length_take, HQ.out.2.2]; exact Nat.min_eq_left ht1
      have hrest : b.drop (k + t) = r.drop t := by rw [← HQ.out.2.1, List.drop_drop]
      have hrl : (r.drop t).length = m2 := by rw [List.length_drop, HQ.out.2.2]; exact Nat.sub_eq_of_eq_add hm2.symm
      have HR2 := Lib.hid (And.intro hmt (And.intro hrest hrl))
      clear ew3 hb3 hg3 hbs2 HB3 HG3 hcell2 hfro2 b1 b1' a1 a2 a3 a4 a5 a5' hmt hrest hrl HBs
      by_cases hfull : f + t = 64
      · have c1 : (nt : Int) % 64 = 0 := by have := HE.out; omega
        have c1' : (nt : Int).tmod 64 = 0 := by rw [Int.tmod_eq_emod_of_nonneg (by omega)]; exact c1
        go_wp2_with fail
        obtain ⟨S, eS⟩ : ∃ S, shaH.take (n / 64) q = S := ⟨_, rfl⟩
        have hok : S.okB := by rw [← eS]; exact St.take_ok shaH_ok _ _
        have hb3 := HB3'.out.1
        rw [eS] at hb3
        have hb4 : Blk w3.drew g 53 (HV S.list blk2 nt).toArray := hb3.drewN 1
        have HS := Lib.hid (And.intro hok (And.intro eS (And.intro hb4 (HT.out.grown HB3'.out.2 h2))))
        clear hok eS hb3 hb4 c1 c1' hcell3
        refine wp_region_held_drew (S := fun _ => True) (by kernel_rfl) trivial (fun hHeld => ?_)
        refine wpAnyH_take (i := 0) (v := ?_) (List.getElem?_toArray.trans (List.getElem?_cons_zero)) (by kernel_rfl) (by kernel_rfl) (by kernel_rfl) (fun _ _ _ h => h) (Or.inl ⟨by rfl, ?_⟩) (by assumption) ?_
        rotate_left
        · intro w' hSw; (try dsimp only at hSw); go_simp; try with_reducible rfl
        try simp only [Act.put, List.setIfInBounds_toArray, List.set_cons_zero, List.set_cons_succ]
        refine wpAnyH_take (i := 1) (v := ?_) (List.getElem?_toArray.trans (List.getElem?_cons_succ.trans (List.getElem?_cons_zero))) (by kernel_rfl) (by kernel_rfl) (by kernel_rfl) (fun _ _ _ h => h) (Or.inl ⟨by rfl, ?_⟩) (by assumption) ?_
        rotate_left
        · intro w' hSw; (try dsimp only at hSw); go_simp; try with_reducible rfl
        try simp only [Act.put, List.setIfInBounds_toArray, List.set_cons_zero, List.set_cons_succ]
        refine wpAnyH_take (i := 2) (v := ?_) (List.getElem?_toArray.trans (List.getElem?_cons_succ.trans (List.getElem?_cons_succ.trans (List.getElem?_cons_zero)))) (by kernel_rfl) (by kernel_rfl) (by kernel_rfl) (fun _ _ _ h => h) (Or.inl ⟨by rfl, ?_⟩) (by assumption) ?_
        rotate_left
        · intro w' hSw; (try dsimp only at hSw); go_simp; try with_reducible rfl
        try simp only [Act.put, List.setIfInBounds_toArray, List.set_cons_zero, List.set_cons_succ]
        refine wpAnyH_take (i := 3) (v := ?_) (List.getElem?_toArray.trans (List.getElem?_cons_succ.trans (List.getElem?_cons_succ.trans (List.getElem?_cons_succ.trans (List.getElem?_cons_zero))))) (by kernel_rfl) (by kernel_rfl) (by kernel_rfl) (fun _ _ _ h => h) (Or.inl ⟨by rfl, ?_⟩) (by assumption) ?_
        rotate_left
        · intro w' hSw; (try dsimp only at hSw); go_simp; try with_reducible rfl
        try simp only [Act.put, List.setIfInBounds_toArray, List.set_cons_zero, List.set_cons_succ]
        refine wpAnyH_take (i := 5) (v := ?_) (List.getElem?_toArray.trans (List.getElem?_cons_succ.trans (List.getElem?_cons_succ.trans (List.getElem?_cons_succ.trans (List.getElem?_cons_succ.trans (List.getElem?_cons_succ.trans (List.getElem?_cons_zero))))))) (by kernel_rfl) (by kernel_rfl) (by kernel_rfl) (fun _ _ _ h => h) (Or.inl ⟨by rfl, ?_⟩) (by assumption) ?_
        rotate_left
        · intro w' hSw; (try dsimp only at hSw); go_simp; try with_reducible rfl
        try simp only [Act.put, List.setIfInBounds_toArray, List.set_cons_zero, List.set_cons_succ]
        refine wpAnyH_take (i := 6) (v := ?_) (List.getElem?_toArray.trans (List.getElem?_cons_succ.trans (List.getElem?_cons_succ.trans (List.getElem?_cons_succ.trans (List.getElem?_cons_succ.trans (List.getElem?_cons_succ.trans (List.getElem?_cons_succ.trans (List.getElem?_cons_zero)))))))) (by kernel_rfl) (by kernel_rfl) (by kernel_rfl) (fun _ _ _ h => h) (Or.inl ⟨by rfl, ?_⟩) (by assumption) ?_
        rotate_left
        · intro w' hSw; (try dsimp only at hSw); go_simp; try with_reducible rfl
        try simp only [Act.put, List.setIfInBounds_toArray, List.set_cons_zero, List.set_cons_succ]
        refine wpAnyH_take (i := 7) (v := ?_) (List.getElem?_toArray.trans (List.getElem?_cons_succ.trans (List.getElem?_cons_succ.trans (List.getElem?_cons_succ.trans (List.getElem?_cons_succ.trans (List.getElem?_cons_succ.trans (List.getElem?_cons_succ.trans (List.getElem?_cons_succ.trans (List.getElem?_cons_zero))))))))) (by kernel_rfl) (by kernel_rfl) (by kernel_rfl) (fun _ _ _ h => h) (Or.inl ⟨by rfl, ?_⟩) (by assumption) ?_
        rotate_left
        · intro w' hSw; (try dsimp only at hSw); go_simp; try with_reducible rfl
        try simp only [Act.put, List.setIfInBounds_toArray, List.set_cons_zero, List.set_cons_succ]
        refine wpAnyH_ready (rs := [4, 8]) (by kernel_rfl) (by simp) ?_
        refine AllReadyH.cons (List.getElem?_toArray.trans (List.getElem?_cons_succ.trans (List.getElem?_cons_succ.trans (List.getElem?_cons_succ.trans (List.getElem?_cons_succ.trans (List.getElem?_cons_zero)))))) (fun K hK => ?_) (AllReadyH.cons (List.getElem?_toArray.trans (List.getElem?_cons_succ.trans (List.getElem?_cons_succ.trans (List.getElem?_cons_succ.trans (List.getElem?_cons_succ.trans (List.getElem?_cons_succ.trans (List.getElem?_cons_succ.trans (List.getElem?_cons_succ.trans (List.getElem?_cons_succ.trans (List.getElem?_cons_zero)))))))))) (fun K hK => ?_) AllReadyH.nil)
        · rw [if_pos (by rfl)]
          refine wp_load_at 50 (.tmp 39) rfl g 0 rfl (wv S.list).toArray _ (Blk.part HS.out.2.2.1 (HV_ws _ _ _)) Tryd.underlying50 rfl words_info ?_
          refine hK.out _ _ trivial (fun hHeld => ?_)
          clear hK K
          try simp only [Act.put, List.setIfInBounds_toArray, List.set_cons_zero, List.set_cons_succ]
          refine wpAnyH_ready (rs := [8]) (by kernel_rfl) (by simp) ?_
          refine AllReadyH.cons (List.getElem?_toArray.trans (List.getElem?_cons_succ.trans (List.getElem?_cons_succ.trans (List.getElem?_cons_succ.trans (List.getElem?_cons_succ.trans (List.getElem?_cons_succ.trans (List.getElem?_cons_succ.trans (List.getElem?_cons_succ.trans (List.getElem?_cons_succ.trans (List.getElem?_cons_zero)))))))))) (fun K hK => ?_) AllReadyH.nil
          rw [if_pos (by rfl)]
          refine wp_load_at 51 (.tmp 43) rfl g 8 rfl (bv blk2).toArray _ (Blk.part HS.out.2.2.1 (HV_blk _ _ _ (St.list_length _))) Tryd.underlying51 rfl (by rw [List.size_toArray, bv_length, HM.out.1]; exact blk_info) ?_
          refine hK.out _ _ trivial (fun hHeld => ?_)
          clear hK K
          try simp only [Act.put, List.setIfInBounds_toArray, List.set_cons_zero, List.set_cons_succ]
          refine wpAnyH_ready (rs := [9]) (by kernel_rfl) (by simp) ?_
          refine AllReadyH.cons (List.getElem?_toArray.trans (List.getElem?_cons_succ.trans (List.getElem?_cons_succ.trans (List.getElem?_cons_succ.trans (List.getElem?_cons_succ.trans (List.getElem?_cons_succ.trans (List.getElem?_cons_succ.trans (List.getElem?_cons_succ.trans (List.getElem?_cons_succ.trans (List.getElem?_cons_succ.trans (List.getElem?_cons_zero))))))))))) (fun K hK => ?_) AllReadyH.nil
          go_simp
          refine (process_any S HS.out.1 blk2 HM.out.1 _ _ rfl rfl w3.drew HS.out.2.2.2).mono ?_
          rintro e' w5 ⟨rfl, hb5⟩
          have hb6 := HS.out.2.2.1.below hb5 HS.out.2.2.1.lt
          refine hK.out _ _ trivial (fun hHeld => ?_)
          clear hK K
          try simp only [Act.put, List.setIfInBounds_toArray, List.set_cons_zero, List.set_cons_succ]
          refine wpAnyH_take (i := 10) (v := ?_) (List.getElem?_toArray.trans (List.getElem?_cons_succ.trans (List.getElem?_cons_succ.trans (List.getElem?_cons_succ.trans (List.getElem?_cons_succ.trans (List.getElem?_cons_succ.trans (List.getElem?_cons_succ.trans (List.getElem?_cons_succ.trans (List.getElem?_cons_succ.trans (List.getElem?_cons_succ.trans (List.getElem?_cons_succ.trans (List.getElem?_cons_zero)))))))))))) (by kernel_rfl) (by kernel_rfl) (by kernel_rfl) (fun _ _ _ h => h) (Or.inl ⟨by rfl, ?_⟩) (by assumption) ?_
          rotate_left
          · intro w' hSw; (try dsimp only at hSw); go_simp; try with_reducible rfl
          try simp only [Act.put, List.setIfInBounds_toArray, List.set_cons_zero, List.set_cons_succ]
          refine wpAnyH_take (i := 11) (v := ?_) (List.getElem?_toArray.trans (List.getElem?_cons_succ.trans (List.getElem?_cons_succ.trans (List.getElem?_cons_succ.trans (List.getElem?_cons_succ.trans (List.getElem?_cons_succ.trans (List.getElem?_cons_succ.trans (List.getElem?_cons_succ.trans (List.getElem?_cons_succ.trans (List.getElem?_cons_succ.trans (List.getElem?_cons_succ.trans (List.getElem?_cons_succ.trans (List.getElem?_cons_zero))))))))))))) (by kernel_rfl) (by kernel_rfl) (by kernel_rfl) (fun _ _ _ h => h) (Or.inl ⟨by rfl, ?_⟩) (by assumption) ?_
          rotate_left
          · intro w' hSw; (try dsimp only at hSw); go_simp; try with_reducible rfl
          try simp only [Act.put, List.setIfInBounds_toArray, List.set_cons_zero, List.set_cons_succ]
          refine wpAnyH_ready (rs := [12]) (by kernel_rfl) (by simp) ?_
          refine AllReadyH.cons (List.getElem?_toArray.trans (List.getElem?_cons_succ.trans (List.getElem?_cons_succ.trans (List.getElem?_cons_succ.trans (List.getElem?_cons_succ.trans (List.getElem?_cons_succ.trans (List.getElem?_cons_succ.trans (List.getElem?_cons_succ.trans (List.getElem?_cons_succ.trans (List.getElem?_cons_succ.trans (List.getElem?_cons_succ.trans (List.getElem?_cons_succ.trans (List.getElem?_cons_succ.trans (List.getElem?_cons_zero)))))))))))))) (fun K hK => ?_) AllReadyH.nil
          rw [if_pos (by rfl)]
          refine wp_store_at 50 (.tmp 47) (.tmp 45) rfl g 0 (wv (S.block blk2).list) rfl rfl 53 (HV S.list blk2 nt) hb6 words_info (by rw [HV_length _ _ _ (St.list_length _) HM.out.1, wv_length, St.list_length]; omega) (wv_one _) ?_
          intro w6 hb7 hg7
          rw [HV_splice_ws _ _ _ _ (St.list_length _) (St.list_length _)] at hb7
          refine hK.out _ _ trivial (fun hHeld => ?_)
          clear hK K
          try simp only [Act.put, List.setIfInBounds_toArray, List.set_cons_zero, List.set_cons_succ]
          refine wpAnyH_done (by kernel_rfl) ?_ _
          go_wp2_with fail
          go_roundw
          case rel =>
            have hfl := step_full q (r.take t) blk2 (by rw [HR2.out.1, HE.out.1, HE.out.2.1]; exact hfull) HM.out.1 (by
              have h := HM.out.2
              rw [hfull, List.take_of_length_le (by rw [HM.out.1]; omega)] at h
              rw [HE.out.1]
              exact h)
            have hlen : (q ++ r.take t).length = nt := by rw [List.length_append, HR2.out.1, HE.out.1]; exact HE.out.2.2.1
            refine ⟨k + t, m2, c2, A2, r.drop t, by have := HE.out.2.2.2; omega, HR2.out.2.1, HR2.out.2.2, rfl, hmc2, HA2.out, ⟨blk2, ?_, HM.out.1, ?_⟩, only_trans (only_trans (only_drewN HB3'.out.2 1) (only_of_below hb5 _)) hg7⟩
            · rw [← HQ.out.1, hfl.2.2, hlen, HE.out.1, HS.out.2.1]
              exact hb7
            · rw [← HQ.out.1, hfl.2.1, hfl.1, HE.out.1, List.take_zero, List.drop_eq_nil_of_le]
              rw [hlen]
              have h1 := HE.out.2.1
              have h3 := HE.out.2.2.1
              omega
          case measure => simp [lenV]; omega
        · rw [if_pos (by rfl)]
          refine wp_load_at 51 (.tmp 43) rfl g 8 rfl (bv blk2).toArray _ (Blk.part HS.out.2.2.1 (HV_blk _ _ _ (St.list_length _))) Tryd.underlying51 rfl (by rw [List.size_toArray, bv_length, HM.out.1]; exact blk_info) ?_
          refine hK.out _ _ trivial (fun hHeld => ?_)
          clear hK K
          try simp only [Act.put, List.setIfInBounds_toArray, List.set_cons_zero, List.set_cons_succ]
          refine wpAnyH_ready (rs := [4]) (by kernel_rfl) (by simp) ?_
          refine AllReadyH.cons (List.getElem?_toArray.trans (List.getElem?_cons_succ.trans (List.getElem?_cons_succ.trans (List.getElem?_cons_succ.trans (List.getElem?_cons_succ.trans (List.getElem?_cons_zero)))))) (fun K hK => ?_) AllReadyH.nil
          rw [if_pos (by rfl)]
          refine wp_load_at 50 (.tmp 39) rfl g 0 rfl (wv S.list).toArray _ (Blk.part HS.out.2.2.1 (HV_ws _ _ _)) Tryd.underlying50 rfl words_info ?_
          refine hK.out _ _ trivial (fun hHeld => ?_)
          clear hK K
          try simp only [Act.put, List.setIfInBounds_toArray, List.set_cons_zero, List.set_cons_succ]
          refine wpAnyH_ready (rs := [9]) (by kernel_rfl) (by simp) ?_
          refine AllReadyH.cons (List.getElem?_toArray.trans (List.getElem?_cons_succ.trans (List.getElem?_cons_succ.trans (List.getElem?_cons_succ.trans (List.getElem?_cons_succ.trans (List.getElem?_cons_succ.trans (List.getElem?_cons_succ.trans (List.getElem?_cons_succ.trans (List.getElem?_cons_succ.trans (List.getElem?_cons_succ.trans (List.getElem?_cons_zero))))))))))) (fun K hK => ?_) AllReadyH.nil
          go_simp
          refine (process_any S HS.out.1 blk2 HM.out.1 _ _ rfl rfl w3.drew HS.out.2.2.2).mono ?_
          rintro e' w5 ⟨rfl, hb5⟩
          have hb6 := HS.out.2.2.1.below hb5 HS.out.2.2.1.lt
          refine hK.out _ _ trivial (fun hHeld => ?_)
          clear hK K
          try simp only [Act.put, List.setIfInBounds_toArray, List.set_cons_zero, List.set_cons_succ]
          refine wpAnyH_take (i := 10) (v := ?_) (List.getElem?_toArray.trans (List.getElem?_cons_succ.trans (List.getElem?_cons_succ.trans (List.getElem?_cons_succ.trans (List.getElem?_cons_succ.trans (List.getElem?_cons_succ.trans (List.getElem?_cons_succ.trans (List.getElem?_cons_succ.trans (List.getElem?_cons_succ.trans (List.getElem?_cons_succ.trans (List.getElem?_cons_succ.trans (List.getElem?_cons_zero)))))))))))) (by kernel_rfl) (by kernel_rfl) (by kernel_rfl) (fun _ _ _ h => h) (Or.inl ⟨by rfl, ?_⟩) (by assumption) ?_
          rotate_left
          · intro w' hSw; (try dsimp only at hSw); go_simp; try with_reducible rfl
          try simp only [Act.put, List.setIfInBounds_toArray, List.set_cons_zero, List.set_cons_succ]
          refine wpAnyH_take (i := 11) (v := ?_) (List.getElem?_toArray.trans (List.getElem?_cons_succ.trans (List.getElem?_cons_succ.trans (List.getElem?_cons_succ.trans (List.getElem?_cons_succ.trans (List.getElem?_cons_succ.trans (List.getElem?_cons_succ.trans (List.getElem?_cons_succ.trans (List.getElem?_cons_succ.trans (List.getElem?_cons_succ.trans (List.getElem?_cons_succ.trans (List.getElem?_cons_succ.trans (List.getElem?_cons_zero))))))))))))) (by kernel_rfl) (by kernel_rfl) (by kernel_rfl) (fun _ _ _ h => h) (Or.inl ⟨by rfl, ?_⟩) (by assumption) ?_
          rotate_left
          · intro w' hSw; (try dsimp only at hSw); go_simp; try with_reducible rfl
          try simp only [Act.put, List.setIfInBounds_toArray, List.set_cons_zero, List.set_cons_succ]
          refine wpAnyH_ready (rs := [12]) (by kernel_rfl) (by simp) ?_
          refine AllReadyH.cons (List.getElem?_toArray.trans (List.getElem?_cons_succ.trans (List.getElem?_cons_succ.trans (List.getElem?_cons_succ.trans (List.getElem?_cons_succ.trans (List.getElem?_cons_succ.trans (List.getElem?_cons_succ.trans (List.getElem?_cons_succ.trans (List.getElem?_cons_succ.trans (List.getElem?_cons_succ.trans (List.getElem?_cons_succ.trans (List.getElem?_cons_succ.trans (List.getElem?_cons_succ.trans (List.getElem?_cons_zero)))))))))))))) (fun K hK => ?_) AllReadyH.nil
          rw [if_pos (by rfl)]
          refine wp_store_at 50 (.tmp 47) (.tmp 45) rfl g 0 (wv (S.block blk2).list) rfl rfl 53 (HV S.list blk2 nt) hb6 words_info (by rw [HV_length _ _ _ (St.list_length _) HM.out.1, wv_length, St.list_length]; omega) (wv_one _) ?_
          intro w6 hb7 hg7
          rw [HV_splice_ws _ _ _ _ (St.list_length _) (St.list_length _)] at hb7
          refine hK.out _ _ trivial (fun hHeld => ?_)
          clear hK K
          try simp only [Act.put, List.setIfInBounds_toArray, List.set_cons_zero, List.set_cons_succ]
          refine wpAnyH_done (by kernel_rfl) ?_ _
          go_wp2_with fail
          go_roundw
          case rel =>
            have hfl := step_full q (r.take t) blk2 (by rw [HR2.out.1, HE.out.1, HE.out.2.1]; exact hfull) HM.out.1 (by
              have h := HM.out.2
              rw [hfull, List.take_of_length_le (by rw [HM.out.1]; omega)] at h
              rw [HE.out.1]
              exact h)
            have hlen : (q ++ r.take t).length = nt := by rw [List.length_append, HR2.out.1, HE.out.1]; exact HE.out.2.2.1
            refine ⟨k + t, m2, c2, A2, r.drop t, by have := HE.out.2.2.2; omega, HR2.out.2.1, HR2.out.2.2, rfl, hmc2, HA2.out, ⟨blk2, ?_, HM.out.1, ?_⟩, only_trans (only_trans (only_drewN HB3'.out.2 1) (only_of_below hb5 _)) hg7⟩
            · rw [← HQ.out.1, hfl.2.2, hlen, HE.out.1, HS.out.2.1]
              exact hb7
            · rw [← HQ.out.1, hfl.2.1, hfl.1, HE.out.1, List.take_zero, List.drop_eq_nil_of_le]
              rw [hlen]
              have h1 := HE.out.2.1
              have h3 := HE.out.2.2.1
              omega
          case measure => simp [lenV]; omega
      · obtain ⟨f2, ef2⟩ : ∃ x, f + t = x := ⟨_, rfl⟩
        have c1 : (nt : Int) % 64 = (f2 : Int) := by have := HE.out; omega
        have c1' : (nt : Int).tmod 64 = (f2 : Int) := by rw [Int.tmod_eq_emod_of_nonneg (by omega)]; exact c1
        have d2 : ¬ ((f2 : Int) = 0) := by omega
        have d2' : ¬ (f2 = 0) := by omega
        have HF2 := Lib.hid ef2
        clear ef2
        go_wp2_with fail
        go_roundw
        case rel =>
          have hs := step_short q (r.take t) (by rw [HR2.out.1, HE.out.1, HE.out.2.1]; have := HF2.out; omega)
          refine ⟨k + t, m2, c2, A2, r.drop t, by have := HE.out.2.2.2; omega, HR2.out.2.1, HR2.out.2.2, rfl, hmc2, HA2.out, ⟨blk2, ?_, HM.out.1, ?_⟩, HB3'.out.2⟩
          · rw [← HQ.out.1, hs.2.2, HE.out.1]
            have hlen : (q ++ r.take t).length = nt := by rw [List.length_append, HR2.out.1, HE.out.1]; exact HE.out.2.2.1
            rw [hlen]
            exact HB3'.out.1
          · rw [← HQ.out.1, hs.1, hs.2.1, HR2.out.1, HE.out.1, HE.out.2.1]
            exact HM.out.2
        case measure => simp [lenV]; omega
end Go.Proofs.YtjhkoepcolpclaaDoor
