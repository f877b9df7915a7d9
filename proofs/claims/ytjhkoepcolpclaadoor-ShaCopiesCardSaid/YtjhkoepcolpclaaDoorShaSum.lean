/-
  A Hash's Sum, package sha's Sum, and the laws' few, by their contracts. Conditions: the tables read as the program's text lays them; each theorem's own premises.
-/
import Derived.Test.YtjhkoepcolpclaaDoorShaEnc
import Derived.Test.YtjhkoepcolpclaaDoorShaWr
namespace Go.Proofs.YtjhkoepcolpclaaDoor
open Go.RowKit

theorem Blk.bs {w : World} {g B : Nat} {t : TypeId} {l : List UInt8} (h : Blk w g t (bv l).toArray) (hB : g < B) : Bs w B (some ⟨g, 0, none⟩) l := fun _ =>
  ⟨g, 0, rfl, hB, fun j hj => by rw [Nat.zero_add, h.cell, List.getElem?_toArray]; exact bv_get hj⟩
theorem Has.cell {w : World} {g : Nat} {l : List UInt8} (h : Has w g l) : w.cell? ⟨g, 72, none⟩ = some (.int .i64 (l.length : Int)) := by
  obtain ⟨blk, hb, h64, _⟩ := h
  rw [hb.cell, List.getElem?_toArray]
  exact HV_n _ _ _ (St.list_length _) h64
theorem sha_is (l : List UInt8) : sha l = digest (shaH.take ((l ++ tailB l.length).length / 64) (l ++ tailB l.length)) := by rw [sha, padded_tail]

set_option maxRecDepth 100000 in
set_option maxHeartbeats 4000000 in
set_option linter.unusedSimpArgs false in
theorem hashSum_any (g : Nat) (l : List UInt8) (w : World) (hh : Has w g l) (ht : Tabs w) (hl : l.length ≤ 1152921504606846976) :
    Calls Tryd.prog 19 #[.pointer (some ⟨g, 0, none⟩)] w fun e w' => e = .returned (.agg (bv (sha l)).toArray) ∧ Below w.heap.size w w' := by
  have HH := Lib.hid hh
  have HT := Lib.hid ht
  have HL := Lib.hid hl
  obtain ⟨n, en⟩ : ∃ n, l.length = n := ⟨_, rfl⟩
  have HN := Lib.hid en
  clear hh ht hl en
  go_enter Tryd.func19, Tryd.ntmps19
  go_wp2_with (first
    | (refine wpList_alloc rfl 24 rfl _ arr32_zero ?_; intro w1 hb1 hw1 hz1; refine stopped ?_)
    | fail)
  have HZ1 := Lib.hid hz1
  obtain ⟨gr, egr⟩ : ∃ g, w.heap.size = g := ⟨_, rfl⟩
  have HGR := Lib.hid egr
  rw [egr] at hb1 ⊢
  have H1 := Lib.hid (And.intro hb1 hw1)
  clear hb1 hw1 hz1 egr
  refine go_on ?_
  go_wp2_with fail
  have hg1 : g < w1.heap.size := Nat.lt_of_lt_of_le HH.out.lt H1.out.2.size
  refine (copy_any g l w1 (HH.out.below H1.out.2 HH.out.lt)).mono ?_
  rintro e w2 ⟨rfl, hh2, hw2⟩
  obtain ⟨g1, eg1⟩ : ∃ g, w1.heap.size = g := ⟨_, rfl⟩
  rw [eg1] at hh2 ⊢
  have hs2 := hw2.size
  have hc2 : w2.cell? ⟨g, 72, none⟩ = some (.int .i64 (n : Int)) := by
    have := ((HH.out.below H1.out.2 HH.out.lt).below hw2 hg1).cell
    rwa [HN.out] at this
  have H2 := Lib.hid (And.intro hh2 (And.intro hw2 (And.intro eg1 hs2)))
  clear hh2 hw2 eg1 hg1 hs2
  go_wp2_with fail
  have hlt : (tailB n).length ≤ 128 := by rw [tailB_length]; unfold padZ; omega
  refine (ending_any n (by have := HL.out; have := HN.out; omega) w2).mono ?_
  rintro e w3 ⟨rfl, hb3, hw3⟩
  have hs3 := hw3.size
  obtain ⟨m, em⟩ : ∃ m, (tailB n).length = m := ⟨_, rfl⟩
  rw [em] at hlt ⊢
  obtain ⟨g2, eg2⟩ : ∃ g, w2.heap.size = g := ⟨_, rfl⟩
  rw [eg2] at hb3 ⊢
  have H3 := Lib.hid (And.intro hb3 (And.intro hw3 (And.intro hs3 (And.intro eg2 (And.intro em hlt)))))
  clear hb3 hw3 hs3 eg2 em hlt hc2
  go_wp2_with fail
  have ht3 : Tabs w3 := ((HT.out.on H1.out.2 (Nat.le_refl _)).on H2.out.2.1 (Nat.le_refl _)).on H3.out.2.1 (Nat.le_refl _)
  have hgg : g1 < g2 := by have h1 := H2.out.1.lt; have h2 := H3.out.2.2.2.1; omega
  have hwr := write_any g1 l (tailB n) (some ⟨g2, 0, none⟩) m (g2 + 1) w3 (H2.out.1.below H3.out.2.1 H2.out.1.lt)
    (by have := HT.out.two; have := H1.out.2.size; have := H2.out.2.2.1; omega) ht3 (fun w' hw' => (H3.out.1.grown hw' (some_neq (by omega))).bs (by omega)) (by rw [H3.out.2.2.2.2.1]; exact Nat.le_refl _) (by have := HL.out; have := H3.out.2.2.2.2; omega)
  rw [H3.out.2.2.2.2.1] at hwr
  refine hwr.mono ?_
  rintro e w4 ⟨rfl, ⟨blk, hb4, h64, _⟩, hg4⟩
  obtain ⟨S, eS⟩ : ∃ S, shaH.take ((l ++ tailB n).length / 64) (l ++ tailB n) = S := ⟨_, rfl⟩
  have hok : S.okB := by rw [← eS]; exact St.take_ok shaH_ok _ _
  have hS : sha l = digest S := by rw [sha_is, HN.out, eS]
  obtain ⟨N, eN⟩ : ∃ N, (l ++ tailB n).length = N := ⟨_, rfl⟩
  rw [eS, eN] at hb4
  have hs4 := hg4.size
  have H4 := Lib.hid (And.intro hb4 (And.intro hg4 (And.intro hok (And.intro hS hs4))))
  have HGG := Lib.hid hgg
  clear hwr hb4 hg4 hok hS eS eN ht3 hgg h64 hs4
  go_wp2_with (first | (with_reducible refine at_load 50 ?_; refine stopped ?_) | fail)
  refine go_on ?_
  refine wpList_load_at rfl 50 (.tmp 15) rfl g1 0 rfl (wv S.list).toArray _ (Blk.part H4.out.1 (HV_ws _ _ _)) Tryd.underlying50 rfl words_info ?_
  simp only [Act.put, List.setIfInBounds_toArray, List.set_cons_zero, List.set_cons_succ]
  go_wp2_with fail
  refine (encode_any S H4.out.2.2.1 _ rfl w4).mono ?_
  rintro e w5 ⟨rfl, hw5⟩
  have hr1 := HGR.out
  have hz1 := HZ1.out
  have hs2 := H2.out.2.2.2
  have hs3 := H3.out.2.2.1
  have hs4 := H4.out.2.2.2.2
  have he1 := H2.out.2.2.1
  have he2 := H3.out.2.2.2.1
  have hres : Blk w5 gr 24 (bv (List.replicate 32 0)).toArray := (((H1.out.1.below H2.out.2.1 (by omega)).below H3.out.2.1 (by omega)).grown H4.out.2.1 (some_neq (by omega))).below hw5 (by omega)
  have hbel : Below w.heap.size w w5 := H1.out.2.trans ((H2.out.2.1.mono (by omega)).trans ((H3.out.2.1.mono (by omega)).trans ((only_below H4.out.2.1 (by omega) (fun g' e => by cases e; omega)).trans (hw5.mono (by omega)))))
  obtain ⟨F, eF⟩ : ∃ F, digest S = F := ⟨_, rfl⟩
  have hFl : (bv F).length = 32 := by rw [bv_length, ← eF, digest_length]
  have hFi : (Tryd.prog.info? 24).map (·.size) = some (bv F).length := by rw [hFl]; exact arr32_info
  rw [eF]
  have hgr : w.heap.size ≤ gr := by omega
  have hsz5 : w.heap.size ≤ w5.heap.size := hbel.size
  have HR := Lib.hid (And.intro hres (And.intro hbel (And.intro hFl (And.intro hFi (And.intro hgr hsz5)))))
  clear hr1 hz1 hs2 hs3 hs4 he1 he2 hres hbel hFl hFi hgr hsz5
  go_wp2_with (first | (with_reducible refine at_store 24 ?_; refine stopped ?_) | fail)
  refine go_on ?_
  refine wpList_store_whole rfl 24 (.tmp 2) (.tmp 17) rfl gr (bv F) rfl rfl 24 (bv (List.replicate 32 0)) HR.out.1 HR.out.2.2.2.1 (by rw [HR.out.2.2.1]; rfl) (by intro u hu; exact bv_one _ u hu) ?_
  intro w10 hb10 hg10
  simp only [Act.put, List.setIfInBounds_toArray, List.set_cons_zero, List.set_cons_succ]
  refine wpList_nil ?_
  repeat (first | go_values | go_skip | go_guarded | go_step)
  refine bodyPost_row rfl gr rfl 24 _ _ hb10 Tryd.underlying24 rfl (by rw [List.size_toArray]; exact HR.out.2.2.2.1) rfl ⟨by rw [H4.out.2.2.2.1, eF], ?_⟩
  exact HR.out.2.1.trans (only_below hg10 HR.out.2.2.2.2.2 (fun g' e => by cases e; exact HR.out.2.2.2.2.1))

theorem few_any (A : Option Addr) (l : List UInt8) (c : Nat) (w : World) (hc : l.length ≤ c) (hl : l.length ≤ 9223372036854775807) :
    Calls Tryd.prog 8 #[.slice A l.length c] w fun e w' => e = .returned (.slice A (l.take 2000).length c) ∧ w = w' := by
  obtain ⟨n, en⟩ : ∃ n, l.length = n := ⟨_, rfl⟩
  rw [List.length_take]
  rw [en] at hc hl ⊢
  by_cases h : 2000 < n
  · have hm : min 2000 n = 2000 := by omega
    rw [hm]
    have h1 : (2000 : Int) < (n : Int) := by omega
    have h2 : (2000 : Int) ≤ (c : Int) := by omega
    have h3 : ¬ c = 0 := by omega
    go_enter Tryd.func8, Tryd.ntmps8
    go_wp2_with fail
    go_ret
    exact ⟨rfl, rfl⟩
  · have hm : min 2000 n = n := by omega
    rw [hm]
    have h1 : ¬ (2000 : Int) < (n : Int) := by omega
    go_enter Tryd.func8, Tryd.ntmps8
    go_wp2_with fail
    go_ret
    exact ⟨rfl, rfl⟩
end Go.Proofs.YtjhkoepcolpclaaDoor
