/-
  Package sha's Sum, by its contract. Conditions: the tables read as the program's text lays them; the theorem's own premises.
-/
import Derived.Test.YtjhkoepcolpclaaDoorShaSum
namespace Go.Proofs.YtjhkoepcolpclaaDoor
open Go.RowKit

set_option maxRecDepth 100000 in
set_option maxHeartbeats 4000000 in
set_option linter.unusedSimpArgs false in
theorem sum_any (A : Option Addr) (l : List UInt8) (n c : Nat) (w : World) (hn : l.length = n) (ht : Tabs w) (hb : Bs w w.heap.size A l) (hc : n ≤ c) (hl : n ≤ 1152921504606846976) :
    Calls Tryd.prog 9 #[.slice A n c] w fun e w' => e = .returned (.agg (bv (sha l)).toArray) ∧ Below w.heap.size w w' := by
  have HT := Lib.hid ht
  have HB := Lib.hid hb
  have HN := Lib.hid hn
  clear ht hb hn
  go_enter Tryd.func9, Tryd.ntmps9
  go_wp2_with (first
    | (refine wpList_alloc rfl 24 rfl _ arr32_zero ?_; intro w1 hb1 hw1 hz1; refine stopped ?_)
    | fail)
  have HZ1 := Lib.hid hz1
  obtain ⟨gr, egr⟩ : ∃ g, w.heap.size = g := ⟨_, rfl⟩
  have HGR := Lib.hid egr
  rw [egr] at hb1 ⊢
  have H1 := Lib.hid (And.intro hb1 hw1)
  clear hb1 hw1 hz1 egr
  refine go_on ?_
  go_wp2_with fail
  refine (new_any w1 (HT.out.on H1.out.2 (Nat.le_refl _))).mono ?_
  rintro e w2 ⟨rfl, hh2, hw2⟩
  obtain ⟨g1, eg1⟩ : ∃ g, w1.heap.size = g := ⟨_, rfl⟩
  rw [eg1] at hh2 ⊢
  have hs2 := hw2.size
  have H2 := Lib.hid (And.intro hh2 (And.intro hw2 (And.intro eg1 hs2)))
  clear hh2 hw2 eg1 hs2
  go_wp2_with fail
  have ht2 : Tabs w2 := (HT.out.on H1.out.2 (Nat.le_refl _)).on H2.out.2.1 (Nat.le_refl _)
  have hwr := write_any g1 [] l A c w.heap.size w2 H2.out.1 (by have := HT.out.two; have := H1.out.2.size; have := H2.out.2.2.1; omega) ht2
    (fun w' hw' => ((HB.out.below H1.out.2).below (H2.out.2.1.mono (by have := H1.out.2.size; omega))).grown hw' (by have h1 := H1.out.2.size; have h2 := H2.out.2.1.size; omega) (fun g e => by cases e; have h1 := H1.out.2.size; have h2 := H2.out.2.2.1; omega))
    (by rw [HN.out]; exact hc) (by rw [HN.out]; simp; omega)
  rw [HN.out] at hwr
  refine hwr.mono ?_
  rintro e w3 ⟨rfl, hh3, hg3⟩
  rw [List.nil_append] at hh3
  have ht3 : Tabs w3 := ht2.grown hg3 (by have := HT.out.two; have := H1.out.2.size; have := H2.out.2.2.1; omega)
  have hs3 := hg3.size
  have H3 := Lib.hid (And.intro hh3 (And.intro hg3 (And.intro ht3 hs3)))
  clear hh3 hg3 ht3 hs3 ht2 hwr
  go_wp2_with fail
  refine (hashSum_any g1 l w3 H3.out.1 H3.out.2.2.1 (by rw [HN.out]; exact hl)).mono ?_
  rintro e w5 ⟨rfl, hw5⟩
  have hr1 := HGR.out
  have hz1 := HZ1.out
  have hs2 := H2.out.2.2.2
  have hs3 := H3.out.2.2.2
  have he1 := H2.out.2.2.1
  have hres : Blk w5 gr 24 (bv (List.replicate 32 0)).toArray := ((H1.out.1.below H2.out.2.1 (by omega)).grown H3.out.2.1 (some_neq (by omega))).below hw5 (by omega)
  have hbel : Below w.heap.size w w5 := H1.out.2.trans ((H2.out.2.1.mono (by omega)).trans ((only_below H3.out.2.1 (by omega) (fun g' e => by cases e; omega)).trans (hw5.mono (by omega))))
  obtain ⟨F, eF⟩ : ∃ F, sha l = F := ⟨_, rfl⟩
  have hFl : (bv F).length = 32 := by rw [bv_length, ← eF, sha_length]
  have hFi : (Tryd.prog.info? 24).map (·.size) = some (bv F).length := by rw [hFl]; exact arr32_info
  rw [eF]
  have hgr : w.heap.size ≤ gr := by omega
  have hsz5 : w.heap.size ≤ w5.heap.size := hbel.size
  have HR := Lib.hid (And.intro hres (And.intro hbel (And.intro hFl (And.intro hFi (And.intro hgr hsz5)))))
  clear hr1 hz1 hs2 hs3 he1 hres hbel hFl hFi hgr hsz5
  go_wp2_with (first | (with_reducible refine at_store 24 ?_; refine stopped ?_) | fail)
  refine go_on ?_
  refine wpList_store_whole rfl 24 (.tmp 2) (.tmp 9) rfl gr (bv F) rfl rfl 24 (bv (List.replicate 32 0)) HR.out.1 HR.out.2.2.2.1 (by rw [HR.out.2.2.1]; rfl) (by intro u hu; exact bv_one _ u hu) ?_
  intro w10 hb10 hg10
  simp only [Act.put, List.setIfInBounds_toArray, List.set_cons_zero, List.set_cons_succ]
  refine wpList_nil ?_
  repeat (first | go_values | go_skip | go_guarded | go_step)
  refine bodyPost_row rfl gr rfl 24 _ _ hb10 Tryd.underlying24 rfl (by rw [List.size_toArray]; exact HR.out.2.2.2.1) rfl ⟨by rw [eF], ?_⟩
  exact HR.out.2.1.trans (only_below hg10 HR.out.2.2.2.2.2 (fun g' e => by cases e; exact HR.out.2.2.2.2.1))
end Go.Proofs.YtjhkoepcolpclaaDoor
