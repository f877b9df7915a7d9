/-
  ShaCopies: the law answers true and turns nothing that was there. Conditions: the tables read as the program's text lays them; the theorem's own premises.
-/
import Derived.Test.YtjhkoepcolpclaaDoorShaHexes
import Derived.Test.YtjhkoepcolpclaaDoorOctetMk
namespace Go.Proofs.YtjhkoepcolpclaaDoor
open Go.RowKit

theorem few_pack (A : Option Addr) (l : List UInt8) (c : Nat) (w : World) (hb : Bs w w.heap.size A l) (hc : l.length ≤ c) (hl : l.length ≤ 9223372036854775807) :
    ∃ (m : List UInt8) (n ln : Nat), l.length = ln ∧ m.length = n ∧ n ≤ 2000 ∧ n ≤ c ∧ Bs w w.heap.size A m ∧ ∀ w0, Calls Tryd.prog 8 #[.slice A ln c] w0 fun e w' => e = .returned (.slice A n c) ∧ w0 = w' :=
  ⟨l.take 2000, _, _, rfl, rfl, by simp; omega, by simp; omega, hb.take_ _, fun w0 => few_any A l c w0 hc hl⟩
def CopS (w : World) (gh gx g9 g10 : Nat) (hb xb : List UInt8) (U V : List Value) (w' : World) : Prop :=
  Has w' gh hb ∧ Has w' gx xb ∧ Blk w' g9 24 U.toArray ∧ Blk w' g10 24 V.toArray ∧ Tabs w' ∧ Below w.heap.size w w'
theorem CopS.on {w w1 w2 : World} {gh gx g9 g10 : Nat} {hb xb : List UInt8} {U V : List Value} (h : CopS w gh gx g9 g10 hb xb U V w1) (hbl : Below w1.heap.size w1 w2) : CopS w gh gx g9 g10 hb xb U V w2 :=
  ⟨h.1.below hbl h.1.lt, h.2.1.below hbl h.2.1.lt, h.2.2.1.below hbl h.2.2.1.lt, h.2.2.2.1.below hbl h.2.2.2.1.lt, h.2.2.2.2.1.on hbl (Nat.le_refl _), h.2.2.2.2.2.trans (hbl.mono h.2.2.2.2.2.size)⟩

set_option maxRecDepth 100000 in
set_option maxHeartbeats 4000000 in
set_option linter.unusedSimpArgs false in
theorem shaCopies_calls (A0 A1 A2 : Option Addr) (l0 l1 l2 : List UInt8) (c0 c1 c2 : Nat) (w : World) (hb0 : Bs w w.heap.size A0 l0) (hb1 : Bs w w.heap.size A1 l1) (hb2 : Bs w w.heap.size A2 l2) (hc0 : l0.length ≤ c0) (hc1 : l1.length ≤ c1) (hc2 : l2.length ≤ c2)
    (hl0 : l0.length ≤ 9223372036854775807) (hl1 : l1.length ≤ 9223372036854775807) (hl2 : l2.length ≤ 9223372036854775807) (ht : Tabs w) :
    Calls Tryd.prog 7 #[.slice A0 l0.length c0, .slice A1 l1.length c1, .slice A2 l2.length c2] w fun ev w' => ev = .returned (.bool true) ∧ Below w.heap.size w w' := by
  obtain ⟨i0, hi0, hz0, hz1, hz2⟩ := info_parts u8info
  obtain ⟨a, na, la, e0, ea, ha2, hac, hab, hfa⟩ := few_pack A0 l0 c0 w hb0 hc0 hl0
  obtain ⟨b, nb, lb, e1, eb, hb2', hbc, hbb, hfb⟩ := few_pack A1 l1 c1 w hb1 hc1 hl1
  obtain ⟨c, nc, lc, e2, ec, hc2', hcc, hcb, hfc⟩ := few_pack A2 l2 c2 w hb2 hc2 hl2
  rw [e0, e1, e2]
  have HF := Lib.hid (And.intro hfa (And.intro hfb hfc))
  have HA := Lib.hid (And.intro ea (And.intro ha2 (And.intro hac hab)))
  have HB := Lib.hid (And.intro eb (And.intro hb2' (And.intro hbc hbb)))
  have HC := Lib.hid (And.intro ec (And.intro hc2' (And.intro hcc hcb)))
  have HT := Lib.hid ht
  clear e0 e1 e2 ea ha2 hac hab hfa eb hb2' hbc hbb hfb ec hc2' hcc hcb hfc hb0 hb1 hb2 hc0 hc1 hc2 hl0 hl1 hl2 ht
  go_enter Tryd.func7, Tryd.ntmps7
  go_wp2_with fail
  refine (HF.out.1 _).mono ?_
  rintro e w' ⟨rfl, rfl⟩
  go_wp2_with fail
  refine (HF.out.2.1 _).mono ?_
  rintro e w' ⟨rfl, rfl⟩
  go_wp2_with fail
  refine (HF.out.2.2 _).mono ?_
  rintro e w' ⟨rfl, rfl⟩
  clear HF
  go_wp2_with fail
  refine (new_any w HT.out).mono ?_
  rintro e w1 ⟨rfl, hh1, hw1⟩
  have h2 := HT.out.two
  obtain ⟨gh, egh⟩ : ∃ g, w.heap.size = g := ⟨_, rfl⟩
  rw [egh] at hh1 ⊢
  have H1 := Lib.hid (And.intro hh1 (And.intro hw1 (And.intro (HT.out.on hw1 (Nat.le_refl _)) (And.intro egh h2))))
  clear hh1 hw1 egh h2
  go_wp2_with fail
  have hwr := write_any gh [] a A0 c0 w.heap.size w1 H1.out.1 (by have := H1.out.2.2.2; omega) H1.out.2.2.1 (fun w' hw' => (HA.out.2.2.2.below H1.out.2.1).grown hw' H1.out.2.1.size (fun g e => by cases e; exact Nat.le_of_eq H1.out.2.2.2.1)) (by rw [HA.out.1]; exact HA.out.2.2.1) (by have := HA.out.1; have := HA.out.2.1; simp; omega)
  rw [HA.out.1, List.nil_append] at hwr
  refine hwr.mono ?_
  rintro e w2 ⟨rfl, hh2, hg2⟩
  have H2 := Lib.hid (And.intro hh2 (And.intro (H1.out.2.1.trans (only_below hg2 H1.out.2.1.size (fun g e => by cases e; exact Nat.le_of_eq H1.out.2.2.2.1))) (H1.out.2.2.1.grown hg2 (by have := H1.out.2.2.2; omega))))
  clear hwr hh2 hg2
  go_wp2_with fail
  refine (copy_any gh a w2 H2.out.1).mono ?_
  rintro e w3 ⟨rfl, hx3, hw3⟩
  obtain ⟨gx, egx⟩ : ∃ g, w2.heap.size = g := ⟨_, rfl⟩
  have hne : gh < gx := by rw [← egx]; exact H2.out.1.lt
  have hb3 : Below w.heap.size w w3 := H2.out.2.1.trans (hw3.mono H2.out.2.1.size)
  have hh3 := H2.out.1.below hw3 H2.out.1.lt
  have ht3 := H2.out.2.2.on hw3 (Nat.le_refl _)
  rw [egx] at hx3 ⊢
  have hgx : w.heap.size ≤ gx := by rw [← egx]; exact H2.out.2.1.size
  have H3 := Lib.hid (And.intro hh3 (And.intro hx3 (And.intro hb3 (And.intro ht3 (And.intro hne hgx)))))
  clear hx3 hw3 egx hne hb3 hh3 ht3 hgx
  go_wp2_with fail
  have hwr := write_any gh a b A1 c1 w.heap.size w3 H3.out.1 (by have := H1.out.2.2.2; omega) H3.out.2.2.2.1 (fun w' hw' => (HB.out.2.2.2.below H3.out.2.2.1).grown hw' H3.out.2.2.1.size (fun g e => by cases e; exact Nat.le_of_eq H1.out.2.2.2.1)) (by rw [HB.out.1]; exact HB.out.2.2.1) (by have := HA.out.1; have := HA.out.2.1; have := HB.out.1; have := HB.out.2.1; omega)
  rw [HB.out.1] at hwr
  refine hwr.mono ?_
  rintro e w4 ⟨rfl, hh4, hg4⟩
  have H4 := Lib.hid (And.intro hh4 (And.intro (H3.out.2.1.grown hg4 (some_neq (by have := H3.out.2.2.2.2.1; omega))) (And.intro (H3.out.2.2.1.trans (only_below hg4 H3.out.2.2.1.size (fun g e => by cases e; exact Nat.le_of_eq H1.out.2.2.2.1))) (H3.out.2.2.2.1.grown hg4 (by have := H1.out.2.2.2; omega)))))
  clear hwr hh4 hg4
  go_wp2_with fail
  have hwr := write_any gx a c A2 c2 w.heap.size w4 H4.out.2.1 (by have := H1.out.2.2.2; have := H3.out.2.2.2.2; omega) H4.out.2.2.2 (fun w' hw' => (HC.out.2.2.2.below H4.out.2.2.1).grown hw' H4.out.2.2.1.size (fun g e => by cases e; exact H3.out.2.2.2.2.2)) (by rw [HC.out.1]; exact HC.out.2.2.1) (by have := HA.out.1; have := HA.out.2.1; have := HC.out.1; have := HC.out.2.1; omega)
  rw [HC.out.1] at hwr
  refine hwr.mono ?_
  rintro e w5 ⟨rfl, hx5, hg5⟩
  have H5 := Lib.hid (And.intro (H4.out.1.grown hg5 (some_neq (by have := H3.out.2.2.2.2.1; omega))) (And.intro hx5 (And.intro (H4.out.2.2.1.trans (only_below hg5 H4.out.2.2.1.size (fun g e => by cases e; exact H3.out.2.2.2.2.2))) (H4.out.2.2.2.grown hg5 (by have := H1.out.2.2.2; have := H3.out.2.2.2.2; omega)))))
  clear hwr hx5 hg5
  go_wp2_with (first
    | (at_builtin; refine wpList_append_bytes_n _ rfl (.tmp 29) (.tmp 30) 22 rfl w5.heap.size 5 i0 (.int .u8 0) Tryd.underlying22 hi0 hz0 hz1 hz2 rfl (.slice (some ⟨w5.heap.size, 0, none⟩) 0 0) ([]) rfl (Own.empty w5 _ _ (Nat.le_refl _)) w.heap.size A0 c0 na a HA.out.1 rfl ((HA.out.2.2.2.below H5.out.2.2.1).alloc H5.out.2.2.1.size _) (by have := HA.out.1; have := HA.out.2.1; simp; omega) (by simp) ?_; intro v6 w6 hown6 hg6 _; refine stopped ?_)
    | fail)
  refine go_on ?_
  have hbel6 : Below w5.heap.size w5 w6 := ((Below.refl _ _).alloc (Nat.le_refl _) _).grown hg6 (by simp) (fun k hk => by simp [Value.ownBlock] at hk; subst hk; exact Nat.le_refl _)
  rw [List.nil_append] at hown6
  have hwb6 : Below w.heap.size w w6 := H5.out.2.2.1.trans (hbel6.mono H5.out.2.2.1.size)
  go_wp2_with (first
    | (at_builtin; refine wpList_append_bytes_n _ rfl (.tmp 31) (.tmp 32) 22 rfl w5.heap.size 5 i0 (.int .u8 0) Tryd.underlying22 hi0 hz0 hz1 hz2 rfl v6 a rfl hown6 w.heap.size A1 c1 nb b HB.out.1 rfl (HB.out.2.2.2.below hwb6) (by have := HA.out.1; have := HA.out.2.1; have := HB.out.1; have := HB.out.2.1; omega) hbel6.size ?_; intro v7 w7 hown7 hg7 _; refine stopped ?_)
    | fail)
  refine go_on ?_
  have hbel7 : Below w5.heap.size w5 w7 := hbel6.trans (only_below hg7 hbel6.size (fun g hg => (World.ownsRow.lt hown6 g hg).1))
  obtain ⟨A7, c7', hv7, hcap7, _, hbs7, _⟩ := hown7.slice_cap
  subst hv7
  have hn7 : (a ++ b).length = na + nb := by rw [List.length_append, HA.out.1, HB.out.1]
  rw [hn7] at hcap7 ⊢
  try simp only [Act.put, List.setIfInBounds_toArray, List.set_cons_zero, List.set_cons_succ]
  have hwb7 : Below w.heap.size w w7 := H5.out.2.2.1.trans (hbel7.mono H5.out.2.2.1.size)
  have HS7 := Lib.hid (And.intro (And.intro (H5.out.1.below hbel7 H5.out.1.lt) (H5.out.2.1.below hbel7 H5.out.2.1.lt)) (And.intro hwb7 (And.intro (H5.out.2.2.2.on hbel7 (Nat.le_refl _)) (And.intro hbs7 (And.intro hcap7 hn7)))))
  clear hbel6 hwb6 hown6 hg6 hbel7 hwb7 hown7 hg7 hbs7 hcap7 hn7
  go_wp2_with fail
  refine (sum_any A7 (a ++ b) (na + nb) c7' w7 HS7.out.2.2.2.2.2 HS7.out.2.2.1 HS7.out.2.2.2.1 HS7.out.2.2.2.2.1 (by have := HA.out.2.1; have := HB.out.2.1; omega)).mono ?_
  rintro e w8 ⟨rfl, hw8⟩
  obtain ⟨U7, eU7⟩ : ∃ U, bv (sha (a ++ b)) = U := ⟨_, rfl⟩
  have hUl7 : U7.length = 32 := by rw [← eU7, bv_length, sha_length]
  have hU17 : ∀ u ∈ U7, u.oneCell' = true := by rw [← eU7]; exact bv_one _
  rw [eU7]
  have HU7 := Lib.hid (And.intro eU7 (And.intro hUl7 hU17))
  clear eU7 hUl7 hU17
  go_wp2_with (first
    | (refine wpList_alloc rfl 24 rfl _ arr32_zero ?_; intro w9 hb9 hw9 hz9; refine stopped ?_)
    | fail)
  refine go_on ?_
  refine wpList_store_whole rfl 24 (.tmp 9) (.tmp 34) rfl w8.heap.size U7 rfl rfl 24 (bv (List.replicate 32 0)) hb9 (by rw [HU7.out.2.1]; exact arr32_info) (by rw [HU7.out.2.1]; rfl) HU7.out.2.2 ?_
  intro w10 hb10 hg10
  simp only [Act.put, List.setIfInBounds_toArray, List.set_cons_zero, List.set_cons_succ]
  have hbl7 : Below w7.heap.size w7 w10 := hw8.trans ((hw9.trans (only_below hg10 hw9.size (fun g e => by cases e; exact Nat.le_refl _))).mono hw8.size)
  obtain ⟨g9, eg9⟩ : ∃ g, w8.heap.size = g := ⟨_, rfl⟩
  rw [eg9] at hb10 ⊢
  have H10 := Lib.hid (And.intro (HS7.out.1.1.below hbl7 HS7.out.1.1.lt) (And.intro (HS7.out.1.2.below hbl7 HS7.out.1.2.lt) (And.intro (HS7.out.2.1.trans (hbl7.mono HS7.out.2.1.size)) (And.intro (HS7.out.2.2.1.on hbl7 (Nat.le_refl _)) hb10))))
  clear hw8 hb9 hw9 hz9 hb10 hg10 hbl7 eg9
  go_wp2_with (first
    | (at_builtin; refine wpList_append_bytes_n _ rfl (.tmp 35) (.tmp 36) 22 rfl w10.heap.size 5 i0 (.int .u8 0) Tryd.underlying22 hi0 hz0 hz1 hz2 rfl (.slice (some ⟨w10.heap.size, 0, none⟩) 0 0) ([]) rfl (Own.empty w10 _ _ (Nat.le_refl _)) w.heap.size A0 c0 na a HA.out.1 rfl ((HA.out.2.2.2.below H10.out.2.2.1).alloc H10.out.2.2.1.size _) (by have := HA.out.1; have := HA.out.2.1; simp; omega) (by simp) ?_; intro v11 w11 hown11 hg11 _; refine stopped ?_)
    | fail)
  refine go_on ?_
  have hbel11 : Below w10.heap.size w10 w11 := ((Below.refl _ _).alloc (Nat.le_refl _) _).grown hg11 (by simp) (fun k hk => by simp [Value.ownBlock] at hk; subst hk; exact Nat.le_refl _)
  rw [List.nil_append] at hown11
  have hwb11 : Below w.heap.size w w11 := H10.out.2.2.1.trans (hbel11.mono H10.out.2.2.1.size)
  go_wp2_with (first
    | (at_builtin; refine wpList_append_bytes_n _ rfl (.tmp 37) (.tmp 38) 22 rfl w10.heap.size 5 i0 (.int .u8 0) Tryd.underlying22 hi0 hz0 hz1 hz2 rfl v11 a rfl hown11 w.heap.size A2 c2 nc c HC.out.1 rfl (HC.out.2.2.2.below hwb11) (by have := HA.out.1; have := HA.out.2.1; have := HC.out.1; have := HC.out.2.1; omega) hbel11.size ?_; intro v12 w12 hown12 hg12 _; refine stopped ?_)
    | fail)
  refine go_on ?_
  have hbel12 : Below w10.heap.size w10 w12 := hbel11.trans (only_below hg12 hbel11.size (fun g hg => (World.ownsRow.lt hown11 g hg).1))
  obtain ⟨A12, c12', hv12, hcap12, _, hbs12, _⟩ := hown12.slice_cap
  subst hv12
  have hn12 : (a ++ c).length = na + nc := by rw [List.length_append, HA.out.1, HC.out.1]
  rw [hn12] at hcap12 ⊢
  try simp only [Act.put, List.setIfInBounds_toArray, List.set_cons_zero, List.set_cons_succ]
  have hwb12 : Below w.heap.size w w12 := H10.out.2.2.1.trans (hbel12.mono H10.out.2.2.1.size)
  have HS12 := Lib.hid (And.intro (And.intro (H10.out.1.below hbel12 H10.out.1.lt) (H10.out.2.1.below hbel12 H10.out.2.1.lt)) (And.intro hwb12 (And.intro (H10.out.2.2.2.1.on hbel12 (Nat.le_refl _)) (And.intro hbs12 (And.intro hcap12 hn12)))))
  have HX12 := Lib.hid (H10.out.2.2.2.2.below hbel12 H10.out.2.2.2.2.lt)
  clear hbel11 hwb11 hown11 hg11 hbel12 hwb12 hown12 hg12 hbs12 hcap12 hn12
  go_wp2_with fail
  refine (sum_any A12 (a ++ c) (na + nc) c12' w12 HS12.out.2.2.2.2.2 HS12.out.2.2.1 HS12.out.2.2.2.1 HS12.out.2.2.2.2.1 (by have := HA.out.2.1; have := HC.out.2.1; omega)).mono ?_
  rintro e w13 ⟨rfl, hw13⟩
  obtain ⟨U12, eU12⟩ : ∃ U, bv (sha (a ++ c)) = U := ⟨_, rfl⟩
  have hUl12 : U12.length = 32 := by rw [← eU12, bv_length, sha_length]
  have hU112 : ∀ u ∈ U12, u.oneCell' = true := by rw [← eU12]; exact bv_one _
  rw [eU12]
  have HU12 := Lib.hid (And.intro eU12 (And.intro hUl12 hU112))
  clear eU12 hUl12 hU112
  go_wp2_with (first
    | (refine wpList_alloc rfl 24 rfl _ arr32_zero ?_; intro w14 hb14 hw14 hz14; refine stopped ?_)
    | fail)
  refine go_on ?_
  refine wpList_store_whole rfl 24 (.tmp 10) (.tmp 40) rfl w13.heap.size U12 rfl rfl 24 (bv (List.replicate 32 0)) hb14 (by rw [HU12.out.2.1]; exact arr32_info) (by rw [HU12.out.2.1]; rfl) HU12.out.2.2 ?_
  intro w15 hb15 hg15
  simp only [Act.put, List.setIfInBounds_toArray, List.set_cons_zero, List.set_cons_succ]
  have hbl12 : Below w12.heap.size w12 w15 := hw13.trans ((hw14.trans (only_below hg15 hw14.size (fun g e => by cases e; exact Nat.le_refl _))).mono hw13.size)
  obtain ⟨g10, eg10⟩ : ∃ g, w13.heap.size = g := ⟨_, rfl⟩
  rw [eg10] at hb15 ⊢
  have H15 := Lib.hid (And.intro (HS12.out.1.1.below hbl12 HS12.out.1.1.lt) (And.intro (HS12.out.1.2.below hbl12 HS12.out.1.2.lt) (And.intro (HS12.out.2.1.trans (hbl12.mono HS12.out.2.1.size)) (And.intro (HS12.out.2.2.1.on hbl12 (Nat.le_refl _)) hb15))))
  have HX15 := Lib.hid (HX12.out.below hbl12 HX12.out.lt)
  clear hw13 hb14 hw14 hz14 hb15 hg15 hbl12 eg10
  have hS0 : CopS w gh gx g9 g10 (a ++ b) (a ++ c) U7 U12 w15 := ⟨H15.out.1, H15.out.2.1, HX15.out, H15.out.2.2.2.2, H15.out.2.2.2.1, H15.out.2.2.1⟩
  have hS : CopS w gh gx g9 g10 (a ++ b) (a ++ c) U7 U12 w15.drew := hS0.on (w2 := w15.drewN 1) (below_drewN (Below.refl _ _) 1)
  have HSS := Lib.hid hS
  clear hS0 hS
  have hq7 := fun w => eq32 (sha (a ++ b)) (sha_length _) w
  have hq12 := fun w => eq32 (sha (a ++ c)) (sha_length _) w
  rw [HU7.out.1] at hq7
  rw [HU12.out.1] at hq12
  have HQ := Lib.hid (And.intro hq7 hq12)
  have hsum7 := fun (w1 : World) (h : Has w1 gh (a ++ b)) (t : Tabs w1) => hashSum_any gh (a ++ b) w1 h t (by have := HA.out.1; have := HA.out.2.1; have := HB.out.1; have := HB.out.2.1; rw [List.length_append]; omega)
  have hsum12 := fun (w1 : World) (h : Has w1 gx (a ++ c)) (t : Tabs w1) => hashSum_any gx (a ++ c) w1 h t (by have := HA.out.1; have := HA.out.2.1; have := HC.out.1; have := HC.out.2.1; rw [List.length_append]; omega)
  rw [HU7.out.1] at hsum7
  rw [HU12.out.1] at hsum12
  have hlen7 := fun (w1 : World) (h : Has w1 gh (a ++ b)) => len_any gh (a ++ b) w1 h
  have hlen12 := fun (w1 : World) (h : Has w1 gx (a ++ c)) => len_any gx (a ++ c) w1 h
  obtain ⟨nab, enab⟩ : ∃ x, (a ++ b).length = x := ⟨_, rfl⟩
  obtain ⟨nac, enac⟩ : ∃ x, (a ++ c).length = x := ⟨_, rfl⟩
  rw [enab] at hlen7
  rw [enac] at hlen12
  have f1 : (na : Int) + (nb : Int) = (nab : Int) := by have h1 := HA.out.1; have h2 := HB.out.1; rw [List.length_append] at enab; omega
  have f2 : (na : Int) + (nc : Int) = (nac : Int) := by have h1 := HA.out.1; have h2 := HC.out.1; rw [List.length_append] at enac; omega
  have f3 : IntKind.i64.wrap (nab : Int) = (nab : Int) := IntWalk.i64_in _ (by have h1 := HA.out.2.1; have h2 := HB.out.2.1; omega)
  have f4 : IntKind.i64.wrap (nac : Int) = (nac : Int) := IntWalk.i64_in _ (by have h1 := HA.out.2.1; have h2 := HC.out.2.1; omega)
  have HFa := Lib.hid (And.intro f1 (And.intro f2 (And.intro f3 f4)))
  have HSum := Lib.hid (And.intro hsum7 (And.intro hsum12 (And.intro hlen7 hlen12)))
  have HL7 := Lib.hid (show (Tryd.prog.info? 24).map (·.size) = some U7.length by rw [HU7.out.2.1]; exact arr32_info)
  have HL12 := Lib.hid (show (Tryd.prog.info? 24).map (·.size) = some U12.length by rw [HU12.out.2.1]; exact arr32_info)
  clear hq7 hq12 hsum7 hsum12 hlen7 hlen12 enab enac f1 f2 f3 f4
  go_wp2_with fail
  refine wp_region_held_drew (S := CopS w gh gx g9 g10 (a ++ b) (a ++ c) U7 U12) (by kernel_rfl) HSS.out (fun hHeld => ?_)
  refine wpAnyH_take (i := 0) (v := ?_) (List.getElem?_toArray.trans (List.getElem?_cons_zero)) (by kernel_rfl) (by kernel_rfl) (by kernel_rfl) (fun _ _ _ h => h) (Or.inl ⟨by rfl, ?_⟩) (by assumption) ?_
  rotate_left
  · intro w' hSw; (try dsimp only at hSw); go_simp; try with_reducible rfl
  try simp only [Act.put, List.setIfInBounds_toArray, List.set_cons_zero, List.set_cons_succ]
  refine wpAnyH_take (i := 2) (v := .agg (U7).toArray) (List.getElem?_toArray.trans (List.getElem?_cons_succ.trans (List.getElem?_cons_succ.trans (List.getElem?_cons_zero)))) (by kernel_rfl) (by kernel_rfl) (by kernel_rfl) (fun _ _ _ h => h) (yieldsIf_load_mid (by rfl) 24 (.tmp 9) rfl g9 0 rfl (U7) _ (fun w' hS => Blk.range hS.2.2.1) Tryd.underlying24 rfl HL7.out) (by assumption) ?_
  try simp only [Act.put, List.setIfInBounds_toArray, List.set_cons_zero, List.set_cons_succ]
  refine wpAnyH_ready (rs := [1]) (by kernel_rfl) (by simp) ?_
  refine AllReadyH.cons (List.getElem?_toArray.trans (List.getElem?_cons_succ.trans (List.getElem?_cons_zero))) (fun K hK => ?_) AllReadyH.nil
  go_simp
  refine (HSum.out.1 w15.drew HSS.out.1 HSS.out.2.2.2.2.1).mono ?_
  rintro e' wa ⟨rfl, hwa⟩
  refine hK.out _ _ (HSS.out.on hwa) (fun hHeld => ?_)
  clear hK K
  try simp only [Act.put, List.setIfInBounds_toArray, List.set_cons_zero, List.set_cons_succ]
  have HSa := Lib.hid hHeld
  clear hHeld hwa
  have hHeld := HSa.out
  have hq := HQ.out.1
  have hg := eqg32
  refine wpAnyH_take (i := 3) (v := ?_) (List.getElem?_toArray.trans (List.getElem?_cons_succ.trans (List.getElem?_cons_succ.trans (List.getElem?_cons_succ.trans (List.getElem?_cons_zero))))) (by kernel_rfl) (by kernel_rfl) (by kernel_rfl) (fun _ _ _ h => h) (Or.inl ⟨by rfl, ?_⟩) (by assumption) ?_
  rotate_left
  · intro w' hSw; (try dsimp only at hSw); go_simp; try with_reducible rfl
  try simp only [Act.put, List.setIfInBounds_toArray, List.set_cons_zero, List.set_cons_succ]
  clear hq
  refine wpAnyH_take (i := 4) (v := ?_) (List.getElem?_toArray.trans (List.getElem?_cons_succ.trans (List.getElem?_cons_succ.trans (List.getElem?_cons_succ.trans (List.getElem?_cons_succ.trans (List.getElem?_cons_zero)))))) (by kernel_rfl) (by kernel_rfl) (by kernel_rfl) (fun _ _ _ h => h) (Or.inl ⟨by rfl, ?_⟩) (by assumption) ?_
  rotate_left
  · intro w' hSw; (try dsimp only at hSw); go_simp; try with_reducible rfl
  try simp only [Act.put, List.setIfInBounds_toArray, List.set_cons_zero, List.set_cons_succ]
  refine wpAnyH_take (i := 5) (v := ?_) (List.getElem?_toArray.trans (List.getElem?_cons_succ.trans (List.getElem?_cons_succ.trans (List.getElem?_cons_succ.trans (List.getElem?_cons_succ.trans (List.getElem?_cons_succ.trans (List.getElem?_cons_zero))))))) (by kernel_rfl) (by kernel_rfl) (by kernel_rfl) (fun _ _ _ h => h) (Or.inl ⟨by rfl, ?_⟩) (by assumption) ?_
  rotate_left
  · intro w' hSw; (try dsimp only at hSw); go_simp; try with_reducible rfl
  try simp only [Act.put, List.setIfInBounds_toArray, List.set_cons_zero, List.set_cons_succ]
  refine wpAnyH_take (i := 7) (v := .agg (U12).toArray) (List.getElem?_toArray.trans (List.getElem?_cons_succ.trans (List.getElem?_cons_succ.trans (List.getElem?_cons_succ.trans (List.getElem?_cons_succ.trans (List.getElem?_cons_succ.trans (List.getElem?_cons_succ.trans (List.getElem?_cons_succ.trans (List.getElem?_cons_zero))))))))) (by kernel_rfl) (by kernel_rfl) (by kernel_rfl) (fun _ _ _ h => h) (yieldsIf_load_mid (by rfl) 24 (.tmp 10) rfl g10 0 rfl (U12) _ (fun w' hS => Blk.range hS.2.2.2.1) Tryd.underlying24 rfl HL12.out) (by assumption) ?_
  try simp only [Act.put, List.setIfInBounds_toArray, List.set_cons_zero, List.set_cons_succ]
  refine wpAnyH_ready (rs := [6]) (by kernel_rfl) (by simp) ?_
  refine AllReadyH.cons (List.getElem?_toArray.trans (List.getElem?_cons_succ.trans (List.getElem?_cons_succ.trans (List.getElem?_cons_succ.trans (List.getElem?_cons_succ.trans (List.getElem?_cons_succ.trans (List.getElem?_cons_succ.trans (List.getElem?_cons_zero)))))))) (fun K hK => ?_) AllReadyH.nil
  go_simp
  refine (HSum.out.2.1 wa HSa.out.2.1 HSa.out.2.2.2.2.1).mono ?_
  rintro e' wb ⟨rfl, hwb⟩
  refine hK.out _ _ (HSa.out.on hwb) (fun hHeld => ?_)
  clear hK K
  try simp only [Act.put, List.setIfInBounds_toArray, List.set_cons_zero, List.set_cons_succ]
  have HSb := Lib.hid hHeld
  clear hHeld hwb
  have hHeld := HSb.out
  have hq := HQ.out.2
  refine wpAnyH_take (i := 8) (v := ?_) (List.getElem?_toArray.trans (List.getElem?_cons_succ.trans (List.getElem?_cons_succ.trans (List.getElem?_cons_succ.trans (List.getElem?_cons_succ.trans (List.getElem?_cons_succ.trans (List.getElem?_cons_succ.trans (List.getElem?_cons_succ.trans (List.getElem?_cons_succ.trans (List.getElem?_cons_zero)))))))))) (by kernel_rfl) (by kernel_rfl) (by kernel_rfl) (fun _ _ _ h => h) (Or.inl ⟨by rfl, ?_⟩) (by assumption) ?_
  rotate_left
  · intro w' hSw; (try dsimp only at hSw); go_simp; try with_reducible rfl
  try simp only [Act.put, List.setIfInBounds_toArray, List.set_cons_zero, List.set_cons_succ]
  clear hq hg
  refine wpAnyH_take (i := 9) (v := ?_) (List.getElem?_toArray.trans (List.getElem?_cons_succ.trans (List.getElem?_cons_succ.trans (List.getElem?_cons_succ.trans (List.getElem?_cons_succ.trans (List.getElem?_cons_succ.trans (List.getElem?_cons_succ.trans (List.getElem?_cons_succ.trans (List.getElem?_cons_succ.trans (List.getElem?_cons_succ.trans (List.getElem?_cons_zero))))))))))) (by kernel_rfl) (by kernel_rfl) (by kernel_rfl) (fun _ _ _ h => h) (Or.inl ⟨by rfl, ?_⟩) (by assumption) ?_
  rotate_left
  · intro w' hSw; (try dsimp only at hSw); go_simp; try with_reducible rfl
  try simp only [Act.put, List.setIfInBounds_toArray, List.set_cons_zero, List.set_cons_succ]
  refine wpAnyH_take (i := 10) (v := ?_) (List.getElem?_toArray.trans (List.getElem?_cons_succ.trans (List.getElem?_cons_succ.trans (List.getElem?_cons_succ.trans (List.getElem?_cons_succ.trans (List.getElem?_cons_succ.trans (List.getElem?_cons_succ.trans (List.getElem?_cons_succ.trans (List.getElem?_cons_succ.trans (List.getElem?_cons_succ.trans (List.getElem?_cons_succ.trans (List.getElem?_cons_zero)))))))))))) (by kernel_rfl) (by kernel_rfl) (by kernel_rfl) (fun _ _ _ h => h) (Or.inl ⟨by rfl, ?_⟩) (by assumption) ?_
  rotate_left
  · intro w' hSw; (try dsimp only at hSw); go_simp; try with_reducible rfl
  try simp only [Act.put, List.setIfInBounds_toArray, List.set_cons_zero, List.set_cons_succ]
  refine wpAnyH_take (i := 11) (v := ?_) (List.getElem?_toArray.trans (List.getElem?_cons_succ.trans (List.getElem?_cons_succ.trans (List.getElem?_cons_succ.trans (List.getElem?_cons_succ.trans (List.getElem?_cons_succ.trans (List.getElem?_cons_succ.trans (List.getElem?_cons_succ.trans (List.getElem?_cons_succ.trans (List.getElem?_cons_succ.trans (List.getElem?_cons_succ.trans (List.getElem?_cons_succ.trans (List.getElem?_cons_zero))))))))))))) (by kernel_rfl) (by kernel_rfl) (by kernel_rfl) (fun _ _ _ h => h) (Or.inl ⟨by rfl, ?_⟩) (by assumption) ?_
  rotate_left
  · intro w' hSw; (try dsimp only at hSw); go_simp; try with_reducible rfl
  try simp only [Act.put, List.setIfInBounds_toArray, List.set_cons_zero, List.set_cons_succ]
  refine wpAnyH_take (i := 13) (v := ?_) (List.getElem?_toArray.trans (List.getElem?_cons_succ.trans (List.getElem?_cons_succ.trans (List.getElem?_cons_succ.trans (List.getElem?_cons_succ.trans (List.getElem?_cons_succ.trans (List.getElem?_cons_succ.trans (List.getElem?_cons_succ.trans (List.getElem?_cons_succ.trans (List.getElem?_cons_succ.trans (List.getElem?_cons_succ.trans (List.getElem?_cons_succ.trans (List.getElem?_cons_succ.trans (List.getElem?_cons_succ.trans (List.getElem?_cons_zero))))))))))))))) (by kernel_rfl) (by kernel_rfl) (by kernel_rfl) (fun _ _ _ h => h) (Or.inl ⟨by rfl, ?_⟩) (by assumption) ?_
  rotate_left
  · intro w' hSw; (try dsimp only at hSw); go_simp; try with_reducible rfl
  try simp only [Act.put, List.setIfInBounds_toArray, List.set_cons_zero, List.set_cons_succ]
  refine wpAnyH_take (i := 14) (v := ?_) (List.getElem?_toArray.trans (List.getElem?_cons_succ.trans (List.getElem?_cons_succ.trans (List.getElem?_cons_succ.trans (List.getElem?_cons_succ.trans (List.getElem?_cons_succ.trans (List.getElem?_cons_succ.trans (List.getElem?_cons_succ.trans (List.getElem?_cons_succ.trans (List.getElem?_cons_succ.trans (List.getElem?_cons_succ.trans (List.getElem?_cons_succ.trans (List.getElem?_cons_succ.trans (List.getElem?_cons_succ.trans (List.getElem?_cons_succ.trans (List.getElem?_cons_zero)))))))))))))))) (by kernel_rfl) (by kernel_rfl) (by kernel_rfl) (fun _ _ _ h => h) (Or.inl ⟨by rfl, ?_⟩) (by assumption) ?_
  rotate_left
  · intro w' hSw; (try dsimp only at hSw); go_simp; try with_reducible rfl
  try simp only [Act.put, List.setIfInBounds_toArray, List.set_cons_zero, List.set_cons_succ]
  refine wpAnyH_take (i := 15) (v := ?_) (List.getElem?_toArray.trans (List.getElem?_cons_succ.trans (List.getElem?_cons_succ.trans (List.getElem?_cons_succ.trans (List.getElem?_cons_succ.trans (List.getElem?_cons_succ.trans (List.getElem?_cons_succ.trans (List.getElem?_cons_succ.trans (List.getElem?_cons_succ.trans (List.getElem?_cons_succ.trans (List.getElem?_cons_succ.trans (List.getElem?_cons_succ.trans (List.getElem?_cons_succ.trans (List.getElem?_cons_succ.trans (List.getElem?_cons_succ.trans (List.getElem?_cons_succ.trans (List.getElem?_cons_zero))))))))))))))))) (by kernel_rfl) (by kernel_rfl) (by kernel_rfl) (fun _ _ _ h => h) (Or.inl ⟨by rfl, ?_⟩) (by assumption) ?_
  rotate_left
  · intro w' hSw; (try dsimp only at hSw); go_simp; try with_reducible rfl
  try simp only [Act.put, List.setIfInBounds_toArray, List.set_cons_zero, List.set_cons_succ]
  refine wpAnyH_take (i := 16) (v := ?_) (List.getElem?_toArray.trans (List.getElem?_cons_succ.trans (List.getElem?_cons_succ.trans (List.getElem?_cons_succ.trans (List.getElem?_cons_succ.trans (List.getElem?_cons_succ.trans (List.getElem?_cons_succ.trans (List.getElem?_cons_succ.trans (List.getElem?_cons_succ.trans (List.getElem?_cons_succ.trans (List.getElem?_cons_succ.trans (List.getElem?_cons_succ.trans (List.getElem?_cons_succ.trans (List.getElem?_cons_succ.trans (List.getElem?_cons_succ.trans (List.getElem?_cons_succ.trans (List.getElem?_cons_succ.trans (List.getElem?_cons_zero)))))))))))))))))) (by kernel_rfl) (by kernel_rfl) (by kernel_rfl) (fun _ _ _ h => h) (Or.inl ⟨by rfl, ?_⟩) (by assumption) ?_
  rotate_left
  · intro w' hSw; (try dsimp only at hSw); go_simp; try with_reducible rfl
  try simp only [Act.put, List.setIfInBounds_toArray, List.set_cons_zero, List.set_cons_succ]
  obtain ⟨f1, f2, f3, f4⟩ := HFa.out
  refine wpAnyH_take (i := 17) (v := ?_) (List.getElem?_toArray.trans (List.getElem?_cons_succ.trans (List.getElem?_cons_succ.trans (List.getElem?_cons_succ.trans (List.getElem?_cons_succ.trans (List.getElem?_cons_succ.trans (List.getElem?_cons_succ.trans (List.getElem?_cons_succ.trans (List.getElem?_cons_succ.trans (List.getElem?_cons_succ.trans (List.getElem?_cons_succ.trans (List.getElem?_cons_succ.trans (List.getElem?_cons_succ.trans (List.getElem?_cons_succ.trans (List.getElem?_cons_succ.trans (List.getElem?_cons_succ.trans (List.getElem?_cons_succ.trans (List.getElem?_cons_succ.trans (List.getElem?_cons_zero))))))))))))))))))) (by kernel_rfl) (by kernel_rfl) (by kernel_rfl) (fun _ _ _ h => h) (Or.inl ⟨by rfl, ?_⟩) (by assumption) ?_
  rotate_left
  · intro w' hSw; (try dsimp only at hSw); go_simp; try with_reducible rfl
  try simp only [Act.put, List.setIfInBounds_toArray, List.set_cons_zero, List.set_cons_succ]
  refine wpAnyH_ready (rs := [12]) (by kernel_rfl) (by simp) ?_
  refine AllReadyH.cons (List.getElem?_toArray.trans (List.getElem?_cons_succ.trans (List.getElem?_cons_succ.trans (List.getElem?_cons_succ.trans (List.getElem?_cons_succ.trans (List.getElem?_cons_succ.trans (List.getElem?_cons_succ.trans (List.getElem?_cons_succ.trans (List.getElem?_cons_succ.trans (List.getElem?_cons_succ.trans (List.getElem?_cons_succ.trans (List.getElem?_cons_succ.trans (List.getElem?_cons_succ.trans (List.getElem?_cons_zero)))))))))))))) (fun K hK => ?_) AllReadyH.nil
  go_simp
  refine (HSum.out.2.2.1 wb HSb.out.1).mono ?_
  rintro e' w' ⟨rfl, rfl⟩
  refine hK.out _ _ HSb.out (fun hHeld => ?_)
  clear hK K
  try simp only [Act.put, List.setIfInBounds_toArray, List.set_cons_zero, List.set_cons_succ]
  refine wpAnyH_take (i := 18) (v := ?_) (List.getElem?_toArray.trans (List.getElem?_cons_succ.trans (List.getElem?_cons_succ.trans (List.getElem?_cons_succ.trans (List.getElem?_cons_succ.trans (List.getElem?_cons_succ.trans (List.getElem?_cons_succ.trans (List.getElem?_cons_succ.trans (List.getElem?_cons_succ.trans (List.getElem?_cons_succ.trans (List.getElem?_cons_succ.trans (List.getElem?_cons_succ.trans (List.getElem?_cons_succ.trans (List.getElem?_cons_succ.trans (List.getElem?_cons_succ.trans (List.getElem?_cons_succ.trans (List.getElem?_cons_succ.trans (List.getElem?_cons_succ.trans (List.getElem?_cons_succ.trans (List.getElem?_cons_zero)))))))))))))))))))) (by kernel_rfl) (by kernel_rfl) (by kernel_rfl) (fun _ _ _ h => h) (Or.inl ⟨by rfl, ?_⟩) (by assumption) ?_
  rotate_left
  · intro w' hSw; (try dsimp only at hSw); go_simp; try with_reducible rfl
  try simp only [Act.put, List.setIfInBounds_toArray, List.set_cons_zero, List.set_cons_succ]
  refine wpAnyH_take (i := 19) (v := ?_) (List.getElem?_toArray.trans (List.getElem?_cons_succ.trans (List.getElem?_cons_succ.trans (List.getElem?_cons_succ.trans (List.getElem?_cons_succ.trans (List.getElem?_cons_succ.trans (List.getElem?_cons_succ.trans (List.getElem?_cons_succ.trans (List.getElem?_cons_succ.trans (List.getElem?_cons_succ.trans (List.getElem?_cons_succ.trans (List.getElem?_cons_succ.trans (List.getElem?_cons_succ.trans (List.getElem?_cons_succ.trans (List.getElem?_cons_succ.trans (List.getElem?_cons_succ.trans (List.getElem?_cons_succ.trans (List.getElem?_cons_succ.trans (List.getElem?_cons_succ.trans (List.getElem?_cons_succ.trans (List.getElem?_cons_zero))))))))))))))))))))) (by kernel_rfl) (by kernel_rfl) (by kernel_rfl) (fun _ _ _ h => h) (Or.inl ⟨by rfl, ?_⟩) (by assumption) ?_
  rotate_left
  · intro w' hSw; (try dsimp only at hSw); go_simp; try with_reducible rfl
  try simp only [Act.put, List.setIfInBounds_toArray, List.set_cons_zero, List.set_cons_succ]
  refine wpAnyH_take (i := 20) (v := ?_) (List.getElem?_toArray.trans (List.getElem?_cons_succ.trans (List.getElem?_cons_succ.trans (List.getElem?_cons_succ.trans (List.getElem?_cons_succ.trans (List.getElem?_cons_succ.trans (List.getElem?_cons_succ.trans (List.getElem?_cons_succ.trans (List.getElem?_cons_succ.trans (List.getElem?_cons_succ.trans (List.getElem?_cons_succ.trans (List.getElem?_cons_succ.trans (List.getElem?_cons_succ.trans (List.getElem?_cons_succ.trans (List.getElem?_cons_succ.trans (List.getElem?_cons_succ.trans (List.getElem?_cons_succ.trans (List.getElem?_cons_succ.trans (List.getElem?_cons_succ.trans (List.getElem?_cons_succ.trans (List.getElem?_cons_succ.trans (List.getElem?_cons_zero)))))))))))))))))))))) (by kernel_rfl) (by kernel_rfl) (by kernel_rfl) (fun _ _ _ h => h) (Or.inl ⟨by rfl, ?_⟩) (by assumption) ?_
  rotate_left
  · intro w' hSw; (try dsimp only at hSw); go_simp; try with_reducible rfl
  try simp only [Act.put, List.setIfInBounds_toArray, List.set_cons_zero, List.set_cons_succ]
  refine wpAnyH_take (i := 21) (v := ?_) (List.getElem?_toArray.trans (List.getElem?_cons_succ.trans (List.getElem?_cons_succ.trans (List.getElem?_cons_succ.trans (List.getElem?_cons_succ.trans (List.getElem?_cons_succ.trans (List.getElem?_cons_succ.trans (List.getElem?_cons_succ.trans (List.getElem?_cons_succ.trans (List.getElem?_cons_succ.trans (List.getElem?_cons_succ.trans (List.getElem?_cons_succ.trans (List.getElem?_cons_succ.trans (List.getElem?_cons_succ.trans (List.getElem?_cons_succ.trans (List.getElem?_cons_succ.trans (List.getElem?_cons_succ.trans (List.getElem?_cons_succ.trans (List.getElem?_cons_succ.trans (List.getElem?_cons_succ.trans (List.getElem?_cons_succ.trans (List.getElem?_cons_succ.trans (List.getElem?_cons_zero))))))))))))))))))))))) (by kernel_rfl) (by kernel_rfl) (by kernel_rfl) (fun _ _ _ h => h) (Or.inl ⟨by rfl, ?_⟩) (by assumption) ?_
  rotate_left
  · intro w' hSw; (try dsimp only at hSw); go_simp; try with_reducible rfl
  try simp only [Act.put, List.setIfInBounds_toArray, List.set_cons_zero, List.set_cons_succ]
  refine wpAnyH_take (i := 23) (v := ?_) (List.getElem?_toArray.trans (List.getElem?_cons_succ.trans (List.getElem?_cons_succ.trans (List.getElem?_cons_succ.trans (List.getElem?_cons_succ.trans (List.getElem?_cons_succ.trans (List.getElem?_cons_succ.trans (List.getElem?_cons_succ.trans (List.getElem?_cons_succ.trans (List.getElem?_cons_succ.trans (List.getElem?_cons_succ.trans (List.getElem?_cons_succ.trans (List.getElem?_cons_succ.trans (List.getElem?_cons_succ.trans (List.getElem?_cons_succ.trans (List.getElem?_cons_succ.trans (List.getElem?_cons_succ.trans (List.getElem?_cons_succ.trans (List.getElem?_cons_succ.trans (List.getElem?_cons_succ.trans (List.getElem?_cons_succ.trans (List.getElem?_cons_succ.trans (List.getElem?_cons_succ.trans (List.getElem?_cons_succ.trans (List.getElem?_cons_zero))))))))))))))))))))))))) (by kernel_rfl) (by kernel_rfl) (by kernel_rfl) (fun _ _ _ h => h) (Or.inl ⟨by rfl, ?_⟩) (by assumption) ?_
  rotate_left
  · intro w' hSw; (try dsimp only at hSw); go_simp; try with_reducible rfl
  try simp only [Act.put, List.setIfInBounds_toArray, List.set_cons_zero, List.set_cons_succ]
  refine wpAnyH_take (i := 24) (v := ?_) (List.getElem?_toArray.trans (List.getElem?_cons_succ.trans (List.getElem?_cons_succ.trans (List.getElem?_cons_succ.trans (List.getElem?_cons_succ.trans (List.getElem?_cons_succ.trans (List.getElem?_cons_succ.trans (List.getElem?_cons_succ.trans (List.getElem?_cons_succ.trans (List.getElem?_cons_succ.trans (List.getElem?_cons_succ.trans (List.getElem?_cons_succ.trans (List.getElem?_cons_succ.trans (List.getElem?_cons_succ.trans (List.getElem?_cons_succ.trans (List.getElem?_cons_succ.trans (List.getElem?_cons_succ.trans (List.getElem?_cons_succ.trans (List.getElem?_cons_succ.trans (List.getElem?_cons_succ.trans (List.getElem?_cons_succ.trans (List.getElem?_cons_succ.trans (List.getElem?_cons_succ.trans (List.getElem?_cons_succ.trans (List.getElem?_cons_succ.trans (List.getElem?_cons_zero)))))))))))))))))))))))))) (by kernel_rfl) (by kernel_rfl) (by kernel_rfl) (fun _ _ _ h => h) (Or.inl ⟨by rfl, ?_⟩) (by assumption) ?_
  rotate_left
  · intro w' hSw; (try dsimp only at hSw); go_simp; try with_reducible rfl
  try simp only [Act.put, List.setIfInBounds_toArray, List.set_cons_zero, List.set_cons_succ]
  refine wpAnyH_take (i := 25) (v := ?_) (List.getElem?_toArray.trans (List.getElem?_cons_succ.trans (List.getElem?_cons_succ.trans (List.getElem?_cons_succ.trans (List.getElem?_cons_succ.trans (List.getElem?_cons_succ.trans (List.getElem?_cons_succ.trans (List.getElem?_cons_succ.trans (List.getElem?_cons_succ.trans (List.getElem?_cons_succ.trans (List.getElem?_cons_succ.trans (List.getElem?_cons_succ.trans (List.getElem?_cons_succ.trans (List.getElem?_cons_succ.trans (List.getElem?_cons_succ.trans (List.getElem?_cons_succ.trans (List.getElem?_cons_succ.trans (List.getElem?_cons_succ.trans (List.getElem?_cons_succ.trans (List.getElem?_cons_succ.trans (List.getElem?_cons_succ.trans (List.getElem?_cons_succ.trans (List.getElem?_cons_succ.trans (List.getElem?_cons_succ.trans (List.getElem?_cons_succ.trans (List.getElem?_cons_succ.trans (List.getElem?_cons_zero))))))))))))))))))))))))))) (by kernel_rfl) (by kernel_rfl) (by kernel_rfl) (fun _ _ _ h => h) (Or.inl ⟨by rfl, ?_⟩) (by assumption) ?_
  rotate_left
  · intro w' hSw; (try dsimp only at hSw); go_simp; try with_reducible rfl
  try simp only [Act.put, List.setIfInBounds_toArray, List.set_cons_zero, List.set_cons_succ]
  refine wpAnyH_take (i := 26) (v := ?_) (List.getElem?_toArray.trans (List.getElem?_cons_succ.trans (List.getElem?_cons_succ.trans (List.getElem?_cons_succ.trans (List.getElem?_cons_succ.trans (List.getElem?_cons_succ.trans (List.getElem?_cons_succ.trans (List.getElem?_cons_succ.trans (List.getElem?_cons_succ.trans (List.getElem?_cons_succ.trans (List.getElem?_cons_succ.trans (List.getElem?_cons_succ.trans (List.getElem?_cons_succ.trans (List.getElem?_cons_succ.trans (List.getElem?_cons_succ.trans (List.getElem?_cons_succ.trans (List.getElem?_cons_succ.trans (List.getElem?_cons_succ.trans (List.getElem?_cons_succ.trans (List.getElem?_cons_succ.trans (List.getElem?_cons_succ.trans (List.getElem?_cons_succ.trans (List.getElem?_cons_succ.trans (List.getElem?_cons_succ.trans (List.getElem?_cons_succ.trans (List.getElem?_cons_succ.trans (List.getElem?_cons_succ.trans (List.getElem?_cons_zero)))))))))))))))))))))))))))) (by kernel_rfl) (by kernel_rfl) (by kernel_rfl) (fun _ _ _ h => h) (Or.inl ⟨by rfl, ?_⟩) (by assumption) ?_
  rotate_left
  · intro w' hSw; (try dsimp only at hSw); go_simp; try with_reducible rfl
  try simp only [Act.put, List.setIfInBounds_toArray, List.set_cons_zero, List.set_cons_succ]
  refine wpAnyH_take (i := 27) (v := ?_) (List.getElem?_toArray.trans (List.getElem?_cons_succ.trans (List.getElem?_cons_succ.trans (List.getElem?_cons_succ.trans (List.getElem?_cons_succ.trans (List.getElem?_cons_succ.trans (List.getElem?_cons_succ.trans (List.getElem?_cons_succ.trans (List.getElem?_cons_succ.trans (List.getElem?_cons_succ.trans (List.getElem?_cons_succ.trans (List.getElem?_cons_succ.trans (List.getElem?_cons_succ.trans (List.getElem?_cons_succ.trans (List.getElem?_cons_succ.trans (List.getElem?_cons_succ.trans (List.getElem?_cons_succ.trans (List.getElem?_cons_succ.trans (List.getElem?_cons_succ.trans (List.getElem?_cons_succ.trans (List.getElem?_cons_succ.trans (List.getElem?_cons_succ.trans (List.getElem?_cons_succ.trans (List.getElem?_cons_succ.trans (List.getElem?_cons_succ.trans (List.getElem?_cons_succ.trans (List.getElem?_cons_succ.trans (List.getElem?_cons_succ.trans (List.getElem?_cons_zero))))))))))))))))))))))))))))) (by kernel_rfl) (by kernel_rfl) (by kernel_rfl) (fun _ _ _ h => h) (Or.inl ⟨by rfl, ?_⟩) (by assumption) ?_
  rotate_left
  · intro w' hSw; (try dsimp only at hSw); go_simp; try with_reducible rfl
  try simp only [Act.put, List.setIfInBounds_toArray, List.set_cons_zero, List.set_cons_succ]
  refine wpAnyH_ready (rs := [22]) (by kernel_rfl) (by simp) ?_
  refine AllReadyH.cons (List.getElem?_toArray.trans (List.getElem?_cons_succ.trans (List.getElem?_cons_succ.trans (List.getElem?_cons_succ.trans (List.getElem?_cons_succ.trans (List.getElem?_cons_succ.trans (List.getElem?_cons_succ.trans (List.getElem?_cons_succ.trans (List.getElem?_cons_succ.trans (List.getElem?_cons_succ.trans (List.getElem?_cons_succ.trans (List.getElem?_cons_succ.trans (List.getElem?_cons_succ.trans (List.getElem?_cons_succ.trans (List.getElem?_cons_succ.trans (List.getElem?_cons_succ.trans (List.getElem?_cons_succ.trans (List.getElem?_cons_succ.trans (List.getElem?_cons_succ.trans (List.getElem?_cons_succ.trans (List.getElem?_cons_succ.trans (List.getElem?_cons_succ.trans (List.getElem?_cons_succ.trans (List.getElem?_cons_zero)))))))))))))))))))))))) (fun K hK => ?_) AllReadyH.nil
  go_simp
  refine (HSum.out.2.2.2 wb HSb.out.2.1).mono ?_
  rintro e' w' ⟨rfl, rfl⟩
  refine hK.out _ _ HSb.out (fun hHeld => ?_)
  clear hK K
  try simp only [Act.put, List.setIfInBounds_toArray, List.set_cons_zero, List.set_cons_succ]
  refine wpAnyH_take (i := 28) (v := ?_) (List.getElem?_toArray.trans (List.getElem?_cons_succ.trans (List.getElem?_cons_succ.trans (List.getElem?_cons_succ.trans (List.getElem?_cons_succ.trans (List.getElem?_cons_succ.trans (List.getElem?_cons_succ.trans (List.getElem?_cons_succ.trans (List.getElem?_cons_succ.trans (List.getElem?_cons_succ.trans (List.getElem?_cons_succ.trans (List.getElem?_cons_succ.trans (List.getElem?_cons_succ.trans (List.getElem?_cons_succ.trans (List.getElem?_cons_succ.trans (List.getElem?_cons_succ.trans (List.getElem?_cons_succ.trans (List.getElem?_cons_succ.trans (List.getElem?_cons_succ.trans (List.getElem?_cons_succ.trans (List.getElem?_cons_succ.trans (List.getElem?_cons_succ.trans (List.getElem?_cons_succ.trans (List.getElem?_cons_succ.trans (List.getElem?_cons_succ.trans (List.getElem?_cons_succ.trans (List.getElem?_cons_succ.trans (List.getElem?_cons_succ.trans (List.getElem?_cons_succ.trans (List.getElem?_cons_zero)))))))))))))))))))))))))))))) (by kernel_rfl) (by kernel_rfl) (by kernel_rfl) (fun _ _ _ h => h) (Or.inl ⟨by rfl, ?_⟩) (by assumption) ?_
  rotate_left
  · intro w' hSw; (try dsimp only at hSw); go_simp; try with_reducible rfl
  try simp only [Act.put, List.setIfInBounds_toArray, List.set_cons_zero, List.set_cons_succ]
  refine wpAnyH_take (i := 29) (v := ?_) (List.getElem?_toArray.trans (List.getElem?_cons_succ.trans (List.getElem?_cons_succ.trans (List.getElem?_cons_succ.trans (List.getElem?_cons_succ.trans (List.getElem?_cons_succ.trans (List.getElem?_cons_succ.trans (List.getElem?_cons_succ.trans (List.getElem?_cons_succ.trans (List.getElem?_cons_succ.trans (List.getElem?_cons_succ.trans (List.getElem?_cons_succ.trans (List.getElem?_cons_succ.trans (List.getElem?_cons_succ.trans (List.getElem?_cons_succ.trans (List.getElem?_cons_succ.trans (List.getElem?_cons_succ.trans (List.getElem?_cons_succ.trans (List.getElem?_cons_succ.trans (List.getElem?_cons_succ.trans (List.getElem?_cons_succ.trans (List.getElem?_cons_succ.trans (List.getElem?_cons_succ.trans (List.getElem?_cons_succ.trans (List.getElem?_cons_succ.trans (List.getElem?_cons_succ.trans (List.getElem?_cons_succ.trans (List.getElem?_cons_succ.trans (List.getElem?_cons_succ.trans (List.getElem?_cons_succ.trans (List.getElem?_cons_zero))))))))))))))))))))))))))))))) (by kernel_rfl) (by kernel_rfl) (by kernel_rfl) (fun _ _ _ h => h) (Or.inl ⟨by rfl, ?_⟩) (by assumption) ?_
  rotate_left
  · intro w' hSw; (try dsimp only at hSw); go_simp; try with_reducible rfl
  try simp only [Act.put, List.setIfInBounds_toArray, List.set_cons_zero, List.set_cons_succ]
  refine wpAnyH_take (i := 30) (v := ?_) (List.getElem?_toArray.trans (List.getElem?_cons_succ.trans (List.getElem?_cons_succ.trans (List.getElem?_cons_succ.trans (List.getElem?_cons_succ.trans (List.getElem?_cons_succ.trans (List.getElem?_cons_succ.trans (List.getElem?_cons_succ.trans (List.getElem?_cons_succ.trans (List.getElem?_cons_succ.trans (List.getElem?_cons_succ.trans (List.getElem?_cons_succ.trans (List.getElem?_cons_succ.trans (List.getElem?_cons_succ.trans (List.getElem?_cons_succ.trans (List.getElem?_cons_succ.trans (List.getElem?_cons_succ.trans (List.getElem?_cons_succ.trans (List.getElem?_cons_succ.trans (List.getElem?_cons_succ.trans (List.getElem?_cons_succ.trans (List.getElem?_cons_succ.trans (List.getElem?_cons_succ.trans (List.getElem?_cons_succ.trans (List.getElem?_cons_succ.trans (List.getElem?_cons_succ.trans (List.getElem?_cons_succ.trans (List.getElem?_cons_succ.trans (List.getElem?_cons_succ.trans (List.getElem?_cons_succ.trans (List.getElem?_cons_succ.trans (List.getElem?_cons_zero)))))))))))))))))))))))))))))))) (by kernel_rfl) (by kernel_rfl) (by kernel_rfl) (fun _ _ _ h => h) (Or.inl ⟨by rfl, ?_⟩) (by assumption) ?_
  rotate_left
  · intro w' hSw; (try dsimp only at hSw); go_simp; try with_reducible rfl
  try simp only [Act.put, List.setIfInBounds_toArray, List.set_cons_zero, List.set_cons_succ]
  refine wpAnyH_ready (rs := [31]) (by kernel_rfl) (by simp) ?_
  refine AllReadyH.cons (List.getElem?_toArray.trans (List.getElem?_cons_succ.trans (List.getElem?_cons_succ.trans (List.getElem?_cons_succ.trans (List.getElem?_cons_succ.trans (List.getElem?_cons_succ.trans (List.getElem?_cons_succ.trans (List.getElem?_cons_succ.trans (List.getElem?_cons_succ.trans (List.getElem?_cons_succ.trans (List.getElem?_cons_succ.trans (List.getElem?_cons_succ.trans (List.getElem?_cons_succ.trans (List.getElem?_cons_succ.trans (List.getElem?_cons_succ.trans (List.getElem?_cons_succ.trans (List.getElem?_cons_succ.trans (List.getElem?_cons_succ.trans (List.getElem?_cons_succ.trans (List.getElem?_cons_succ.trans (List.getElem?_cons_succ.trans (List.getElem?_cons_succ.trans (List.getElem?_cons_succ.trans (List.getElem?_cons_succ.trans (List.getElem?_cons_succ.trans (List.getElem?_cons_succ.trans (List.getElem?_cons_succ.trans (List.getElem?_cons_succ.trans (List.getElem?_cons_succ.trans (List.getElem?_cons_succ.trans (List.getElem?_cons_succ.trans (List.getElem?_cons_succ.trans (List.getElem?_cons_zero))))))))))))))))))))))))))))))))) (fun K hK => ?_) AllReadyH.nil
  go_simp
  refine (shaAwake_true wb HSb.out.2.2.2.2.1).mono ?_
  rintro e' wc ⟨rfl, hwc⟩
  refine hK.out _ _ (HSb.out.on hwc) (fun hHeld => ?_)
  clear hK K
  try simp only [Act.put, List.setIfInBounds_toArray, List.set_cons_zero, List.set_cons_succ]
  have HSc := Lib.hid hHeld
  refine wpAnyH_take (i := 32) (v := ?_) (List.getElem?_toArray.trans (List.getElem?_cons_succ.trans (List.getElem?_cons_succ.trans (List.getElem?_cons_succ.trans (List.getElem?_cons_succ.trans (List.getElem?_cons_succ.trans (List.getElem?_cons_succ.trans (List.getElem?_cons_succ.trans (List.getElem?_cons_succ.trans (List.getElem?_cons_succ.trans (List.getElem?_cons_succ.trans (List.getElem?_cons_succ.trans (List.getElem?_cons_succ.trans (List.getElem?_cons_succ.trans (List.getElem?_cons_succ.trans (List.getElem?_cons_succ.trans (List.getElem?_cons_succ.trans (List.getElem?_cons_succ.trans (List.getElem?_cons_succ.trans (List.getElem?_cons_succ.trans (List.getElem?_cons_succ.trans (List.getElem?_cons_succ.trans (List.getElem?_cons_succ.trans (List.getElem?_cons_succ.trans (List.getElem?_cons_succ.trans (List.getElem?_cons_succ.trans (List.getElem?_cons_succ.trans (List.getElem?_cons_succ.trans (List.getElem?_cons_succ.trans (List.getElem?_cons_succ.trans (List.getElem?_cons_succ.trans (List.getElem?_cons_succ.trans (List.getElem?_cons_succ.trans (List.getElem?_cons_zero)))))))))))))))))))))))))))))))))) (by kernel_rfl) (by kernel_rfl) (by kernel_rfl) (fun _ _ _ h => h) (Or.inl ⟨by rfl, ?_⟩) (by assumption) ?_
  rotate_left
  · intro w' hSw; (try dsimp only at hSw); go_simp; try with_reducible rfl
  try simp only [Act.put, List.setIfInBounds_toArray, List.set_cons_zero, List.set_cons_succ]
  refine wpAnyH_take (i := 33) (v := ?_) (List.getElem?_toArray.trans (List.getElem?_cons_succ.trans (List.getElem?_cons_succ.trans (List.getElem?_cons_succ.trans (List.getElem?_cons_succ.trans (List.getElem?_cons_succ.trans (List.getElem?_cons_succ.trans (List.getElem?_cons_succ.trans (List.getElem?_cons_succ.trans (List.getElem?_cons_succ.trans (List.getElem?_cons_succ.trans (List.getElem?_cons_succ.trans (List.getElem?_cons_succ.trans (List.getElem?_cons_succ.trans (List.getElem?_cons_succ.trans (List.getElem?_cons_succ.trans (List.getElem?_cons_succ.trans (List.getElem?_cons_succ.trans (List.getElem?_cons_succ.trans (List.getElem?_cons_succ.trans (List.getElem?_cons_succ.trans (List.getElem?_cons_succ.trans (List.getElem?_cons_succ.trans (List.getElem?_cons_succ.trans (List.getElem?_cons_succ.trans (List.getElem?_cons_succ.trans (List.getElem?_cons_succ.trans (List.getElem?_cons_succ.trans (List.getElem?_cons_succ.trans (List.getElem?_cons_succ.trans (List.getElem?_cons_succ.trans (List.getElem?_cons_succ.trans (List.getElem?_cons_succ.trans (List.getElem?_cons_succ.trans (List.getElem?_cons_zero))))))))))))))))))))))))))))))))))) (by kernel_rfl) (by kernel_rfl) (by kernel_rfl) (fun _ _ _ h => h) (Or.inl ⟨by rfl, ?_⟩) (by assumption) ?_
  rotate_left
  · intro w' hSw; (try dsimp only at hSw); go_simp; try with_reducible rfl
  try simp only [Act.put, List.setIfInBounds_toArray, List.set_cons_zero, List.set_cons_succ]
  refine wpAnyH_done (by kernel_rfl) ?_ _
  go_wp2_with fail
  go_ret
  exact ⟨rfl, HSc.out.2.2.2.2.2⟩
end Go.Proofs.YtjhkoepcolpclaaDoor
