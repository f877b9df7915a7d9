/-
  ShaBack: the law answers true and turns nothing that was there. Conditions: the tables read as the program's text lays them; the theorem's own premises.
-/
import Derived.Test.YtjhkoepcolpclaaDoorShaAwake
namespace Go.Proofs.YtjhkoepcolpclaaDoor
open Go.RowKit

theorem wpList_wanted {P : Program} {w : World} {ops : Array Oper} {rest : List Oper} {o : Oper} {a : Act} {Q : Exit → Act → World → Prop} (hw : Region.wanted o (yielded ops a.tmps) = true)
    (h : ∀ K : Act → World → Prop, (∀ a w, wpList P ops Q rest a w → K a w) → o.wp P a w K Q) : wpList P ops Q (o :: rest) a w := wpList_step fun K hK => by rw [if_pos hw]; exact h K hK
theorem wpList_unwanted {P : Program} {w : World} {ops : Array Oper} {rest : List Oper} {o : Oper} {a : Act} {Q : Exit → Act → World → Prop} (hw : Region.wanted o (yielded ops a.tmps) = false)
    (h : wpList P ops Q rest (a.put o.dst undef) w) : wpList P ops Q (o :: rest) a w := wpList_step fun K hK => by rw [if_neg (by rw [hw]; decide)]; exact hK _ _ h
theorem wp_build_is {P : Program} {w : World} {o : Oper} {a : Act} {K : Act → World → Prop} {Q : Exit → Act → World → Prop} (t : TypeId) (parts : Array (Nat × Operand)) (ho : o.op = .build t parts) (cells : Array Value)
    (hf : P.built t (parts.map fun (i, x) => (i, a.eval x)).toList = some cells) (h : K (a.put o.dst (.agg cells)) w) : o.wp P a w K Q := by
  refine wp_build t parts ho (by rw [hf]; rfl) ?_
  rw [hf]
  exact h

set_option maxRecDepth 100000 in
set_option maxHeartbeats 4000000 in
set_option linter.unusedSimpArgs false in
theorem shaBack_calls (l : List UInt8) (hl : l.length = 32) (X : Array Value) (hX : X = (bv l).toArray) (s : ByteArray) (w : World) (ht : Tabs w) :
    Calls Tryd.prog 5 #[.agg X, .string s] w fun ev w' => ev = .returned (.bool true) ∧ Below w.heap.size w w' := by
  have HT := Lib.hid ht
  have HX := Lib.hid hX
  have HLL := Lib.hid hl
  have hXs : (Tryd.prog.info? 24).map (·.size) = some (bv l).length := by rw [bv_length, hl]; exact arr32_info
  have HXs := Lib.hid hXs
  clear ht hX hl hXs
  go_enter Tryd.func5, Tryd.ntmps5
  go_wp2_with (first
    | (refine wpList_box rfl 24 (.tmp 0) rfl X rfl ?_; intro w1 hb1 hw1 hz1; refine stopped ?_)
    | fail)
  refine go_on ?_
  rw [HX.out] at hb1
  obtain ⟨g2, eg2⟩ : ∃ g, w.heap.size = g := ⟨_, rfl⟩
  rw [eg2] at hb1 ⊢
  have H1 := Lib.hid (And.intro hb1 (And.intro hw1 (HT.out.on hw1 (Nat.le_refl _))))
  clear hb1 hw1 hz1 eg2
  go_wp2_with (first | (with_reducible refine at_load 24 ?_; refine stopped ?_) | (with_reducible refine at_build 24 ?_; refine stopped ?_) | fail)
  refine go_on ?_
  refine wpList_wanted (by rfl) (fun K hK => wp_load_at 24 (.tmp 2) rfl g2 0 rfl (bv l).toArray _ (Blk.cells H1.out.1) Tryd.underlying24 rfl (by rw [List.size_toArray]; exact HXs.out) (hK _ _ ?_))
  simp only [Act.put, List.setIfInBounds_toArray, List.set_cons_zero, List.set_cons_succ]
  go_wp2_with fail
  refine (hex_any l HLL.out (bv l).toArray rfl w1).mono ?_
  rintro e w2 ⟨rfl, hw2⟩
  obtain ⟨R, eR⟩ : ∃ R : ByteArray, ⟨(hexOf l).toArray⟩ = R := ⟨_, rfl⟩
  rw [eR]
  have HR := Lib.hid eR
  have H2 := Lib.hid (And.intro (H1.out.1.below hw2 H1.out.1.lt) (And.intro (H1.out.2.1.trans (hw2.mono H1.out.2.1.size)) (H1.out.2.2.on hw2 (Nat.le_refl _))))
  clear eR hw2
  go_wp2_with fail
  have hun := unhex_any R (hexOf l) (by rw [← HR.out]) w2
  rw [unhexV_hexOf l HLL.out, hexOk_hexOf l HLL.out] at hun
  refine hun.mono ?_
  rintro e w3 ⟨rfl, hw3⟩
  have H3 := Lib.hid (And.intro (H2.out.1.below hw3 H2.out.1.lt) (And.intro (H2.out.2.1.trans (hw3.mono H2.out.2.1.size)) (H2.out.2.2.on hw3 (Nat.le_refl _))))
  clear hun hw3
  go_wp2_with (first
    | (refine wpList_alloc rfl 24 rfl _ arr32_zero ?_; intro w4 hb4 hw4 hz4; refine stopped ?_)
    | fail)
  refine go_on ?_
  refine wpList_store_whole rfl 24 (.tmp 5) (.tmp 13) rfl w3.heap.size (bv l) rfl rfl 24 (bv (List.replicate 32 0)) hb4 HXs.out (by rw [bv_length, bv_length, HLL.out]; rfl) (bv_one _) ?_
  intro w5 hb5 hg5
  simp only [Act.put, List.setIfInBounds_toArray, List.set_cons_zero, List.set_cons_succ]
  have hbb5 : Below w3.heap.size w3 w5 := hw4.trans (only_below hg5 hw4.size (fun g e => by cases e; exact Nat.le_refl _))
  obtain ⟨g5, eg5⟩ : ∃ g, w3.heap.size = g := ⟨_, rfl⟩
  rw [eg5] at hb5 ⊢
  have H5 := Lib.hid (And.intro hb5 (And.intro (H3.out.1.below hbb5 H3.out.1.lt) (And.intro (H3.out.2.1.trans (hbb5.mono H3.out.2.1.size)) (H3.out.2.2.on hbb5 (Nat.le_refl _)))))
  clear hb4 hw4 hz4 hb5 hg5 hbb5 eg5
  go_wp2_with fail
  refine (unhex_any s _ rfl w5).mono ?_
  rintro e w6 ⟨rfl, hw6⟩
  obtain ⟨V, eV⟩ : ∃ V, unhexV s.data.toList = V := ⟨_, rfl⟩
  have hVl : V.length = 32 := by rw [← eV, unhexV_length]
  have hVi : (Tryd.prog.info? 24).map (·.size) = some (bv V).length := by rw [bv_length, hVl]; exact arr32_info
  rw [eV]
  have HV := Lib.hid (And.intro eV (And.intro hVl hVi))
  have H6 := Lib.hid (And.intro (H5.out.1.below hw6 H5.out.1.lt) (And.intro (H5.out.2.1.below hw6 H5.out.2.1.lt) (And.intro (H5.out.2.2.1.trans (hw6.mono H5.out.2.2.1.size)) (H5.out.2.2.2.on hw6 (Nat.le_refl _)))))
  clear hw6 eV hVl hVi
  obtain ⟨e8, ee8⟩ : ∃ e8 : Int, (if hexOk s.data.toList = true then (0 : Int) else 3) = e8 := ⟨_, rfl⟩
  rw [ee8]
  have HE8 := Lib.hid ee8
  clear ee8
  go_wp2_with (first
    | (refine wpList_alloc rfl 24 rfl _ arr32_zero ?_; intro w7 hb7 hw7 hz7; refine stopped ?_)
    | fail)
  refine go_on ?_
  refine wpList_store_whole rfl 24 (.tmp 7) (.tmp 18) rfl w6.heap.size (bv V) rfl rfl 24 (bv (List.replicate 32 0)) hb7 HV.out.2.2 (by rw [bv_length, bv_length, HV.out.2.1]; rfl) (bv_one _) ?_
  intro w8 hb8 hg8
  simp only [Act.put, List.setIfInBounds_toArray, List.set_cons_zero, List.set_cons_succ]
  have hbb8 : Below w6.heap.size w6 w8 := hw7.trans (only_below hg8 hw7.size (fun g e => by cases e; exact Nat.le_refl _))
  obtain ⟨g7, eg7⟩ : ∃ g, w6.heap.size = g := ⟨_, rfl⟩
  rw [eg7] at hb8 ⊢
  have H8 := Lib.hid (And.intro hb8 (And.intro (H6.out.1.below hbb8 H6.out.1.lt) (And.intro (H6.out.2.1.below hbb8 H6.out.2.1.lt) (And.intro (H6.out.2.2.1.trans (hbb8.mono H6.out.2.2.1.size)) (H6.out.2.2.2.on hbb8 (Nat.le_refl _))))))
  clear hb7 hw7 hz7 hb8 hg8 hbb8 eg7
  have hq := fun w => eq32 l HLL.out w
  have hg := eqg32
  cases hk : hexOk s.data.toList with
  | true =>
    have he8 : e8 = 0 := by rw [← HE8.out, hk]; rfl
    subst he8
    clear HE8
    go_wp2_with (first | (with_reducible refine at_load 24 ?_; refine stopped ?_) | (with_reducible refine at_build 24 ?_; refine stopped ?_) | fail)
    refine go_on ?_
    refine wpList_wanted (by rfl) (fun K hK => wp_load_at 24 (.tmp 5) rfl g5 0 rfl (bv l).toArray _ (Blk.cells H8.out.2.1) Tryd.underlying24 rfl (by rw [List.size_toArray]; exact HXs.out) (hK _ _ ?_))
    simp only [Act.put, List.setIfInBounds_toArray, List.set_cons_zero, List.set_cons_succ]
    refine wpList_wanted (by rfl) (fun K hK => wp_load_at 24 (.tmp 2) rfl g2 0 rfl (bv l).toArray _ (Blk.cells H8.out.2.2.1) Tryd.underlying24 rfl (by rw [List.size_toArray]; exact HXs.out) (hK _ _ ?_))
    simp only [Act.put, List.setIfInBounds_toArray, List.set_cons_zero, List.set_cons_succ]
    go_wp2_with (first | (with_reducible refine at_load 24 ?_; refine stopped ?_) | (with_reducible refine at_build 24 ?_; refine stopped ?_) | fail)
    refine go_on ?_
    refine wpList_unwanted ?hu ?_
    case hu => rfl
    simp only [Act.put, List.setIfInBounds_toArray, List.set_cons_zero, List.set_cons_succ]
    go_wp2_with (first | (with_reducible refine at_load 24 ?_; refine stopped ?_) | (with_reducible refine at_build 24 ?_; refine stopped ?_) | fail)
    refine go_on ?_
    refine wpList_unwanted ?hu ?_
    case hu => rfl
    simp only [Act.put, List.setIfInBounds_toArray, List.set_cons_zero, List.set_cons_succ]
    go_wp2_with (first | (with_reducible refine at_load 24 ?_; refine stopped ?_) | (with_reducible refine at_build 24 ?_; refine stopped ?_) | fail)
    refine go_on ?_
    refine wpList_wanted (by rfl) (fun K hK => wp_load_at 24 (.tmp 7) rfl g7 0 rfl (bv V).toArray _ (Blk.cells H8.out.1) Tryd.underlying24 rfl (by rw [List.size_toArray]; exact HV.out.2.2) (hK _ _ ?_))
    simp only [Act.put, List.setIfInBounds_toArray, List.set_cons_zero, List.set_cons_succ]
    clear hq
    go_wp2_with fail
    refine (hex_any V HV.out.2.1 (bv V).toArray rfl w8).mono ?_
    rintro e w9 ⟨rfl, hw9⟩
    have hst : (⟨(hexOf V).toArray⟩ : ByteArray) = s := by
      rw [← HV.out.1, hexOf_unhexV _ hk]
    rw [hst]
    have H9 := Lib.hid (And.intro (H8.out.2.2.2.1.trans (hw9.mono H8.out.2.2.2.1.size)) (H8.out.2.2.2.2.on hw9 (Nat.le_refl _)))
    clear hw9 hst
    go_wp2_with fail
    refine (shaAwake_true w9 H9.out.2).mono ?_
    rintro e w10 ⟨rfl, hw10⟩
    go_wp2_with fail
    go_ret
    exact ⟨rfl, H9.out.1.trans (hw10.mono H9.out.1.size)⟩
  | false =>
    have he8 : e8 = 3 := by rw [← HE8.out, hk]; rfl
    subst he8
    clear HE8
    have hVz : V = List.replicate 32 0 := by rw [← HV.out.1]; exact (un_no hk).1
    obtain ⟨Z, eZ⟩ : ∃ Z, (bv (List.replicate 32 0)).toArray = Z := ⟨_, rfl⟩
    have hq2 : ∀ w, (Op.equalIn 10000 24 (.agg Z) (.agg Z)).run Tryd.prog w = .ok true w := fun w => by rw [← eZ]; exact eq32 _ (by simp) w
    have hz7 : Blk w8 g7 24 Z := by rw [← eZ, ← hVz]; exact H8.out.1
    have hzi : (Tryd.prog.info? 24).map (·.size) = some Z.size := by rw [← eZ]; exact arr32_info
    have HZ := Lib.hid (And.intro hz7 (And.intro hzi eZ))
    have HQ2 := Lib.hid hq2
    clear hVz hq2 hz7 hzi eZ
    go_wp2_with (first | (with_reducible refine at_load 24 ?_; refine stopped ?_) | (with_reducible refine at_build 24 ?_; refine stopped ?_) | fail)
    refine go_on ?_
    refine wpList_wanted (by rfl) (fun K hK => wp_load_at 24 (.tmp 5) rfl g5 0 rfl (bv l).toArray _ (Blk.cells H8.out.2.1) Tryd.underlying24 rfl (by rw [List.size_toArray]; exact HXs.out) (hK _ _ ?_))
    simp only [Act.put, List.setIfInBounds_toArray, List.set_cons_zero, List.set_cons_succ]
    refine wpList_wanted (by rfl) (fun K hK => wp_load_at 24 (.tmp 2) rfl g2 0 rfl (bv l).toArray _ (Blk.cells H8.out.2.2.1) Tryd.underlying24 rfl (by rw [List.size_toArray]; exact HXs.out) (hK _ _ ?_))
    simp only [Act.put, List.setIfInBounds_toArray, List.set_cons_zero, List.set_cons_succ]
    go_wp2_with (first | (with_reducible refine at_load 24 ?_; refine stopped ?_) | (with_reducible refine at_build 24 ?_; refine stopped ?_) | fail)
    refine go_on ?_
    refine wpList_wanted (by rfl) (fun K hK => wp_load_at 24 (.tmp 7) rfl g7 0 rfl Z _ (Blk.cells HZ.out.1) Tryd.underlying24 rfl HZ.out.2.1 (hK _ _ ?_))
    simp only [Act.put, List.setIfInBounds_toArray, List.set_cons_zero, List.set_cons_succ]
    refine wpList_wanted (by rfl) (fun K hK => wp_build_is 24 _ rfl (bv (List.replicate 32 0)).toArray (by kernel_rfl) (hK _ _ ?_))
    simp only [Act.put, List.setIfInBounds_toArray, List.set_cons_zero, List.set_cons_succ]
    rw [HZ.out.2.2]
    clear hq
    have hq := HQ2.out
    go_wp2_with fail
    refine (shaAwake_true w8 H8.out.2.2.2.2).mono ?_
    rintro e w10 ⟨rfl, hw10⟩
    go_wp2_with fail
    go_ret
    exact ⟨rfl, H8.out.2.2.2.1.trans (hw10.mono H8.out.2.2.2.1.size)⟩
end Go.Proofs.YtjhkoepcolpclaaDoor
