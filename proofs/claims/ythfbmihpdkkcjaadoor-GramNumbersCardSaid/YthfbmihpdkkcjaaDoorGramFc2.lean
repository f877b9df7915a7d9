/-
  Package gram's functions roomOf, start and after, by their contracts. Conditions: each theorem's own premises.
-/
import Derived.Test.YthfbmihpdkkcjaaDoorGramFc
namespace Go.Proofs.YthfbmihpdkkcjaaDoor
open Go.RowKit

/-- the most signs in the place of a list until it is gone -/
def rmF (f : Sg → Nat) : List Sg → Nat
  | [] => 0
  | s :: r => max (max (r.length + 1) (r.length + f s)) (rmF f r)
def mxF (f : Sg → Nat) (l : List Sg) (n : Nat) : Nat → Nat
  | 0 => n
  | k + 1 => max (mxF f l n k) (n - k - 1 + f (l.getD k ⟨0, 0, 0⟩))
theorem mxF_le (f : Sg → Nat) (l : List Sg) (n : Nat) : ∀ k, n ≤ mxF f l n k
  | 0 => Nat.le_refl _
  | k + 1 => Nat.le_trans (mxF_le f l n k) (Nat.le_max_left ..)
theorem mxF_drop (f : Sg → Nat) (l : List Sg) : ∀ k, k ≤ l.length → max l.length (rmF f l) = max (mxF f l l.length k) (rmF f (l.drop k))
  | 0, _ => rfl
  | k + 1, hk => by
    have ih := mxF_drop f l k (by omega)
    rw [ih, List.drop_eq_getElem_cons (show k < l.length by omega), rmF, List.length_drop]
    have h1 := mxF_le f l l.length k
    rw [mxF, show l.getD k ⟨0, 0, 0⟩ = l[k]'(by omega) by rw [List.getD_eq_getElem?_getD, List.getElem?_eq_getElem (by omega)]; rfl, show l.length - k - 1 = l.length - (k + 1) by omega]
    generalize f l[k] = y
    generalize rmF f (List.drop (k + 1) l) = z
    omega
theorem mxF_all (f : Sg → Nat) (l : List Sg) : mxF f l l.length l.length = rmF f l := by
  have h := mxF_drop f l l.length (Nat.le_refl _)
  rw [List.drop_length, rmF] at h
  have h2 : l.length ≤ rmF f l := by
    cases l with
    | nil => exact Nat.zero_le _
    | cons s r => rw [rmF, List.length_cons]; omega
  omega
def Fc.rm (F : Fc) (s : Sg) : Nat := (F.room s.n.toNat).toNat
def Fc.RmLe (F : Fc) (M : Nat) : Prop := ∀ i, 0 ≤ F.room i ∧ F.room i ≤ (M : Int)
theorem rmF_le {f : Sg → Nat} {M : Nat} (hf : ∀ s, f s ≤ M) : ∀ l : List Sg, rmF f l ≤ l.length + M
  | [] => Nat.zero_le _
  | s :: r => by
    have := rmF_le hf r
    have := hf s
    rw [rmF, List.length_cons]
    omega
theorem mxF_bd {f : Sg → Nat} {M : Nat} (hf : ∀ s, f s ≤ M) (l : List Sg) (n : Nat) : ∀ k, mxF f l n k ≤ n + M
  | 0 => Nat.le_add_right ..
  | k + 1 => by
    have := mxF_bd hf l n k
    have := hf (l.getD k ⟨0, 0, 0⟩)
    rw [mxF]
    omega
/-- the first bytes of a list, as far as they are known -/
def Fc.stL (F : Fc) (acc : S4) : List Sg → S4
  | [] => acc
  | s :: r => if s.n < 0 then acc.or (S4.btw s.lo s.hi) else if (F.at 1).has s.n.toNat then F.stL (acc.or (F.at (2 + s.n.toNat))) r else acc.or (F.at (2 + s.n.toNat))
theorem Fc.stL_ok {F : Fc} (hF : F.Ok) : ∀ (l : List Sg) (acc : S4), acc.Ok → (F.stL acc l).Ok
  | [], _, h => h
  | s :: r, acc, h => by
    unfold Fc.stL
    split
    · exact S4.or_ok h (S4.btw_ok _ _)
    · split
      · exact Fc.stL_ok hF r _ (S4.or_ok h (hF.at _))
      · exact S4.or_ok h (hF.at _)
def Fc.aft (F : Fc) (X : Int) (r : List Sg) : S4 := if F.vanL r then (F.stL S4.z r).or (F.at (18 + X.toNat)) else F.stL S4.z r
theorem Fc.aft_ok {F : Fc} (hF : F.Ok) (X : Int) (r : List Sg) : (F.aft X r).Ok := by
  unfold Fc.aft
  split
  · exact S4.or_ok (Fc.stL_ok hF _ _ S4.z_ok) (hF.at _)
  · exact Fc.stL_ok hF _ _ S4.z_ok
def IntPost (w : World) (z : Nat) (e : Ending) (w' : World) : Prop := e = .returned (.int .i64 (z : Int)) ∧ Below w.heap.size w w'
set_option maxRecDepth 100000 in
set_option maxHeartbeats 4000000 in
set_option linter.unusedSimpArgs false in
theorem gfRoomOf (w : World) (g : Nat) (F : Fc) (hF : F.Ok) (hf : FcAt w g F) (A : Option Addr) (l : List Sg) (n cp : Nat) (hA : Vs w w.heap.size A (svs l)) (hl : l.length = n) (hb : BodyOk l) (M : Nat) (hM : M ≤ 16000000) (hR : F.RmLe M) (h0 : ∀ s ∈ l, 0 ≤ s.n) : Calls Tryd.prog 42 #[.pointer (some ⟨g, 0, none⟩), .slice A n cp] w (IntPost w (rmF F.rm l)) := by
  have hg : g < w.heap.size := Blk.lt hf
  have hn9 : n ≤ 9 := by rw [← hl]; exact hb.len
  have H := Lib.hid (And.intro hf (And.intro hA (And.intro hl (And.intro hb hF))))
  clear hf hA hl hb
  have hfm : ∀ s, F.rm s ≤ M := fun s => by have := hR s.n.toNat; unfold Fc.rm; omega
  have HM := Lib.hid (And.intro hR (And.intro h0 hfm))
  clear hR h0 hfm
  go_enter Tryd.func42, Tryd.ntmps42
  go_wp2_with fail
  go_loopw [5, 13] (fun v u wz => ∃ k q : Nat, k ≤ n ∧ u = .int .i64 (k : Int) ∧ v = .int .i64 (q : Int) ∧ mxF F.rm l n k = q ∧ Below w.heap.size w wz) (fun _ u _ => n - (intOf u).toNat)
  case atStart => exact ⟨0, n, by omega, rfl, rfl, rfl, Below.refl _ _⟩
  case round =>
    obtain ⟨k, q, hk, rfl, rfl, hq, hbel⟩ := hrel
    have HI := Lib.hid (And.intro hbel hq)
    have hqb : q ≤ n + M := by rw [← hq]; exact mxF_bd HM.out.2.2 l n k
    clear hq
    by_cases hlt : k < n
    · have hki : (k : Int) < (n : Int) := by omega
      have hk0 : (0 : Int) ≤ (k : Int) := by omega
      obtain ⟨b, o, rfl, hbl, hcl⟩ := svs_cells H.out.2.1 (k := k) (by rw [H.out.2.2.1]; exact hlt)
      have hsg := H.out.2.2.2.1.get (k := k) (by rw [H.out.2.2.1]; exact hlt)
      have hs0 : 0 ≤ (l.getD k ⟨0, 0, 0⟩).n := HM.out.2.1 _ (by
        have hkl : k < l.length := by rw [H.out.2.2.1]; exact hlt
        rw [List.getD_eq_getElem?_getD, List.getElem?_eq_getElem hkl]; exact List.getElem_mem hkl)
      have hcs := hcl wr hbel
      obtain ⟨x, ex⟩ : ∃ x, l.getD k ⟨0, 0, 0⟩ = x := ⟨_, rfl⟩
      rw [ex] at hcs hsg hs0
      have HX := Lib.hid (And.intro hsg (And.intro ex hs0))
      clear hcl ex hsg hs0
      go_wp2_with (first
        | (with_reducible refine st_load 42 ?_; refine stopped ?_)
        | fail)
      refine go_on ?_
      refine wpList_load_at rfl 42 (.tmp 16) rfl b (o + k * 3) rfl x.cells.toArray _ hcs Tryd.underlying42 rfl sg_size4 ?_
      simp only [Act.put, List.setIfInBounds_toArray, List.set_cons_zero, List.set_cons_succ]
      refine wpList_alloc rfl 42 rfl _ sg_zero ?_
      intro w8 hb8 hw8 hz8
      simp only [Act.put, List.setIfInBounds_toArray, List.set_cons_zero, List.set_cons_succ]
      go_wp2_with (first | (with_reducible refine st_store 42 ?_; refine stopped ?_) | fail)
      refine go_on ?_
      refine wpList_store_whole rfl 42 (.tmp 7) (.tmp 17) rfl wr.heap.size x.cells rfl rfl 42 (Sg.cells ⟨0, 0, 0⟩) hb8 sg_size4 rfl (sg_one4 _) ?_
      intro w9 hx9 hg9
      refine wpList_nil ?_
      simp only [Act.put, List.setIfInBounds_toArray, List.set_cons_zero, List.set_cons_succ]
      have hb9 : Below wr.heap.size wr w9 := hw8.grown hg9 hw8.size (fun j e => by cases e; exact Nat.le_refl _)
      have hb9' : Below w.heap.size w w9 := hbel.trans (hb9.mono hbel.size)
      obtain ⟨gx, egx⟩ : ∃ gx, wr.heap.size = gx := ⟨_, rfl⟩
      rw [egx] at hx9 ⊢
      obtain ⟨xn, exn⟩ : ∃ z, x.n = z := ⟨_, rfl⟩
      obtain ⟨xl, exl⟩ : ∃ z, x.lo = z := ⟨_, rfl⟩
      obtain ⟨xh, exh⟩ : ∃ z, x.hi = z := ⟨_, rfl⟩
      have k0 : ∀ W, Below w9.heap.size w9 W → W.cell? ⟨gx, 0, none⟩ = some (.int .i64 xn) := fun W h => by rw [h.cell (p := ⟨gx, 0, none⟩) hx9.lt, ← exn]; exact Blk.cell hx9 0
      have k1 : ∀ W, Below w9.heap.size w9 W → W.cell? ⟨gx, 1, none⟩ = some (.int .u8 (xl : Int)) := fun W h => by rw [h.cell (p := ⟨gx, 1, none⟩) hx9.lt, ← exl]; exact Blk.cell hx9 1
      have k2 : ∀ W, Below w9.heap.size w9 W → W.cell? ⟨gx, 2, none⟩ = some (.int .u8 (xh : Int)) := fun W h => by rw [h.cell (p := ⟨gx, 2, none⟩) hx9.lt, ← exh]; exact Blk.cell hx9 2
      have j0 := k0 w9 (Below.refl _ _)
      have j1 := k1 w9 (Below.refl _ _)
      have j2 := k2 w9 (Below.refl _ _)
      obtain ⟨m, em⟩ : ∃ m : Nat, xn = (m : Int) := ⟨xn.toNat, by have := HX.out.2.2; omega⟩
      have hm0 : (0 : Int) ≤ (m : Int) := by omega
      have hm16 : m < 16 := by have := HX.out.1.1; omega
      rw [em] at k0 j0
      obtain ⟨y, ey⟩ : ∃ y, F.rm x = y := ⟨_, rfl⟩
      have hyM : y ≤ M := by rw [← ey]; exact HM.out.2.2 x
      have hroom : F.room m = (y : Int) := by
        have h1 := HM.out.1 m
        rw [← ey]
        unfold Fc.rm
        rw [exn, em, Int.toNat_natCast]
        omega
      have hrc : w9.cell? ⟨g, 328 + m, none⟩ = some (.int .i64 (y : Int)) := by rw [← hroom]; exact FcAt.rc (FcAt.below H.out.1 hb9' hg) H.out.2.2.2.2 hm16 rfl
      have H9 := Lib.hid (And.intro hb9' (And.intro ey exn))
      clear hb9' hx9 hg9 hb8 hw8 hz8 hb9 exn exl exh egx em ey hroom
      obtain ⟨r, er⟩ : ∃ r, n - k - 1 = r := ⟨_, rfl⟩
      have hri : (n : Int) - (k : Int) - 1 = (r : Int) := by omega
      have hnext : mxF F.rm l n (k + 1) = max q (r + y) := by rw [mxF, HI.out.2, HX.out.2.1, H9.out.2.1, er]
      have HN := Lib.hid hnext
      clear hnext er
      obtain ⟨z, ez⟩ : ∃ z, r + y = z := ⟨_, rfl⟩
      have ezi : (r : Int) + (y : Int) = (z : Int) := by omega
      have hzb : z ≤ 16000020 := by omega
      go_wp2_with fail
      go_region
      go_wp2_with fail
      go_roundw
      case rel => exact ⟨k + 1, max q z, by omega, by go_num, by split <;> (congr 1; omega), by rw [HN.out, ez], H9.out.1.drew⟩
      case measure => simp [intOf]; omega
    · obtain rfl : k = n := by omega
      have hkn : ¬ (k : Int) < (k : Int) := by omega
      go_wp2_with fail
      go_ret
      exact ⟨by rw [← mxF_all, H.out.2.2.1, HI.out.2]; rfl, HI.out.1⟩
/-- start on its way: the set's variable, the result's -/
structure StAt (w W : World) (g1 : Nat) (acc : S4) : Prop where
  s : SetAt W g1 acc
  r : SetAt W w.heap.size S4.z
  lt : w.heap.size < g1
  bel : Below w.heap.size w W
  ok : acc.Ok
theorem StAt.below {w W W' : World} {g1 : Nat} {acc : S4} (h : StAt w W g1 acc) (hb : Below W.heap.size W W') : StAt w W' g1 acc :=
  ⟨h.s.below hb, h.r.below hb, h.lt, h.bel.trans (hb.mono h.bel.size), h.ok⟩
set_option maxRecDepth 100000 in
set_option maxHeartbeats 4000000 in
set_option linter.unusedSimpArgs false in
theorem gfStart (w : World) (g : Nat) (F : Fc) (hF : F.Ok) (hf : FcAt w g F) (A : Option Addr) (l : List Sg) (n cp : Nat) (hA : Vs w w.heap.size A (svs l)) (hl : l.length = n) (hb : BodyOk l) : Calls Tryd.prog 43 #[.pointer (some ⟨g, 0, none⟩), .slice A n cp] w (SetPost w (F.stL S4.z l)) := by
  have hg : g < w.heap.size := Blk.lt hf
  have hn9 : n ≤ 9 := by rw [← hl]; exact hb.len
  have H := Lib.hid (And.intro hf (And.intro hA (And.intro hl (And.intro hb hF))))
  clear hf hA hl hb
  obtain ⟨U, eU⟩ : ∃ U, F.stL S4.z l = U := ⟨_, rfl⟩
  have HU := Lib.hid eU
  rw [eU]
  clear eU
  go_enter Tryd.func43, Tryd.ntmps43
  go_wp2_with (first
    | (refine wpList_alloc (o := ⟨some 4, _, _, _, _, _⟩) rfl 56 rfl _ set_zero ?_; intro w3 hb3 hw3 hz3)
    | (refine wpList_alloc (o := ⟨some 5, _, _, _, _, _⟩) rfl 56 rfl _ set_zero ?_; intro w4 hb4 hw4 hz4)
    | fail)
  rw [hz3] at hb4
  have hbel4 : Below w.heap.size w w4 := hw3.trans (hw4.mono (by omega))
  have hb3' : SetAt w4 w.heap.size S4.z := SetAt.below hb3 hw4
  obtain ⟨g1, eg1⟩ : ∃ g1, w.heap.size + 1 = g1 := ⟨_, rfl⟩
  rw [eg1] at hb4 ⊢
  have hg1 : w.heap.size < g1 := by omega
  have H0 := Lib.hid (StAt.mk (acc := S4.z) hb4 hb3' hg1 hbel4 S4.z_ok)
  clear hb3 hw3 hz3 hb4 hw4 hz4 hbel4 hb3' eg1
  go_loopw [10] (fun u wz => ∃ (k : Nat) (acc : S4), k ≤ n ∧ u = .int .i64 (k : Int) ∧ StAt w wz g1 acc ∧ F.stL acc (l.drop k) = U) (fun u _ => n - (intOf u).toNat)
  case atStart => exact ⟨0, S4.z, by omega, rfl, H0.out, HU.out⟩
  case round =>
    obtain ⟨k, acc, hk, rfl, hst, hU⟩ := hrel
    have hbel := hst.bel
    by_cases hlt : k < n
    · have hki : (k : Int) < (n : Int) := by omega
      have hk0 : (0 : Int) ≤ (k : Int) := by omega
      obtain ⟨b, o, rfl, hbl, hcl⟩ := svs_cells H.out.2.1 (k := k) (by rw [H.out.2.2.1]; exact hlt)
      have hsg := H.out.2.2.2.1.get (k := k) (by rw [H.out.2.2.1]; exact hlt)
      have hkl : k < l.length := by rw [H.out.2.2.1]; exact hlt
      have hdr : l.drop k = l.getD k ⟨0, 0, 0⟩ :: l.drop (k + 1) := by rw [List.drop_eq_getElem_cons hkl, List.getD_eq_getElem?_getD, List.getElem?_eq_getElem hkl]; rfl
      rw [hdr, Fc.stL] at hU
      have hcs := hcl wr hbel
      obtain ⟨x, ex⟩ : ∃ x, l.getD k ⟨0, 0, 0⟩ = x := ⟨_, rfl⟩
      rw [ex] at hcs hsg hU
      have HX := Lib.hid (And.intro hsg (And.intro hst hU))
      clear hcl ex hsg hst hU hdr hkl
      go_wp2_with (first
        | (with_reducible refine st_load 42 ?_; refine stopped ?_)
        | fail)
      refine go_on ?_
      refine wpList_load_at rfl 42 (.tmp 12) rfl b (o + k * 3) rfl x.cells.toArray _ hcs Tryd.underlying42 rfl sg_size4 ?_
      simp only [Act.put, List.setIfInBounds_toArray, List.set_cons_zero, List.set_cons_succ]
      refine wpList_alloc rfl 42 rfl _ sg_zero ?_
      intro w8 hb8 hw8 hz8
      simp only [Act.put, List.setIfInBounds_toArray, List.set_cons_zero, List.set_cons_succ]
      refine wpList_store_whole rfl 42 (.tmp 7) (.tmp 13) rfl wr.heap.size x.cells rfl rfl 42 (Sg.cells ⟨0, 0, 0⟩) hb8 sg_size4 rfl (sg_one4 _) ?_
      intro w9 hx9 hg9
      refine wpList_nil ?_
      simp only [Act.put, List.setIfInBounds_toArray, List.set_cons_zero, List.set_cons_succ]
      have hb9 : Below wr.heap.size wr w9 := hw8.grown hg9 hw8.size (fun j e => by cases e; exact Nat.le_refl _)
      have hb9' : Below w.heap.size w w9 := hbel.trans (hb9.mono hbel.size)
      obtain ⟨gx, egx⟩ : ∃ gx, wr.heap.size = gx := ⟨_, rfl⟩
      rw [egx] at hx9 ⊢
      obtain ⟨xn, exn⟩ : ∃ z, x.n = z := ⟨_, rfl⟩
      obtain ⟨xl, exl⟩ : ∃ z, x.lo = z := ⟨_, rfl⟩
      obtain ⟨xh, exh⟩ : ∃ z, x.hi = z := ⟨_, rfl⟩
      have k0 : ∀ W, Blk W gx 42 x.cells.toArray → W.cell? ⟨gx, 0, none⟩ = some (.int .i64 xn) := fun W h => by rw [← exn]; exact Blk.cell h 0
      have k1 : ∀ W, Blk W gx 42 x.cells.toArray → W.cell? ⟨gx, 1, none⟩ = some (.int .u8 (xl : Int)) := fun W h => by rw [← exl]; exact Blk.cell h 1
      have k2 : ∀ W, Blk W gx 42 x.cells.toArray → W.cell? ⟨gx, 2, none⟩ = some (.int .u8 (xh : Int)) := fun W h => by rw [← exh]; exact Blk.cell h 2
      have j0 := k0 w9 hx9
      have j1 := k1 w9 hx9
      have j2 := k2 w9 hx9
      have hlx : xl < 256 := by rw [← exl]; exact HX.out.1.2.2.1
      have hhx : xh < 256 := by rw [← exh]; exact HX.out.1.2.2.2
      have hst9 := HX.out.2.1.below hb9
      have hgx : g1 < gx := by rw [← egx]; exact HX.out.2.1.s.lt
      have hb9w : Below w.heap.size w w9 := hst9.bel
      have hb9d : Below w.heap.size w w9.drew := hst9.bel.drew
      have hcF : ∀ W, Below w.heap.size w W → ∀ i, i < 82 → ∀ oo, oo = 4 * i → Cells W g oo (F.at i).cells.toArray := fun W h i hi oo ho => FcAt.cs (FcAt.below H.out.1 h hg) H.out.2.2.2.2 hi ho
      have HC := Lib.hid hcF
      have H9 := Lib.hid (And.intro hst9 (And.intro exn (And.intro exl (And.intro exh hx9))))
      clear hcF hx9 hg9 hb8 hw8 hz8 hb9 exn exl exh egx hst9
      by_cases hneg : xn < 0
      · have hUx := HX.out.2.2
        rw [H9.out.2.1, if_pos hneg, H9.out.2.2.1, H9.out.2.2.2.1] at hUx
        have HUx := Lib.hid hUx
        clear hUx
        go_wp2_with fail
        have hS0 : (fun W : World => SetAt W g1 acc ∧ Blk W gx 42 x.cells.toArray) w9.drew := ⟨H9.out.1.s.drew, Blk.drewN H9.out.2.2.2.2 1⟩
        refine wp_region_held_drew (S := fun W : World => SetAt W g1 acc ∧ Blk W gx 42 x.cells.toArray) (by kernel_rfl) hS0 (fun hHeld => ?_)
        refine wpAnyH_take (i := 0) (v := .agg (acc).cells.toArray) (List.getElem?_toArray.trans (List.getElem?_cons_zero)) (by kernel_rfl) (by kernel_rfl) (by kernel_rfl) (fun _ _ _ h => h) (Or.inl ⟨by rfl, ?_⟩) (by assumption) ?_
        · intro w' hSw; exact exec_load_ag 56 (.tmp 5) rfl g1 (0) rfl (acc).cells.toArray _ (Blk.cells hSw.1) Tryd.underlying56 rfl set_size
        try simp only [Act.put, List.setIfInBounds_toArray, List.set_cons_zero, List.set_cons_succ]
        refine wpAnyH_take (i := 1) (v := ?_) (List.getElem?_toArray.trans (List.getElem?_cons_succ.trans (List.getElem?_cons_zero))) (by kernel_rfl) (by kernel_rfl) (by kernel_rfl) (fun _ _ _ h => h) (Or.inl ⟨by rfl, ?_⟩) (by assumption) ?_
        rotate_left
        · intro w' hSw; (try dsimp only at hSw); go_simp; try with_reducible rfl
        try simp only [Act.put, List.setIfInBounds_toArray, List.set_cons_zero, List.set_cons_succ]
        refine wpAnyH_take (i := 2) (v := ?_) (List.getElem?_toArray.trans (List.getElem?_cons_succ.trans (List.getElem?_cons_succ.trans (List.getElem?_cons_zero)))) (by kernel_rfl) (by kernel_rfl) (by kernel_rfl) (fun _ _ _ h => h) (Or.inl ⟨by rfl, ?_⟩) (by assumption) ?_
        rotate_left
        · intro w' hSw; (try dsimp only at hSw); go_simp; try with_reducible rfl
        try simp only [Act.put, List.setIfInBounds_toArray, List.set_cons_zero, List.set_cons_succ]
        refine wpAnyH_take (i := 3) (v := ?_) (List.getElem?_toArray.trans (List.getElem?_cons_succ.trans (List.getElem?_cons_succ.trans (List.getElem?_cons_succ.trans (List.getElem?_cons_zero))))) (by kernel_rfl) (by kernel_rfl) (by kernel_rfl) (fun _ _ _ h => h) (Or.inl ⟨by rfl, ?_⟩) (by assumption) ?_
        rotate_left
        · intro w' hSw; (try dsimp only at hSw); go_simp; try with_reducible rfl
        try simp only [Act.put, List.setIfInBounds_toArray, List.set_cons_zero, List.set_cons_succ]
        refine wpAnyH_take (i := 4) (v := ?_) (List.getElem?_toArray.trans (List.getElem?_cons_succ.trans (List.getElem?_cons_succ.trans (List.getElem?_cons_succ.trans (List.getElem?_cons_succ.trans (List.getElem?_cons_zero)))))) (by kernel_rfl) (by kernel_rfl) (by kernel_rfl) (fun _ _ _ h => h) (Or.inl ⟨by rfl, ?_⟩) (by assumption) ?_
        rotate_left
        · intro w' hSw; (try dsimp only at hSw); go_simp; try with_reducible rfl
        try simp only [Act.put, List.setIfInBounds_toArray, List.set_cons_zero, List.set_cons_succ]
        refine wpAnyH_ready (rs := [5]) (by kernel_rfl) (by simp) ?_
        refine AllReadyH.cons (List.getElem?_toArray.trans (List.getElem?_cons_succ.trans (List.getElem?_cons_succ.trans (List.getElem?_cons_succ.trans (List.getElem?_cons_succ.trans (List.getElem?_cons_succ.trans (List.getElem?_cons_zero))))))) (fun K hK => ?_) AllReadyH.nil
        go_simp
        go_at_call 52
        refine (gsBetween xl xh hlx hhx _).mono ?_
        rintro e w10 ⟨rfl, hb10⟩
        have hb10' : Below w9.heap.size w9 w10 := below_undr hb10
        obtain ⟨Y, eY⟩ : ∃ Y, S4.btw xl xh = Y := ⟨_, rfl⟩
        have hY : Y.Ok := by rw [← eY]; exact S4.btw_ok _ _
        rw [eY]
        refine hK.out _ _ ⟨(H9.out.1.below hb10').s, Blk.below H9.out.2.2.2.2 hb10' H9.out.2.2.2.2.lt⟩ (fun hHeld => ?_)
        clear hK K
        try simp only [Act.put, List.setIfInBounds_toArray, List.set_cons_zero, List.set_cons_succ]
        refine wpAnyH_ready (rs := [6]) (by kernel_rfl) (by simp) ?_
        refine AllReadyH.cons (List.getElem?_toArray.trans (List.getElem?_cons_succ.trans (List.getElem?_cons_succ.trans (List.getElem?_cons_succ.trans (List.getElem?_cons_succ.trans (List.getElem?_cons_succ.trans (List.getElem?_cons_succ.trans (List.getElem?_cons_zero)))))))) (fun K hK => ?_) AllReadyH.nil
        go_simp
        go_at_call 38
        refine (gsUnion acc Y H9.out.1.ok hY _).mono ?_
        rintro e w11 ⟨rfl, hb11⟩
        have hb11' : Below w9.heap.size w9 w11 := hb10'.trans (hb11.mono hb10'.size)
        have HUy : acc.or Y = U := by rw [← eY]; exact HUx.out
        rw [HUy]
        refine hK.out _ _ ⟨(H9.out.1.below hb11').s, Blk.below H9.out.2.2.2.2 hb11' H9.out.2.2.2.2.lt⟩ (fun hHeld => ?_)
        clear hK K
        try simp only [Act.put, List.setIfInBounds_toArray, List.set_cons_zero, List.set_cons_succ]
        refine wpAnyH_ready (rs := [7]) (by kernel_rfl) (by simp) ?_
        refine AllReadyH.cons (List.getElem?_toArray.trans (List.getElem?_cons_succ.trans (List.getElem?_cons_succ.trans (List.getElem?_cons_succ.trans (List.getElem?_cons_succ.trans (List.getElem?_cons_succ.trans (List.getElem?_cons_succ.trans (List.getElem?_cons_succ.trans (List.getElem?_cons_zero))))))))) (fun K hK => ?_) AllReadyH.nil
        refine wp_store_ag 56 (.tmp 4) (.tmp 23) rfl w.heap.size 0 U.cells rfl rfl 56 S4.z.cells (H9.out.1.below hb11').r set_size (by show 0 + 4 ≤ 4; decide) (set_one _) ?_
        intro w12 hb12 hg12
        have hst11 := H9.out.1.below hb11'
        refine hK.out _ _ ⟨Blk.grown hst11.s hg12 (some_neq (Nat.ne_of_gt hg1)), Blk.grown (Blk.below H9.out.2.2.2.2 hb11' H9.out.2.2.2.2.lt) hg12 (some_neq (by omega))⟩ (fun hHeld => ?_)
        clear hK K
        try simp only [Act.put, List.setIfInBounds_toArray, List.set_cons_zero, List.set_cons_succ]
        refine wpAnyH_done (by kernel_rfl) ?_ _
        rw [splice_whole S4.z.cells U.cells rfl] at hb12
        go_wp2_with fail
        refine bodyPost_row rfl w.heap.size rfl 56 _ _ hb12 Tryd.underlying56 rfl set_size rfl ⟨rfl, hst11.bel.grown hg12 hst11.bel.size (fun j e => by cases e; exact Nat.le_refl _)⟩
      · obtain ⟨m, rfl⟩ : ∃ m : Nat, xn = (m : Int) := ⟨xn.toNat, by omega⟩
        have hm0 : (0 : Int) ≤ (m : Int) := by omega
        have hm16 : m < 16 := by have := HX.out.1.1; rw [H9.out.2.1] at this; omega
        have hm16i : (m : Int) < 16 := by omega
        have hcv := u8_wrap16 m (by omega)
        have HH := Lib.hid (fun W => gsHas (F.at 1) (H.out.2.2.2.2.at 1) m (by omega) W)
        have hUx := HX.out.2.2
        rw [H9.out.2.1, if_neg hneg, Int.toNat_natCast] at hUx
        obtain ⟨tv, etv⟩ : ∃ z, (F.at 1).has m = z := ⟨_, rfl⟩
        rw [etv] at hUx
        have HUx := Lib.hid hUx
        clear hUx
        go_wp2_with fail
        have hS0 : (fun W : World => Cells W g (8 + m * 4) (F.at (2 + m)).cells.toArray ∧ Blk W gx 42 x.cells.toArray) w9.drew := ⟨HC.out _ hb9d (2 + m) (by omega) _ (by omega), Blk.drewN H9.out.2.2.2.2 1⟩
        refine wp_region_held_drew (S := fun W : World => Cells W g (8 + m * 4) (F.at (2 + m)).cells.toArray ∧ Blk W gx 42 x.cells.toArray) (by kernel_rfl) hS0 (fun hHeld => ?_)
        refine wpAnyH_take (i := 1) (v := ?_) (List.getElem?_toArray.trans (List.getElem?_cons_succ.trans (List.getElem?_cons_zero))) (by kernel_rfl) (by kernel_rfl) (by kernel_rfl) (fun _ _ _ h => h) (Or.inl ⟨by rfl, ?_⟩) (by assumption) ?_
        rotate_left
        · intro w' hSw; (try dsimp only at hSw); go_simp; try with_reducible rfl
        try simp only [Act.put, List.setIfInBounds_toArray, List.set_cons_zero, List.set_cons_succ]
        refine wpAnyH_take (i := 2) (v := ?_) (List.getElem?_toArray.trans (List.getElem?_cons_succ.trans (List.getElem?_cons_succ.trans (List.getElem?_cons_zero)))) (by kernel_rfl) (by kernel_rfl) (by kernel_rfl) (fun _ _ _ h => h) (Or.inl ⟨by rfl, ?_⟩) (by assumption) ?_
        rotate_left
        · intro w' hSw; (try dsimp only at hSw); go_simp; try with_reducible rfl
        try simp only [Act.put, List.setIfInBounds_toArray, List.set_cons_zero, List.set_cons_succ]
        refine wpAnyH_take (i := 3) (v := ?_) (List.getElem?_toArray.trans (List.getElem?_cons_succ.trans (List.getElem?_cons_succ.trans (List.getElem?_cons_succ.trans (List.getElem?_cons_zero))))) (by kernel_rfl) (by kernel_rfl) (by kernel_rfl) (fun _ _ _ h => h) (Or.inl ⟨by rfl, ?_⟩) (by assumption) ?_
        rotate_left
        · intro w' hSw; (try dsimp only at hSw); go_simp; try with_reducible rfl
        try simp only [Act.put, List.setIfInBounds_toArray, List.set_cons_zero, List.set_cons_succ]
        refine wpAnyH_take (i := 4) (v := ?_) (List.getElem?_toArray.trans (List.getElem?_cons_succ.trans (List.getElem?_cons_succ.trans (List.getElem?_cons_succ.trans (List.getElem?_cons_succ.trans (List.getElem?_cons_zero)))))) (by kernel_rfl) (by kernel_rfl) (by kernel_rfl) (fun _ _ _ h => h) (Or.inl ⟨by rfl, ?_⟩) (by assumption) ?_
        rotate_left
        · intro w' hSw; (try dsimp only at hSw); go_simp; try with_reducible rfl
        try simp only [Act.put, List.setIfInBounds_toArray, List.set_cons_zero, List.set_cons_succ]
        refine wpAnyH_take (i := 5) (v := ?_) (List.getElem?_toArray.trans (List.getElem?_cons_succ.trans (List.getElem?_cons_succ.trans (List.getElem?_cons_succ.trans (List.getElem?_cons_succ.trans (List.getElem?_cons_succ.trans (List.getElem?_cons_zero))))))) (by kernel_rfl) (by kernel_rfl) (by kernel_rfl) (fun _ _ _ h => h) (Or.inl ⟨by rfl, ?_⟩) (by assumption) ?_
        rotate_left
        · intro w' hSw; (try dsimp only at hSw); go_simp; try with_reducible rfl
        try simp only [Act.put, List.setIfInBounds_toArray, List.set_cons_zero, List.set_cons_succ]
        refine wpAnyH_take (i := 6) (v := ?_) (List.getElem?_toArray.trans (List.getElem?_cons_succ.trans (List.getElem?_cons_succ.trans (List.getElem?_cons_succ.trans (List.getElem?_cons_succ.trans (List.getElem?_cons_succ.trans (List.getElem?_cons_succ.trans (List.getElem?_cons_zero)))))))) (by kernel_rfl) (by kernel_rfl) (by kernel_rfl) (fun _ _ _ h => h) (Or.inl ⟨by rfl, ?_⟩) (by assumption) ?_
        rotate_left
        · intro w' hSw; (try dsimp only at hSw); go_simp; try with_reducible rfl
        try simp only [Act.put, List.setIfInBounds_toArray, List.set_cons_zero, List.set_cons_succ]
        refine wpAnyH_take (i := 7) (v := .agg (F.at (2 + m)).cells.toArray) (List.getElem?_toArray.trans (List.getElem?_cons_succ.trans (List.getElem?_cons_succ.trans (List.getElem?_cons_succ.trans (List.getElem?_cons_succ.trans (List.getElem?_cons_succ.trans (List.getElem?_cons_succ.trans (List.getElem?_cons_succ.trans (List.getElem?_cons_zero))))))))) (by kernel_rfl) (by kernel_rfl) (by kernel_rfl) (fun _ _ _ h => h) (Or.inl ⟨by rfl, ?_⟩) (by assumption) ?_
        · intro w' hSw; exact exec_load_ag 56 (.tmp 30) rfl g (8 + m * 4) rfl (F.at (2 + m)).cells.toArray _ (hSw.1) Tryd.underlying56 rfl set_size
        try simp only [Act.put, List.setIfInBounds_toArray, List.set_cons_zero, List.set_cons_succ]
        refine wpAnyH_ready (rs := [0]) (by kernel_rfl) (by simp) ?_
        refine AllReadyH.cons (List.getElem?_toArray.trans (List.getElem?_cons_zero)) (fun K hK => ?_) AllReadyH.nil
        refine wp_load_ag 56 (.tmp 5) rfl g1 0 rfl acc.cells.toArray _ (Blk.cells H9.out.1.s.drew) Tryd.underlying56 rfl set_size ?_
        refine hK.out _ _ hHeld (fun hHeld => ?_)
        clear hK K
        try simp only [Act.put, List.setIfInBounds_toArray, List.set_cons_zero, List.set_cons_succ]
        refine wpAnyH_ready (rs := [8]) (by kernel_rfl) (by simp) ?_
        refine AllReadyH.cons (List.getElem?_toArray.trans (List.getElem?_cons_succ.trans (List.getElem?_cons_succ.trans (List.getElem?_cons_succ.trans (List.getElem?_cons_succ.trans (List.getElem?_cons_succ.trans (List.getElem?_cons_succ.trans (List.getElem?_cons_succ.trans (List.getElem?_cons_succ.trans (List.getElem?_cons_zero)))))))))) (fun K hK => ?_) AllReadyH.nil
        go_simp
        go_at_call 38
        refine (gsUnion acc (F.at (2 + m)) H9.out.1.ok (H.out.2.2.2.2.at _) _).mono ?_
        rintro e w11 ⟨rfl, hb11⟩
        have hb11' : Below w9.heap.size w9 w11 := below_undr hb11
        have hbw11 := hb9w.trans (hb11'.mono hb9w.size)
        obtain ⟨V, eV⟩ : ∃ V, acc.or (F.at (2 + m)) = V := ⟨_, rfl⟩
        have hV : V.Ok := by rw [← eV]; exact S4.or_ok H9.out.1.ok (H.out.2.2.2.2.at _)
        rw [eV]
        refine hK.out _ _ ⟨HC.out _ hbw11 (2 + m) (by omega) _ (by omega), Blk.below H9.out.2.2.2.2 hb11' H9.out.2.2.2.2.lt⟩ (fun hHeld => ?_)
        clear hK K
        try simp only [Act.put, List.setIfInBounds_toArray, List.set_cons_zero, List.set_cons_succ]
        refine wpAnyH_ready (rs := [9]) (by kernel_rfl) (by simp) ?_
        refine AllReadyH.cons (List.getElem?_toArray.trans (List.getElem?_cons_succ.trans (List.getElem?_cons_succ.trans (List.getElem?_cons_succ.trans (List.getElem?_cons_succ.trans (List.getElem?_cons_succ.trans (List.getElem?_cons_succ.trans (List.getElem?_cons_succ.trans (List.getElem?_cons_succ.trans (List.getElem?_cons_succ.trans (List.getElem?_cons_zero))))))))))) (fun K hK => ?_) AllReadyH.nil
        refine wp_store_ag 56 (.tmp 5) (.tmp 32) rfl g1 0 V.cells rfl rfl 56 acc.cells (H9.out.1.below hb11').s set_size (by show 0 + 4 ≤ 4; decide) (set_one _) ?_
        intro w12 hb12 hg12
        have hst11 := H9.out.1.below hb11'
        have hbw12 : Below w.heap.size w w12 := hbw11.grown hg12 hbw11.size (fun j e => by cases e; exact Nat.le_of_lt hg1)
        have hx12 := Blk.grown (Blk.below H9.out.2.2.2.2 hb11' H9.out.2.2.2.2.lt) hg12 (some_neq (Nat.ne_of_gt hgx))
        refine hK.out _ _ ⟨HC.out _ hbw12 (2 + m) (by omega) _ (by omega), hx12⟩ (fun hHeld => ?_)
        clear hK K
        try simp only [Act.put, List.setIfInBounds_toArray, List.set_cons_zero, List.set_cons_succ]
        refine wpAnyH_done (by kernel_rfl) ?_ _
        rw [splice_whole acc.cells V.cells rfl] at hb12
        have hst12 : StAt w w12 g1 V := ⟨hb12, Blk.grown hst11.r hg12 (some_neq (Nat.ne_of_lt hg1)), hg1, hbw12, hV⟩
        have HK := Lib.hid (And.intro hst12 (And.intro hx12 eV))
        clear hst12 hb12 hst11 hg12 hb11 hb11' hbw11 hV
        obtain ⟨gy, egy⟩ : ∃ z, w12.heap.size = z := ⟨_, rfl⟩
        go_wp2_with fail
        refine wp_region_held_drew (S := fun W : World => Below w12.heap.size w12 W) (by kernel_rfl) (Below.refl _ _).drew (fun hHeld => ?_)
        refine wpAnyH_take (i := 0) (v := ?_) (List.getElem?_toArray.trans (List.getElem?_cons_zero)) (by kernel_rfl) (by kernel_rfl) (by kernel_rfl) (fun _ _ _ h => h) (Or.inl ⟨by rfl, ?_⟩) (by assumption) ?_
        rotate_left
        · intro w' hSw; (try dsimp only at hSw); go_simp; try with_reducible rfl
        try simp only [Act.put, List.setIfInBounds_toArray, List.set_cons_zero, List.set_cons_succ]
        refine wpAnyH_take (i := 1) (v := ?_) (List.getElem?_toArray.trans (List.getElem?_cons_succ.trans (List.getElem?_cons_zero))) (by kernel_rfl) (by kernel_rfl) (by kernel_rfl) (fun _ _ _ h => h) (Or.inl ⟨by rfl, ?_⟩) (by assumption) ?_
        rotate_left
        · intro w' hSw; (try dsimp only at hSw); go_simp; try with_reducible rfl
        try simp only [Act.put, List.setIfInBounds_toArray, List.set_cons_zero, List.set_cons_succ]
        refine wpAnyH_take (i := 2) (v := ?_) (List.getElem?_toArray.trans (List.getElem?_cons_succ.trans (List.getElem?_cons_succ.trans (List.getElem?_cons_zero)))) (by kernel_rfl) (by kernel_rfl) (by kernel_rfl) (fun _ _ _ h => h) (Or.inl ⟨by rfl, ?_⟩) (by assumption) ?_
        rotate_left
        · intro w' hSw; (try dsimp only at hSw); go_simp; try with_reducible rfl
        try simp only [Act.put, List.setIfInBounds_toArray, List.set_cons_zero, List.set_cons_succ]
        refine wpAnyH_take (i := 3) (v := .agg (F.at 1).cells.toArray) (List.getElem?_toArray.trans (List.getElem?_cons_succ.trans (List.getElem?_cons_succ.trans (List.getElem?_cons_succ.trans (List.getElem?_cons_zero))))) (by kernel_rfl) (by kernel_rfl) (by kernel_rfl) (fun _ _ _ h => h) (Or.inl ⟨by rfl, ?_⟩) (by assumption) ?_
        · intro w' hSw; exact exec_load_ag 56 (.tmp 35) rfl g (4) rfl (F.at 1).cells.toArray _ (HC.out _ (hbw12.trans (hSw.mono hbw12.size)) 1 (by decide) _ rfl) Tryd.underlying56 rfl set_size
        try simp only [Act.put, List.setIfInBounds_toArray, List.set_cons_zero, List.set_cons_succ]
        refine wpAnyH_take (i := 4) (v := ?_) (List.getElem?_toArray.trans (List.getElem?_cons_succ.trans (List.getElem?_cons_succ.trans (List.getElem?_cons_succ.trans (List.getElem?_cons_succ.trans (List.getElem?_cons_zero)))))) (by kernel_rfl) (by kernel_rfl) (by kernel_rfl) (fun _ _ _ h => h) (Or.inl ⟨by rfl, ?_⟩) (by assumption) ?_
        rotate_left
        · intro w' hSw; (try dsimp only at hSw); go_simp; try with_reducible rfl
        try simp only [Act.put, List.setIfInBounds_toArray, List.set_cons_zero, List.set_cons_succ]
        refine wpAnyH_take (i := 5) (v := ?_) (List.getElem?_toArray.trans (List.getElem?_cons_succ.trans (List.getElem?_cons_succ.trans (List.getElem?_cons_succ.trans (List.getElem?_cons_succ.trans (List.getElem?_cons_succ.trans (List.getElem?_cons_zero))))))) (by kernel_rfl) (by kernel_rfl) (by kernel_rfl) (fun _ _ _ h => h) (Or.inl ⟨by rfl, ?_⟩) (by assumption) ?_
        rotate_left
        · intro w' hSw; (try dsimp only at hSw); have hk0 := k0 w' (Blk.below HK.out.2.1 hSw HK.out.2.1.lt); go_simp; try with_reducible rfl
        try simp only [Act.put, List.setIfInBounds_toArray, List.set_cons_zero, List.set_cons_succ]
        refine wpAnyH_take (i := 6) (v := ?_) (List.getElem?_toArray.trans (List.getElem?_cons_succ.trans (List.getElem?_cons_succ.trans (List.getElem?_cons_succ.trans (List.getElem?_cons_succ.trans (List.getElem?_cons_succ.trans (List.getElem?_cons_succ.trans (List.getElem?_cons_zero)))))))) (by kernel_rfl) (by kernel_rfl) (by kernel_rfl) (fun _ _ _ h => h) (Or.inl ⟨by rfl, ?_⟩) (by assumption) ?_
        rotate_left
        · intro w' hSw; (try dsimp only at hSw); go_simp; try with_reducible rfl
        try simp only [Act.put, List.setIfInBounds_toArray, List.set_cons_zero, List.set_cons_succ]
        refine wpAnyH_ready (rs := [7]) (by kernel_rfl) (by simp) ?_
        refine AllReadyH.cons (List.getElem?_toArray.trans (List.getElem?_cons_succ.trans (List.getElem?_cons_succ.trans (List.getElem?_cons_succ.trans (List.getElem?_cons_succ.trans (List.getElem?_cons_succ.trans (List.getElem?_cons_succ.trans (List.getElem?_cons_succ.trans (List.getElem?_cons_zero))))))))) (fun K hK => ?_) AllReadyH.nil
        go_simp
        go_at_call 19
        refine (HH.out _).mono ?_
        rintro e w13 ⟨rfl, hb13⟩
        rw [etv]
        refine hK.out _ _ (below_undr hb13) (fun hHeld => ?_)
        clear hK K
        try simp only [Act.put, List.setIfInBounds_toArray, List.set_cons_zero, List.set_cons_succ]
        refine wpAnyH_take (i := 8) (v := ?_) (List.getElem?_toArray.trans (List.getElem?_cons_succ.trans (List.getElem?_cons_succ.trans (List.getElem?_cons_succ.trans (List.getElem?_cons_succ.trans (List.getElem?_cons_succ.trans (List.getElem?_cons_succ.trans (List.getElem?_cons_succ.trans (List.getElem?_cons_succ.trans (List.getElem?_cons_zero)))))))))) (by kernel_rfl) (by kernel_rfl) (by kernel_rfl) (fun _ _ _ h => h) (Or.inl ⟨by rfl, ?_⟩) (by assumption) ?_
        rotate_left
        · intro w' hSw; (try dsimp only at hSw); go_simp; try with_reducible rfl
        try simp only [Act.put, List.setIfInBounds_toArray, List.set_cons_zero, List.set_cons_succ]
        refine wpAnyH_done (by kernel_rfl) ?_ _
        cases tv
        · have hUV : V = U := by rw [← HK.out.2.2]; exact HUx.out
          have hst13 : StAt w w13 g1 U := by rw [← hUV]; exact HK.out.1.below (below_undr hb13)
          go_wp2_with (first
            | (with_reducible refine st_load 56 ?_; refine stopped ?_)
            | fail)
          refine go_on ?_
          refine wpList_load_at rfl 56 (.tmp 5) rfl g1 0 rfl (U).cells.toArray _ (Blk.cells hst13.s) Tryd.underlying56 rfl set_size ?_
          simp only [Act.put, List.setIfInBounds_toArray, List.set_cons_zero, List.set_cons_succ]
          refine wpList_store_whole rfl 56 (.tmp 4) (.tmp 43) rfl w.heap.size (U).cells rfl rfl 56 S4.z.cells hst13.r set_size rfl (set_one _) ?_
          intro w18 hb18 hg18
          refine wpList_nil ?_
          simp only [Act.put, List.setIfInBounds_toArray, List.set_cons_zero, List.set_cons_succ]
          go_wp2_with fail
          refine bodyPost_row rfl w.heap.size rfl 56 _ _ hb18 Tryd.underlying56 rfl set_size rfl ⟨rfl, hst13.bel.grown hg18 hst13.bel.size (fun j e => by cases e; exact Nat.le_refl _)⟩
        · go_wp2_with fail
          have hst13 : StAt w w13 g1 V := HK.out.1.below (below_undr hb13)
          have hU13 : F.stL V (l.drop (k + 1)) = U := by rw [← HK.out.2.2]; exact HUx.out
          go_roundw
          case rel => exact ⟨k + 1, V, by omega, by go_num, hst13, hU13⟩
          case measure => simp [intOf]; omega
    · obtain rfl : k = n := by omega
      have hkn : ¬ (k : Int) < (k : Int) := by omega
      have hUa : acc = U := by rw [List.drop_eq_nil_of_le (by rw [H.out.2.2.1]; exact Nat.le_refl _)] at hU; exact hU
      subst hUa
      have hrow := hst.s
      have hres := hst.r
      go_wp2_with (first
        | (with_reducible refine st_load 56 ?_; refine stopped ?_)
        | fail)
      refine go_on ?_
      refine wpList_load_at rfl 56 (.tmp 5) rfl g1 0 rfl (acc).cells.toArray _ (Blk.cells hrow) Tryd.underlying56 rfl set_size ?_
      simp only [Act.put, List.setIfInBounds_toArray, List.set_cons_zero, List.set_cons_succ]
      refine wpList_store_whole rfl 56 (.tmp 4) (.tmp 43) rfl w.heap.size (acc).cells rfl rfl 56 S4.z.cells hres set_size rfl (set_one _) ?_
      intro w18 hb18 hg18
      refine wpList_nil ?_
      simp only [Act.put, List.setIfInBounds_toArray, List.set_cons_zero, List.set_cons_succ]
      go_wp2_with fail
      refine bodyPost_row rfl w.heap.size rfl 56 _ _ hb18 Tryd.underlying56 rfl set_size rfl ⟨rfl, hst.bel.grown hg18 hst.bel.size (fun j e => by cases e; exact Nat.le_refl _)⟩
end Go.Proofs.YthfbmihpdkkcjaaDoor
