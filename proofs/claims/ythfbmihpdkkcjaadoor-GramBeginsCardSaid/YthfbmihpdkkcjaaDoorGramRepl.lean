/-
  Package gram's replace and push, by their contracts. Conditions: each theorem's own premises.
-/
import Derived.Test.YthfbmihpdkkcjaaDoorGramStu0
import Derived.OwnWalk
namespace Go.Proofs.YthfbmihpdkkcjaaDoor
open Go.RowKit

/-- what replace answers -/
def ReplPost (w : World) (G : Gm) (F : Fc) (L : List FmV) (X : Nat) (t : List Nat) (e : Ending) (w' : World) : Prop := Below w.heap.size w w' ∧
  ((∃ x, x ∈ L ∧ x.f.n = (X : Int) ∧ (∃ c r, t = c :: r ∧ FirL G c x.f.b) ∧ e = .returned (.tuple #[.slice x.A x.f.b.length x.c, .int .i64 (x.f.b.length : Int), .bool true])) ∨
   ((∀ c r, t = c :: r → ¬ Fir G c (X : Int)) ∧ Van G (X : Int) ∧ e = .returned (.tuple #[.slice none 0 0, .int .i64 (F.room X), .bool true])) ∨
   ((∀ c r, t = c :: r → ¬ Fir G c (X : Int)) ∧ ¬ Van G (X : Int) ∧ e = .returned (.tuple #[.slice none 0 0, .int .i64 0, .bool false])))
theorem lt_or_eq_succ {j k : Nat} (h : j < k + 1) : j < k ∨ j = k := by omega
set_option maxRecDepth 100000 in
set_option maxHeartbeats 4000000 in
set_option linter.unusedSimpArgs false in
theorem gfReplace (w : World) (g : Nat) (F : Fc) (hF : F.Ok) (hf : FcAt w g F) (G : Gm) (hk : Know G F) (hG : GrOk G) (A : Option Addr) (L : List FmV) (n c : Nat) (hA : GmAt w w.heap.size A L G) (hn : L.length = n) (X : Nat) (hX : X < 16)
    (S : Option Addr) (sl : List UInt8) (ml d : Nat) (hS : Bs w w.heap.size S sl) (hml : sl.length = ml) (hm9 : ml ≤ 1000) : Calls Tryd.prog 31 #[.pointer (some ⟨g, 0, none⟩), .slice A n c, .int .i64 (X : Int), .slice S ml d] w (ReplPost w G F L X (toN sl)) := by
  have hg : g < w.heap.size := Blk.lt hf
  have hnl : G.fs.length = n := by rw [hA.len, hn]
  have hn48 : n ≤ 48 := by rw [← hnl]; exact hG.n
  have H := Lib.hid (And.intro hf hF)
  have HG := Lib.hid (And.intro hA (And.intro hn (And.intro hnl hG)))
  have HK := Lib.hid hk
  have HS := Lib.hid (And.intro hS hml)
  have HC := Lib.hid (fun (W : World) (h : Below w.heap.size w W) (i : Nat) (hi : i < 82) (oo : Nat) (ho : oo = 4 * i) => FcAt.cs (FcAt.below hf h hg) hF hi ho)
  clear hf hA hn hnl hG hk hS hml
  have hX0 : (0 : Int) ≤ (X : Int) := by omega
  have hX16i : (X : Int) < 16 := by omega
  have hcv := u8_wrap16 X (by omega)
  go_enter Tryd.func31, Tryd.ntmps31
  go_wp2_with fail
  go_loopw [15] (fun u wz => ∃ i : Nat, i ≤ n ∧ u = .int .i64 (i : Int) ∧ Below w.heap.size w wz ∧ ∀ j, j < i → ¬ ((G.fs.getD j f0).n = (X : Int) ∧ ∃ c r, toN sl = c :: r ∧ FirL G c (G.fs.getD j f0).b)) (fun u _ => n - (intOf u).toNat)
  case atStart => exact ⟨0, by omega, rfl, Below.refl _ _, fun j hj => by omega⟩
  case round =>
    obtain ⟨i, hin, rfl, hbel, hno⟩ := hrel
    have HI := Lib.hid (And.intro hbel hno)
    clear hno
    by_cases hlt : i < n
    · have hki : (i : Int) < (n : Int) := by omega
      have hk0 : (0 : Int) ≤ (i : Int) := by omega
      have hi48 : (i : Int) < 48 := by omega
      have hiL : i < L.length := by rw [HG.out.2.1]; exact hlt
      obtain ⟨x, ex⟩ : ∃ x, L[i]? = some x := ⟨L[i], List.getElem?_eq_getElem hiL⟩
      obtain ⟨bf, of, rfl, hbl, hcl⟩ := fvs_form HG.out.1.vs ex
      have hxm : x ∈ L := List.mem_of_getElem? ex
      have hgx : G.fs.getD i f0 = x.f := by rw [← HG.out.1.fs, List.getD_eq_getElem?_getD, List.getElem?_map, ex]; rfl
      obtain ⟨xN, eN⟩ : ∃ z, x.f.n = z := ⟨_, rfl⟩
      obtain ⟨m, em⟩ : ∃ m, x.f.b.length = m := ⟨_, rfl⟩
      obtain ⟨cp, ecp⟩ : ∃ cp, x.c = cp := ⟨_, rfl⟩
      obtain ⟨xA, exA⟩ : ∃ a, x.A = a := ⟨_, rfl⟩
      have hcs := hcl wr hbel
      rw [eN, em, ecp, exA] at hcs
      have HX := Lib.hid (And.intro hxm (And.intro eN (And.intro em (And.intro hgx (And.intro ecp exA)))))
      clear hcl ex hxm hgx eN em ecp hiL exA
      go_wp2_with (first
        | (with_reducible refine st_load 46 ?_; refine stopped ?_)
        | fail)
      refine go_on ?_
      refine wpList_load_at rfl 46 (.tmp 18) rfl bf (of + i * 2) rfl (formV xN xA m cp).toArray _ hcs Tryd.underlying46 rfl form_size ?_
      simp only [Act.put, List.setIfInBounds_toArray, List.set_cons_zero, List.set_cons_succ]
      refine wpList_alloc rfl 46 rfl _ form_zero ?_
      intro w8 hb8 hw8 hz8
      simp only [Act.put, List.setIfInBounds_toArray, List.set_cons_zero, List.set_cons_succ]
      go_wp2_with (first | (with_reducible refine st_store 46 ?_; refine stopped ?_) | fail)
      refine go_on ?_
      refine wpList_store_whole rfl 46 (.tmp 12) (.tmp 19) rfl wr.heap.size (formV xN xA m cp) rfl rfl 46 (formV 0 none 0 0) hb8 form_size rfl (form_one _ _ _ _) ?_
      intro w9 hx9 hg9
      refine wpList_nil ?_
      simp only [Act.put, List.setIfInBounds_toArray, List.set_cons_zero, List.set_cons_succ]
      have hb9 : Below wr.heap.size wr w9 := hw8.grown hg9 hw8.size (fun j e => by cases e; exact Nat.le_refl _)
      obtain ⟨gx, egx⟩ : ∃ gx, wr.heap.size = gx := ⟨_, rfl⟩
      have hb9w := hbel.trans (hb9.mono hbel.size)
      rw [egx] at hx9 ⊢
      have k0 : ∀ W, Below w9.heap.size w9 W → W.cell? ⟨gx, 0, none⟩ = some (.int .i64 xN) := fun W h => by rw [h.cell (p := ⟨gx, 0, none⟩) hx9.lt]; exact Blk.cell hx9 0
      have k1 : ∀ W, Below w9.heap.size w9 W → W.cell? ⟨gx, 1, none⟩ = some (.slice xA m cp) := fun W h => by rw [h.cell (p := ⟨gx, 1, none⟩) hx9.lt]; exact Blk.cell hx9 1
      have j0 := k0 w9 (Below.refl _ _)
      clear hb8 hw8 hz8 hg9 hb9 egx hcs
      by_cases hname : xN = (X : Int)
      · have hnb : (xN == (X : Int)) = true := by rw [beq_iff_eq]; exact hname
        by_cases hm0 : ml = 0
        · have hsl : sl = [] := List.eq_nil_of_length_eq_zero (by rw [HS.out.2]; exact hm0)
          have HN := Lib.hid (show ¬ ((G.fs.getD i f0).n = (X : Int) ∧ ∃ c r, toN sl = c :: r ∧ FirL G c (G.fs.getD i f0).b) from fun ⟨_, c, r, e, _⟩ => by rw [hsl] at e; cases e)
          have hmd : ¬ (0 : Int) < (ml : Int) := by omega
          have hmdb : decide ((0 : Int) < (ml : Int)) = false := decide_eq_false hmd
          have hmdn : decide (0 < ml) = false := decide_eq_false (by omega)
          have HM0 := Lib.hid hm0
          clear hsl hm0
          subst hname
          go_wp2_with fail
          go_quiet (fail)
          rename_i nq
          go_wp2_with fail
          go_roundw
          case rel => exact ⟨i + 1, by omega, by go_num, below_drewN hb9w _, fun j hj => by
            rcases lt_or_eq_succ hj with h8 | rfl
            · exact HI.out.2 j h8
            · exact HN.out⟩
          case measure => simp [intOf]; omega
        · obtain ⟨b0, rest, es⟩ : ∃ b0 rest, sl = b0 :: rest := by
            cases hs : sl with
            | nil => have := HS.out.2; rw [hs] at this; simp at this; omega
            | cons b0 rest => exact ⟨b0, rest, rfl⟩
          obtain ⟨bC, oC, rfl, hbC, hcC⟩ := HS.out.1.at_ (k := 0) (by rw [es]; simp)
          obtain ⟨c0, ec0⟩ : ∃ c0, b0.toNat = c0 := ⟨_, rfl⟩
          have hc256 : c0 < 256 := by rw [← ec0]; exact UInt8.toNat_lt _
          have e0 : (sl[0]'(by rw [es]; simp)).toNat = c0 := by simp only [es, List.getElem_cons_zero]; exact ec0
          rw [e0, Nat.add_zero] at hcC
          have hto : toN sl = c0 :: toN rest := by rw [es, ← ec0]; rfl
          have kS : ∀ W, Below w9.heap.size w9 W → W.cell? ⟨bC, oC, none⟩ = some (.int .u8 (c0 : Int)) := fun W h => ((hb9w.trans (h.mono hb9w.size)).cell (p := ⟨bC, oC, none⟩) hbC).trans hcC
          have hmd : (0 : Int) < (ml : Int) := by omega
          have hmdb : decide ((0 : Int) < (ml : Int)) = true := decide_eq_true hmd
          have hmN : 0 < ml := by omega
          have hmdn : decide (0 < ml) = true := decide_eq_true hmN
          have hl := HK.out.l i c0 (by rw [HG.out.2.2.1]; exact hlt) hc256
          obtain ⟨tv, etv⟩ : ∃ z, (F.at (34 + i)).has c0 = z := ⟨_, rfl⟩
          rw [etv] at hl
          have HT := Lib.hid (And.intro hl hto)
          clear hcC e0 es ec0 hto hl
          subst hname
          go_wp2_with fail
          refine wp_region_held_drew (S := fun W : World => Below w9.heap.size w9 W) (by kernel_rfl) (Below.refl _ _).drew (fun hHeld => ?_)
          refine wpAnyH_take (i := 0) (v := ?_) (List.getElem?_toArray.trans (List.getElem?_cons_zero)) (by kernel_rfl) (by kernel_rfl) (by kernel_rfl) (fun _ _ _ h => h) (Or.inl ⟨by rfl, ?_⟩) (by assumption) ?_
          rotate_left
          · intro w' hSw; (try dsimp only at hSw); go_simp; try with_reducible rfl
          try simp only [Act.put, List.setIfInBounds_toArray, List.set_cons_zero, List.set_cons_succ]
          refine wpAnyH_take (i := 1) (v := ?_) (List.getElem?_toArray.trans (List.getElem?_cons_succ.trans (List.getElem?_cons_zero))) (by kernel_rfl) (by kernel_rfl) (by kernel_rfl) (fun _ _ _ h => h) (Or.inl ⟨by rfl, ?_⟩) (by assumption) ?_
          rotate_left
          · intro w' hSw; (try dsimp only at hSw); go_simp; try with_reducible rfl
          try simp only [Act.put, List.setIfInBounds_toArray, List.set_cons_zero, List.set_cons_succ]
          refine wpAnyH_take (i := 2) (v := ?_) (List.getElem?_toArray.trans (List.getElem?_cons_succ.trans (List.getElem?_cons_succ.trans (List.getElem?_cons_zero)))) (by kernel_rfl) (by kernel_rfl) (by kernel_rfl) (fun _ _ _ h => h) (Or.inl ⟨by rfl, ?_⟩) (by assumption) ?_
          rotate_left
          · intro w' hSw; (try dsimp only at hSw); go_simp; try with_reducible rfl
          try simp only [Act.put, List.setIfInBounds_toArray, List.set_cons_zero, List.set_cons_succ]
          refine wpAnyH_take (i := 3) (v := ?_) (List.getElem?_toArray.trans (List.getElem?_cons_succ.trans (List.getElem?_cons_succ.trans (List.getElem?_cons_succ.trans (List.getElem?_cons_zero))))) (by kernel_rfl) (by kernel_rfl) (by kernel_rfl) (fun _ _ _ h => h) (Or.inl ⟨by rfl, ?_⟩) (by assumption) ?_
          rotate_left
          · intro w' hSw; (try dsimp only at hSw); go_simp; try with_reducible rfl
          try simp only [Act.put, List.setIfInBounds_toArray, List.set_cons_zero, List.set_cons_succ]
          refine wpAnyH_take (i := 4) (v := ?_) (List.getElem?_toArray.trans (List.getElem?_cons_succ.trans (List.getElem?_cons_succ.trans (List.getElem?_cons_succ.trans (List.getElem?_cons_succ.trans (List.getElem?_cons_zero)))))) (by kernel_rfl) (by kernel_rfl) (by kernel_rfl) (fun _ _ _ h => h) (Or.inl ⟨by rfl, ?_⟩) (by assumption) ?_
          rotate_left
          · intro w' hSw; (try dsimp only at hSw); go_simp; try with_reducible rfl
          try simp only [Act.put, List.setIfInBounds_toArray, List.set_cons_zero, List.set_cons_succ]
          refine wpAnyH_take (i := 5) (v := ?_) (List.getElem?_toArray.trans (List.getElem?_cons_succ.trans (List.getElem?_cons_succ.trans (List.getElem?_cons_succ.trans (List.getElem?_cons_succ.trans (List.getElem?_cons_succ.trans (List.getElem?_cons_zero))))))) (by kernel_rfl) (by kernel_rfl) (by kernel_rfl) (fun _ _ _ h => h) (Or.inl ⟨by rfl, ?_⟩) (by assumption) ?_
          rotate_left
          · intro w' hSw; (try dsimp only at hSw); go_simp; try with_reducible rfl
          try simp only [Act.put, List.setIfInBounds_toArray, List.set_cons_zero, List.set_cons_succ]
          refine wpAnyH_take (i := 6) (v := ?_) (List.getElem?_toArray.trans (List.getElem?_cons_succ.trans (List.getElem?_cons_succ.trans (List.getElem?_cons_succ.trans (List.getElem?_cons_succ.trans (List.getElem?_cons_succ.trans (List.getElem?_cons_succ.trans (List.getElem?_cons_zero)))))))) (by kernel_rfl) (by kernel_rfl) (by kernel_rfl) (fun _ _ _ h => h) (Or.inl ⟨by rfl, ?_⟩) (by assumption) ?_
          rotate_left
          · intro w' hSw; (try dsimp only at hSw); go_simp; try with_reducible rfl
          try simp only [Act.put, List.setIfInBounds_toArray, List.set_cons_zero, List.set_cons_succ]
          refine wpAnyH_take (i := 7) (v := ?_) (List.getElem?_toArray.trans (List.getElem?_cons_succ.trans (List.getElem?_cons_succ.trans (List.getElem?_cons_succ.trans (List.getElem?_cons_succ.trans (List.getElem?_cons_succ.trans (List.getElem?_cons_succ.trans (List.getElem?_cons_succ.trans (List.getElem?_cons_zero))))))))) (by kernel_rfl) (by kernel_rfl) (by kernel_rfl) (fun _ _ _ h => h) (Or.inl ⟨by rfl, ?_⟩) (by assumption) ?_
          rotate_left
          · intro w' hSw; (try dsimp only at hSw); go_simp; try with_reducible rfl
          try simp only [Act.put, List.setIfInBounds_toArray, List.set_cons_zero, List.set_cons_succ]
          refine wpAnyH_take (i := 8) (v := ?_) (List.getElem?_toArray.trans (List.getElem?_cons_succ.trans (List.getElem?_cons_succ.trans (List.getElem?_cons_succ.trans (List.getElem?_cons_succ.trans (List.getElem?_cons_succ.trans (List.getElem?_cons_succ.trans (List.getElem?_cons_succ.trans (List.getElem?_cons_succ.trans (List.getElem?_cons_zero)))))))))) (by kernel_rfl) (by kernel_rfl) (by kernel_rfl) (fun _ _ _ h => h) (Or.inl ⟨by rfl, ?_⟩) (by assumption) ?_
          rotate_left
          · intro w' hSw; (try dsimp only at hSw); go_simp; try with_reducible rfl
          try simp only [Act.put, List.setIfInBounds_toArray, List.set_cons_zero, List.set_cons_succ]
          refine wpAnyH_take (i := 9) (v := ?_) (List.getElem?_toArray.trans (List.getElem?_cons_succ.trans (List.getElem?_cons_succ.trans (List.getElem?_cons_succ.trans (List.getElem?_cons_succ.trans (List.getElem?_cons_succ.trans (List.getElem?_cons_succ.trans (List.getElem?_cons_succ.trans (List.getElem?_cons_succ.trans (List.getElem?_cons_succ.trans (List.getElem?_cons_zero))))))))))) (by kernel_rfl) (by kernel_rfl) (by kernel_rfl) (fun _ _ _ h => h) (Or.inl ⟨by rfl, ?_⟩) (by assumption) ?_
          rotate_left
          · intro w' hSw; (try dsimp only at hSw); go_simp; try with_reducible rfl
          try simp only [Act.put, List.setIfInBounds_toArray, List.set_cons_zero, List.set_cons_succ]
          refine wpAnyH_take (i := 10) (v := ?_) (List.getElem?_toArray.trans (List.getElem?_cons_succ.trans (List.getElem?_cons_succ.trans (List.getElem?_cons_succ.trans (List.getElem?_cons_succ.trans (List.getElem?_cons_succ.trans (List.getElem?_cons_succ.trans (List.getElem?_cons_succ.trans (List.getElem?_cons_succ.trans (List.getElem?_cons_succ.trans (List.getElem?_cons_succ.trans (List.getElem?_cons_zero)))))))))))) (by kernel_rfl) (by kernel_rfl) (by kernel_rfl) (fun _ _ _ h => h) (Or.inl ⟨by rfl, ?_⟩) (by assumption) ?_
          rotate_left
          · intro w' hSw; (try dsimp only at hSw); go_simp; try with_reducible rfl
          try simp only [Act.put, List.setIfInBounds_toArray, List.set_cons_zero, List.set_cons_succ]
          refine wpAnyH_take (i := 11) (v := ?_) (List.getElem?_toArray.trans (List.getElem?_cons_succ.trans (List.getElem?_cons_succ.trans (List.getElem?_cons_succ.trans (List.getElem?_cons_succ.trans (List.getElem?_cons_succ.trans (List.getElem?_cons_succ.trans (List.getElem?_cons_succ.trans (List.getElem?_cons_succ.trans (List.getElem?_cons_succ.trans (List.getElem?_cons_succ.trans (List.getElem?_cons_succ.trans (List.getElem?_cons_zero))))))))))))) (by kernel_rfl) (by kernel_rfl) (by kernel_rfl) (fun _ _ _ h => h) (Or.inl ⟨by rfl, ?_⟩) (by assumption) ?_
          rotate_left
          · intro w' hSw; (try dsimp only at hSw); go_simp; try with_reducible rfl
          try simp only [Act.put, List.setIfInBounds_toArray, List.set_cons_zero, List.set_cons_succ]
          refine wpAnyH_take (i := 12) (v := ?_) (List.getElem?_toArray.trans (List.getElem?_cons_succ.trans (List.getElem?_cons_succ.trans (List.getElem?_cons_succ.trans (List.getElem?_cons_succ.trans (List.getElem?_cons_succ.trans (List.getElem?_cons_succ.trans (List.getElem?_cons_succ.trans (List.getElem?_cons_succ.trans (List.getElem?_cons_succ.trans (List.getElem?_cons_succ.trans (List.getElem?_cons_succ.trans (List.getElem?_cons_succ.trans (List.getElem?_cons_zero)))))))))))))) (by kernel_rfl) (by kernel_rfl) (by kernel_rfl) (fun _ _ _ h => h) (Or.inl ⟨by rfl, ?_⟩) (by assumption) ?_
          rotate_left
          · intro w' hSw; (try dsimp only at hSw); go_simp; try with_reducible rfl
          try simp only [Act.put, List.setIfInBounds_toArray, List.set_cons_zero, List.set_cons_succ]
          refine wpAnyH_take (i := 13) (v := ?_) (List.getElem?_toArray.trans (List.getElem?_cons_succ.trans (List.getElem?_cons_succ.trans (List.getElem?_cons_succ.trans (List.getElem?_cons_succ.trans (List.getElem?_cons_succ.trans (List.getElem?_cons_succ.trans (List.getElem?_cons_succ.trans (List.getElem?_cons_succ.trans (List.getElem?_cons_succ.trans (List.getElem?_cons_succ.trans (List.getElem?_cons_succ.trans (List.getElem?_cons_succ.trans (List.getElem?_cons_succ.trans (List.getElem?_cons_zero))))))))))))))) (by kernel_rfl) (by kernel_rfl) (by kernel_rfl) (fun _ _ _ h => h) (Or.inl ⟨by rfl, ?_⟩) (by assumption) ?_
          rotate_left
          · intro w' hSw; (try dsimp only at hSw); go_simp; try with_reducible rfl
          try simp only [Act.put, List.setIfInBounds_toArray, List.set_cons_zero, List.set_cons_succ]
          refine wpAnyH_take (i := 14) (v := ?_) (List.getElem?_toArray.trans (List.getElem?_cons_succ.trans (List.getElem?_cons_succ.trans (List.getElem?_cons_succ.trans (List.getElem?_cons_succ.trans (List.getElem?_cons_succ.trans (List.getElem?_cons_succ.trans (List.getElem?_cons_succ.trans (List.getElem?_cons_succ.trans (List.getElem?_cons_succ.trans (List.getElem?_cons_succ.trans (List.getElem?_cons_succ.trans (List.getElem?_cons_succ.trans (List.getElem?_cons_succ.trans (List.getElem?_cons_succ.trans (List.getElem?_cons_zero)))))))))))))))) (by kernel_rfl) (by kernel_rfl) (by kernel_rfl) (fun _ _ _ h => h) (Or.inl ⟨by rfl, ?_⟩) (by assumption) ?_
          rotate_left
          · intro w' hSw; (try dsimp only at hSw); go_simp; try with_reducible rfl
          try simp only [Act.put, List.setIfInBounds_toArray, List.set_cons_zero, List.set_cons_succ]
          refine wpAnyH_take (i := 15) (v := .agg (F.at (34 + i)).cells.toArray) (List.getElem?_toArray.trans (List.getElem?_cons_succ.trans (List.getElem?_cons_succ.trans (List.getElem?_cons_succ.trans (List.getElem?_cons_succ.trans (List.getElem?_cons_succ.trans (List.getElem?_cons_succ.trans (List.getElem?_cons_succ.trans (List.getElem?_cons_succ.trans (List.getElem?_cons_succ.trans (List.getElem?_cons_succ.trans (List.getElem?_cons_succ.trans (List.getElem?_cons_succ.trans (List.getElem?_cons_succ.trans (List.getElem?_cons_succ.trans (List.getElem?_cons_succ.trans (List.getElem?_cons_zero))))))))))))))))) (by kernel_rfl) (by kernel_rfl) (by kernel_rfl) (fun _ _ _ h => h) (Or.inl ⟨by rfl, ?_⟩) (by assumption) ?_
          · intro w' hSw; exact exec_load_ag 56 (.tmp 34) rfl g (136 + i * 4) rfl (F.at (34 + i)).cells.toArray _ (HC.out w' (hb9w.trans (hSw.mono hb9w.size)) (34 + i) (by omega) _ (by omega)) Tryd.underlying56 rfl set_size
          try simp only [Act.put, List.setIfInBounds_toArray, List.set_cons_zero, List.set_cons_succ]
          refine wpAnyH_take (i := 16) (v := ?_) (List.getElem?_toArray.trans (List.getElem?_cons_succ.trans (List.getElem?_cons_succ.trans (List.getElem?_cons_succ.trans (List.getElem?_cons_succ.trans (List.getElem?_cons_succ.trans (List.getElem?_cons_succ.trans (List.getElem?_cons_succ.trans (List.getElem?_cons_succ.trans (List.getElem?_cons_succ.trans (List.getElem?_cons_succ.trans (List.getElem?_cons_succ.trans (List.getElem?_cons_succ.trans (List.getElem?_cons_succ.trans (List.getElem?_cons_succ.trans (List.getElem?_cons_succ.trans (List.getElem?_cons_succ.trans (List.getElem?_cons_zero)))))))))))))))))) (by kernel_rfl) (by kernel_rfl) (by kernel_rfl) (fun _ _ _ h => h) (Or.inl ⟨by rfl, ?_⟩) (by assumption) ?_
          rotate_left
          · intro w' hSw; (try dsimp only at hSw); go_simp; try with_reducible rfl
          try simp only [Act.put, List.setIfInBounds_toArray, List.set_cons_zero, List.set_cons_succ]
          refine wpAnyH_take (i := 17) (v := ?_) (List.getElem?_toArray.trans (List.getElem?_cons_succ.trans (List.getElem?_cons_succ.trans (List.getElem?_cons_succ.trans (List.getElem?_cons_succ.trans (List.getElem?_cons_succ.trans (List.getElem?_cons_succ.trans (List.getElem?_cons_succ.trans (List.getElem?_cons_succ.trans (List.getElem?_cons_succ.trans (List.getElem?_cons_succ.trans (List.getElem?_cons_succ.trans (List.getElem?_cons_succ.trans (List.getElem?_cons_succ.trans (List.getElem?_cons_succ.trans (List.getElem?_cons_succ.trans (List.getElem?_cons_succ.trans (List.getElem?_cons_succ.trans (List.getElem?_cons_zero))))))))))))))))))) (by kernel_rfl) (by kernel_rfl) (by kernel_rfl) (fun _ _ _ h => h) (Or.inl ⟨by rfl, ?_⟩) (by assumption) ?_
          rotate_left
          · intro w' hSw; (try dsimp only at hSw); go_simp; try with_reducible rfl
          try simp only [Act.put, List.setIfInBounds_toArray, List.set_cons_zero, List.set_cons_succ]
          refine wpAnyH_take (i := 18) (v := ?_) (List.getElem?_toArray.trans (List.getElem?_cons_succ.trans (List.getElem?_cons_succ.trans (List.getElem?_cons_succ.trans (List.getElem?_cons_succ.trans (List.getElem?_cons_succ.trans (List.getElem?_cons_succ.trans (List.getElem?_cons_succ.trans (List.getElem?_cons_succ.trans (List.getElem?_cons_succ.trans (List.getElem?_cons_succ.trans (List.getElem?_cons_succ.trans (List.getElem?_cons_succ.trans (List.getElem?_cons_succ.trans (List.getElem?_cons_succ.trans (List.getElem?_cons_succ.trans (List.getElem?_cons_succ.trans (List.getElem?_cons_succ.trans (List.getElem?_cons_succ.trans (List.getElem?_cons_zero)))))))))))))))))))) (by kernel_rfl) (by kernel_rfl) (by kernel_rfl) (fun _ _ _ h => h) (Or.inl ⟨by rfl, ?_⟩) (by assumption) ?_
          rotate_left
          · intro w' hSw; (try dsimp only at hSw); go_simp; try with_reducible rfl
          try simp only [Act.put, List.setIfInBounds_toArray, List.set_cons_zero, List.set_cons_succ]
          refine wpAnyH_ready (rs := [19]) (by kernel_rfl) (by simp) ?_
          refine AllReadyH.cons (List.getElem?_toArray.trans (List.getElem?_cons_succ.trans (List.getElem?_cons_succ.trans (List.getElem?_cons_succ.trans (List.getElem?_cons_succ.trans (List.getElem?_cons_succ.trans (List.getElem?_cons_succ.trans (List.getElem?_cons_succ.trans (List.getElem?_cons_succ.trans (List.getElem?_cons_succ.trans (List.getElem?_cons_succ.trans (List.getElem?_cons_succ.trans (List.getElem?_cons_succ.trans (List.getElem?_cons_succ.trans (List.getElem?_cons_succ.trans (List.getElem?_cons_succ.trans (List.getElem?_cons_succ.trans (List.getElem?_cons_succ.trans (List.getElem?_cons_succ.trans (List.getElem?_cons_succ.trans (List.getElem?_cons_zero))))))))))))))))))))) (fun K hK => ?_) AllReadyH.nil
          go_simp
          go_at_call 19
          refine (gsHas (F.at (34 + i)) (H.out.2.at _) c0 hc256 _).mono ?_
          rintro e w10 ⟨rfl, hb10⟩
          rw [etv]
          refine hK.out _ _ (below_undr hb10) (fun hHeld => ?_)
          clear hK K
          try simp only [Act.put, List.setIfInBounds_toArray, List.set_cons_zero, List.set_cons_succ]
          refine wpAnyH_take (i := 20) (v := ?_) (List.getElem?_toArray.trans (List.getElem?_cons_succ.trans (List.getElem?_cons_succ.trans (List.getElem?_cons_succ.trans (List.getElem?_cons_succ.trans (List.getElem?_cons_succ.trans (List.getElem?_cons_succ.trans (List.getElem?_cons_succ.trans (List.getElem?_cons_succ.trans (List.getElem?_cons_succ.trans (List.getElem?_cons_succ.trans (List.getElem?_cons_succ.trans (List.getElem?_cons_succ.trans (List.getElem?_cons_succ.trans (List.getElem?_cons_succ.trans (List.getElem?_cons_succ.trans (List.getElem?_cons_succ.trans (List.getElem?_cons_succ.trans (List.getElem?_cons_succ.trans (List.getElem?_cons_succ.trans (List.getElem?_cons_succ.trans (List.getElem?_cons_zero)))))))))))))))))))))) (by kernel_rfl) (by kernel_rfl) (by kernel_rfl) (fun _ _ _ h => h) (Or.inl ⟨by rfl, ?_⟩) (by assumption) ?_
          rotate_left
          · intro w' hSw; (try dsimp only at hSw); go_simp; try with_reducible rfl
          try simp only [Act.put, List.setIfInBounds_toArray, List.set_cons_zero, List.set_cons_succ]
          refine wpAnyH_done (by kernel_rfl) ?_ _
          have hb10w := hb9w.trans ((below_undr hb10).mono hb9w.size)
          clear kS
          cases tv
          · have HN := Lib.hid (show ¬ ((G.fs.getD i f0).n = (X : Int) ∧ ∃ c r, toN sl = c :: r ∧ FirL G c (G.fs.getD i f0).b) from fun ⟨_, c, r, e, h⟩ => by
              rw [HT.out.2] at e
              cases e
              have h1 := HT.out.1.2 h
              first | cases h1 | exact h1)
            go_wp2_with fail
            go_roundw
            case rel => exact ⟨i + 1, by omega, by go_num, hb10w, fun j hj => by
              rcases lt_or_eq_succ hj with h8 | rfl
              · exact HI.out.2 j h8
              · exact HN.out⟩
            case measure => simp [intOf]; omega
          · have j1 := k1 w10 (below_undr hb10)
            go_wp2_with fail
            go_quiet (fail)
            rename_i nq
            go_wp2_with fail
            go_ret3
            exact ⟨below_drewN hb10w _, .inl ⟨x, HX.out.1, HX.out.2.1, ⟨c0, toN rest, HT.out.2, by rw [← HX.out.2.2.2.1]; exact HT.out.1.1 (by first | rfl | trivial)⟩, by rw [HX.out.2.2.1, HX.out.2.2.2.2.1, HX.out.2.2.2.2.2]; rfl⟩⟩
      · have hnb : (xN == (X : Int)) = false := by rw [beq_eq_false_iff_ne]; exact hname
        have HN := Lib.hid (show ¬ ((G.fs.getD i f0).n = (X : Int) ∧ ∃ c r, toN sl = c :: r ∧ FirL G c (G.fs.getD i f0).b) from fun h => hname (by rw [← HX.out.2.1, ← HX.out.2.2.2.1]; exact h.1))
        go_wp2_with fail
        go_quiet (fail)
        rename_i nq
        go_wp2_with fail
        go_roundw
        case rel => exact ⟨i + 1, by omega, by go_num, below_drewN hb9w _, fun j hj => by
          rcases lt_or_eq_succ hj with h8 | rfl
          · exact HI.out.2 j h8
          · exact HN.out⟩
        case measure => simp [intOf]; omega
    · obtain rfl : i = n := by omega
      have hkn : ¬ (i : Int) < (i : Int) := by omega
      have hnf : ∀ c r, toN sl = c :: r → ¬ Fir G c (X : Int) := fun c r e h => by
        obtain ⟨f, hfm, hfn, hfl⟩ := fir_form h
        obtain ⟨j, hj, ej⟩ := mem_getD hfm
        exact HI.out.2 j (by rw [← HG.out.2.2.1]; exact hj) ⟨by rw [ej]; exact hfn, c, r, e, by rw [ej]; exact hfl⟩
      have hv := HK.out.v X hX
      obtain ⟨tv, etv⟩ : ∃ z, (F.at 1).has X = z := ⟨_, rfl⟩
      rw [etv] at hv
      have HV := Lib.hid (And.intro hnf hv)
      have HH := Lib.hid (fun W => gsHas (F.at 1) (H.out.2.at 1) X (by omega) W)
      clear hnf hv
      go_wp2_with (first
        | (with_reducible refine st_load 56 ?_; refine stopped ?_)
        | fail)
      refine go_on ?_
      refine wpList_load_at rfl 56 (.tmp 49) rfl g 4 rfl (F.at 1).cells.toArray _ (HC.out _ hbel 1 (by decide) _ rfl) Tryd.underlying56 rfl set_size ?_
      simp only [Act.put, List.setIfInBounds_toArray, List.set_cons_zero, List.set_cons_succ]
      go_wp2_with (first
        | (go_at_call 19; refine stopped ?_)
        | fail)
      refine go_on ?_
      refine (HH.out _).mono ?_
      rintro e w10 ⟨rfl, hb10⟩
      rw [etv]
      have hb10w := hbel.trans (hb10.mono hbel.size)
      cases tv
      · go_wp2_with fail
        go_ret3
        exact ⟨hb10w, .inr (.inr ⟨HV.out.1, fun h => by have h1 := HV.out.2.2 h; first | cases h1 | exact h1, rfl⟩)⟩
      · have hrc := FcAt.rc (FcAt.below H.out.1 hb10w hg) H.out.2 hX (o := 328 + X) rfl
        obtain ⟨rm, erm⟩ : ∃ z, F.room X = z := ⟨_, rfl⟩
        rw [erm] at hrc
        go_wp2_with fail
        go_quiet (fail)
        rename_i nq
        go_wp2_with fail
        go_ret3
        exact ⟨below_drewN hb10w _, .inr (.inl ⟨HV.out.1, HV.out.2.1 (by first | rfl | trivial), by rw [erm]; rfl⟩)⟩
end Go.Proofs.YthfbmihpdkkcjaaDoor
