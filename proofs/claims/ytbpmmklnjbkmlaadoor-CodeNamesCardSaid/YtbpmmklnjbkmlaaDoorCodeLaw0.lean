/-
  The law's few and same, by their contracts. Conditions: each theorem's own premises.
-/
import Derived.Test.YtbpmmklnjbkmlaaDoorCodeAwake
namespace Go.Proofs.YtbpmmklnjbkmlaaDoor
open Go.RowKit

theorem lawFew (A : Option Addr) (n cp : Nat) (hn : n ≤ 9223372036854775807) (hnc : n ≤ cp) (w : World) : Calls Tryd.prog 9 #[.slice A n cp] w fun e w' => e = .returned (.slice A (min n 140) cp) ∧ w = w' := by
  obtain ⟨m, em⟩ : ∃ m, min n 140 = m := ⟨_, rfl⟩
  rw [em]
  by_cases h : 140 < n
  · obtain rfl : m = 140 := by omega
    have hi : (n : Int) > 140 := by omega
    have hc : (140 : Int) ≤ (cp : Int) := by omega
    clear em
    go_enter Tryd.func9, Tryd.ntmps9
    go_wp2_with fail
    go_ret
    exact ⟨rfl, rfl⟩
  · obtain rfl : m = n := by omega
    have hi : ¬ (m : Int) > 140 := by omega
    clear em
    go_enter Tryd.func9, Tryd.ntmps9
    go_wp2_with fail
    go_ret
    exact ⟨rfl, rfl⟩
theorem ifs4 {α : Type} {p q r s : Prop} [Decidable p] [Decidable q] [Decidable r] [Decidable s] (h : ¬ (p ∧ q ∧ r ∧ s)) (a b : α) : (if p then if q then if r then if s then a else b else b else b else b) = b := by
  by_cases hp : p
  · by_cases hq : q
    · by_cases hr : r
      · by_cases hs : s
        · exact absurd ⟨hp, hq, hr, hs⟩ h
        · rw [if_pos hp, if_pos hq, if_pos hr, if_neg hs]
      · rw [if_pos hp, if_pos hq, if_neg hr]
    · rw [if_pos hp, if_neg hq]
  · rw [if_neg hp]
theorem ivs_one : ∀ l : List Ins, ∀ u ∈ ivs l, u.oneCell' = true
  | [], u, hu => by simp [ivs] at hu
  | i :: r, u, hu => by
    rcases List.mem_append.1 hu with h | h
    · exact cells_one i u h
    · exact ivs_one r u h
theorem getD_all {l m : List Ins} (hlen : l.length = m.length) (h : ∀ j, j < l.length → l.getD j i0 = m.getD j i0) : l = m := by
  refine List.ext_getElem hlen fun j h1 h2 => ?_
  have := h j h1
  rw [List.getD, List.getD, List.getElem?_eq_getElem h1, List.getElem?_eq_getElem h2] at this
  simpa using this

set_option maxRecDepth 100000 in
set_option maxHeartbeats 4000000 in
set_option linter.unusedSimpArgs false in
theorem lawSame (A B : Option Addr) (l m : List Ins) (n k ca cb : Nat) (hl : l.length = n) (hm : m.length = k) (hn : n ≤ 1000000) (hk : k ≤ 1000000) (w : World) (hA : InsAt w A l) (hB : InsAt w B m) :
    Calls Tryd.prog 12 #[.slice A n ca, .slice B k cb] w (Says w (.bool (decide (l = m)))) := by
  obtain ⟨r, er⟩ : ∃ r, decide (l = m) = r := ⟨_, rfl⟩
  rw [er]
  by_cases hnk : n = k
  · subst hnk
    have H := Lib.hid (And.intro hl (And.intro hm (And.intro hA (And.intro hB er))))
    clear hl hm hA hB er
    have hmm : (n : Int) = (n : Int) := rfl
    go_enter Tryd.func12, Tryd.ntmps12
    go_wp2_with fail
    go_loopw [5] (fun u wz => ∃ i : Nat, i ≤ n ∧ u = .int .i64 (i : Int) ∧ Below w.heap.size w wz ∧ ∀ j, j < i → l.getD j i0 = m.getD j i0) (fun u _ => n - (intOf u).toNat)
    case atStart => exact ⟨0, by omega, rfl, Below.refl _ _, fun j hj => by omega⟩
    case round =>
      obtain ⟨i, hin, rfl, hbel, hsm⟩ := hrel
      by_cases hlt : i < n
      · have hii : (i : Int) < (n : Int) := by omega
        have hi0 : (0 : Int) ≤ (i : Int) := by omega
        obtain ⟨b, o, x0, x1, x2, x3, eA, hbl, eI, _, hce⟩ := H.out.2.2.1.at_ (j := i) (by rw [H.out.1]; exact hlt)
        obtain ⟨d, q, y0, y1, y2, y3, eB, hdl, eJ, _, hde⟩ := H.out.2.2.2.1.at_ (j := i) (by rw [H.out.2.1]; exact hlt)
        have hS0 : (fun w' => w'.cell? ⟨b, o + i * 4, none⟩ = some (.int .u8 (x0 : Int)) ∧ w'.cell? ⟨b, o + i * 4 + 1, none⟩ = some (.int .u8 (x1 : Int)) ∧ w'.cell? ⟨b, o + i * 4 + 2, none⟩ = some (.int .u8 (x2 : Int)) ∧ w'.cell? ⟨b, o + i * 4 + 3, none⟩ = some (.int .u8 (x3 : Int)) ∧ w'.cell? ⟨d, q + i * 4, none⟩ = some (.int .u8 (y0 : Int)) ∧ w'.cell? ⟨d, q + i * 4 + 1, none⟩ = some (.int .u8 (y1 : Int)) ∧ w'.cell? ⟨d, q + i * 4 + 2, none⟩ = some (.int .u8 (y2 : Int)) ∧ w'.cell? ⟨d, q + i * 4 + 3, none⟩ = some (.int .u8 (y3 : Int))) wr.drew := by
          obtain ⟨a0, a1, a2, a3⟩ := hce wr.drew hbel.drew
          obtain ⟨c0, c1, c2, c3⟩ := hde wr.drew hbel.drew
          exact ⟨a0, a1, a2, a3, c0, c1, c2, c3⟩
        have HE := Lib.hid (And.intro eI (And.intro eJ (And.intro hsm hbel)))
        subst eA eB
        clear hce hde hbl hdl eI eJ hsm
        by_cases heq : (⟨x0, x1, x2, x3⟩ : Ins) = ⟨y0, y1, y2, y3⟩
        · have HQ := Lib.hid heq
          rw [Ins.mk.injEq] at heq
          obtain ⟨rfl, rfl, rfl, rfl⟩ := heq
          go_wp2_with fail
          refine wp_region_held_drew (S := fun w' => w'.cell? ⟨b, o + i * 4, none⟩ = some (.int .u8 (x0 : Int)) ∧ w'.cell? ⟨b, o + i * 4 + 1, none⟩ = some (.int .u8 (x1 : Int)) ∧ w'.cell? ⟨b, o + i * 4 + 2, none⟩ = some (.int .u8 (x2 : Int)) ∧ w'.cell? ⟨b, o + i * 4 + 3, none⟩ = some (.int .u8 (x3 : Int)) ∧ w'.cell? ⟨d, q + i * 4, none⟩ = some (.int .u8 (x0 : Int)) ∧ w'.cell? ⟨d, q + i * 4 + 1, none⟩ = some (.int .u8 (x1 : Int)) ∧ w'.cell? ⟨d, q + i * 4 + 2, none⟩ = some (.int .u8 (x2 : Int)) ∧ w'.cell? ⟨d, q + i * 4 + 3, none⟩ = some (.int .u8 (x3 : Int))) (by kernel_rfl) hS0 (fun hHeld => ?_)
          refine wpAnyH_take (i := 0) (v := ?_) (List.getElem?_toArray.trans (List.getElem?_cons_zero)) (by kernel_rfl) (by kernel_rfl) (by kernel_rfl) (fun _ _ _ h => h) (Or.inl ⟨by rfl, ?_⟩) (by assumption) ?_
          rotate_left
          · intro w' hSw; (try dsimp only at hSw); go_simp; try with_reducible rfl
          try simp only [Act.put, List.setIfInBounds_toArray, List.set_cons_zero, List.set_cons_succ]
          refine wpAnyH_take (i := 1) (v := ?_) (List.getElem?_toArray.trans (List.getElem?_cons_succ.trans (List.getElem?_cons_zero))) (by kernel_rfl) (by kernel_rfl) (by kernel_rfl) (fun _ _ _ h => h) (Or.inl ⟨by rfl, ?_⟩) (by assumption) ?_
          rotate_left
          · intro w' hSw; (try dsimp only at hSw); go_simp; try with_reducible rfl
          try simp only [Act.put, List.setIfInBounds_toArray, List.set_cons_zero, List.set_cons_succ]
          refine wpAnyH_take (i := 2) (v := ?_) (List.getElem?_toArray.trans (List.getElem?_cons_succ.trans (List.getElem?_cons_succ.trans (List.getElem?_cons_zero)))) (by kernel_rfl) (by kernel_rfl) (by kernel_rfl) (fun _ _ _ h => h) (Or.inl ⟨by rfl, ?_⟩) (by assumption) ?_
          rotate_left
          · intro w' hSw; (try dsimp only at hSw); go_simp; try with_reducible rfl
          try simp only [Act.put, List.setIfInBounds_toArray, List.set_cons_zero, List.set_cons_succ]
          refine wpAnyH_take (i := 3) (v := ?_) (List.getElem?_toArray.trans (List.getElem?_cons_succ.trans (List.getElem?_cons_succ.trans (List.getElem?_cons_succ.trans (List.getElem?_cons_zero))))) (by kernel_rfl) (by kernel_rfl) (by kernel_rfl) (fun _ _ _ h => h) (Or.inl ⟨by rfl, ?_⟩) (by assumption) ?_
          rotate_left
          · intro w' hSw; (try dsimp only at hSw); go_simp; try with_reducible rfl
          try simp only [Act.put, List.setIfInBounds_toArray, List.set_cons_zero, List.set_cons_succ]
          refine wpAnyH_take (i := 4) (v := ?_) (List.getElem?_toArray.trans (List.getElem?_cons_succ.trans (List.getElem?_cons_succ.trans (List.getElem?_cons_succ.trans (List.getElem?_cons_succ.trans (List.getElem?_cons_zero)))))) (by kernel_rfl) (by kernel_rfl) (by kernel_rfl) (fun _ _ _ h => h) (Or.inl ⟨by rfl, ?_⟩) (by assumption) ?_
          rotate_left
          · intro w' hSw; (try dsimp only at hSw); go_simp; try with_reducible rfl
          try simp only [Act.put, List.setIfInBounds_toArray, List.set_cons_zero, List.set_cons_succ]
          refine wpAnyH_take (i := 5) (v := ?_) (List.getElem?_toArray.trans (List.getElem?_cons_succ.trans (List.getElem?_cons_succ.trans (List.getElem?_cons_succ.trans (List.getElem?_cons_succ.trans (List.getElem?_cons_succ.trans (List.getElem?_cons_zero))))))) (by kernel_rfl) (by kernel_rfl) (by kernel_rfl) (fun _ _ _ h => h) (Or.inl ⟨by rfl, ?_⟩) (by assumption) ?_
          rotate_left
          · intro w' hSw; (try dsimp only at hSw); go_simp; try with_reducible rfl
          try simp only [Act.put, List.setIfInBounds_toArray, List.set_cons_zero, List.set_cons_succ]
          refine wpAnyH_take (i := 6) (v := ?_) (List.getElem?_toArray.trans (List.getElem?_cons_succ.trans (List.getElem?_cons_succ.trans (List.getElem?_cons_succ.trans (List.getElem?_cons_succ.trans (List.getElem?_cons_succ.trans (List.getElem?_cons_succ.trans (List.getElem?_cons_zero)))))))) (by kernel_rfl) (by kernel_rfl) (by kernel_rfl) (fun _ _ _ h => h) (Or.inl ⟨by rfl, ?_⟩) (by assumption) ?_
          rotate_left
          · intro w' hSw; (try dsimp only at hSw); go_simp; try with_reducible rfl
          try simp only [Act.put, List.setIfInBounds_toArray, List.set_cons_zero, List.set_cons_succ]
          refine wpAnyH_take (i := 7) (v := ?_) (List.getElem?_toArray.trans (List.getElem?_cons_succ.trans (List.getElem?_cons_succ.trans (List.getElem?_cons_succ.trans (List.getElem?_cons_succ.trans (List.getElem?_cons_succ.trans (List.getElem?_cons_succ.trans (List.getElem?_cons_succ.trans (List.getElem?_cons_zero))))))))) (by kernel_rfl) (by kernel_rfl) (by kernel_rfl) (fun _ _ _ h => h) (Or.inl ⟨by rfl, ?_⟩) (by assumption) ?_
          rotate_left
          · intro w' hSw; (try dsimp only at hSw); go_simp; try with_reducible rfl
          try simp only [Act.put, List.setIfInBounds_toArray, List.set_cons_zero, List.set_cons_succ]
          refine wpAnyH_take (i := 8) (v := ?_) (List.getElem?_toArray.trans (List.getElem?_cons_succ.trans (List.getElem?_cons_succ.trans (List.getElem?_cons_succ.trans (List.getElem?_cons_succ.trans (List.getElem?_cons_succ.trans (List.getElem?_cons_succ.trans (List.getElem?_cons_succ.trans (List.getElem?_cons_succ.trans (List.getElem?_cons_zero)))))))))) (by kernel_rfl) (by kernel_rfl) (by kernel_rfl) (fun _ _ _ h => h) (Or.inl ⟨by rfl, ?_⟩) (by assumption) ?_
          rotate_left
          · intro w' hSw; (try dsimp only at hSw); go_simp; try with_reducible rfl
          try simp only [Act.put, List.setIfInBounds_toArray, List.set_cons_zero, List.set_cons_succ]
          refine wpAnyH_done (by kernel_rfl) ?_ _
          go_wp2_with fail
          go_roundw
          case rel =>
            refine ⟨i + 1, by omega, by go_num, HE.out.2.2.2.drew, fun j hj => ?_⟩
            rcases Nat.lt_or_ge j i with h8 | h8
            · exact HE.out.2.2.1 j h8
            · obtain rfl : j = i := by omega
              rw [HE.out.1, HE.out.2.1]
          case measure => simp [intOf]; omega
        · have hne : ¬ ((x0 = y0 ∧ x1 = y1) ∧ x2 = y2 ∧ x3 = y3) := by rw [Ins.mk.injEq] at heq; exact fun ⟨⟨e0, e1⟩, e2, e3⟩ => heq ⟨e0, e1, e2, e3⟩
          have hneI : ¬ ((x0 : Int) = (y0 : Int) ∧ (x1 : Int) = (y1 : Int) ∧ (x2 : Int) = (y2 : Int) ∧ (x3 : Int) = (y3 : Int)) := fun ⟨e0, e1, e2, e3⟩ => hne ⟨⟨by omega, by omega⟩, by omega, by omega⟩
          have hres : r = false := by
            rw [← H.out.2.2.2.2]
            exact decide_eq_false (fun e => heq (by rw [← HE.out.1, ← HE.out.2.1, e]))
          subst hres
          go_wp2_with fail
          refine wp_region_held_drew (S := fun w' => w'.cell? ⟨b, o + i * 4, none⟩ = some (.int .u8 (x0 : Int)) ∧ w'.cell? ⟨b, o + i * 4 + 1, none⟩ = some (.int .u8 (x1 : Int)) ∧ w'.cell? ⟨b, o + i * 4 + 2, none⟩ = some (.int .u8 (x2 : Int)) ∧ w'.cell? ⟨b, o + i * 4 + 3, none⟩ = some (.int .u8 (x3 : Int)) ∧ w'.cell? ⟨d, q + i * 4, none⟩ = some (.int .u8 (y0 : Int)) ∧ w'.cell? ⟨d, q + i * 4 + 1, none⟩ = some (.int .u8 (y1 : Int)) ∧ w'.cell? ⟨d, q + i * 4 + 2, none⟩ = some (.int .u8 (y2 : Int)) ∧ w'.cell? ⟨d, q + i * 4 + 3, none⟩ = some (.int .u8 (y3 : Int))) (by kernel_rfl) hS0 (fun hHeld => ?_)
          refine wpAnyH_take (i := 0) (v := ?_) (List.getElem?_toArray.trans (List.getElem?_cons_zero)) (by kernel_rfl) (by kernel_rfl) (by kernel_rfl) (fun _ _ _ h => h) (Or.inl ⟨by rfl, ?_⟩) (by assumption) ?_
          rotate_left
          · intro w' hSw; (try dsimp only at hSw); go_simp; try with_reducible rfl
          try simp only [Act.put, List.setIfInBounds_toArray, List.set_cons_zero, List.set_cons_succ]
          refine wpAnyH_take (i := 1) (v := ?_) (List.getElem?_toArray.trans (List.getElem?_cons_succ.trans (List.getElem?_cons_zero))) (by kernel_rfl) (by kernel_rfl) (by kernel_rfl) (fun _ _ _ h => h) (Or.inl ⟨by rfl, ?_⟩) (by assumption) ?_
          rotate_left
          · intro w' hSw; (try dsimp only at hSw); go_simp; try with_reducible rfl
          try simp only [Act.put, List.setIfInBounds_toArray, List.set_cons_zero, List.set_cons_succ]
          refine wpAnyH_take (i := 2) (v := ?_) (List.getElem?_toArray.trans (List.getElem?_cons_succ.trans (List.getElem?_cons_succ.trans (List.getElem?_cons_zero)))) (by kernel_rfl) (by kernel_rfl) (by kernel_rfl) (fun _ _ _ h => h) (Or.inl ⟨by rfl, ?_⟩) (by assumption) ?_
          rotate_left
          · intro w' hSw; (try dsimp only at hSw); go_simp; try with_reducible rfl
          try simp only [Act.put, List.setIfInBounds_toArray, List.set_cons_zero, List.set_cons_succ]
          refine wpAnyH_take (i := 3) (v := ?_) (List.getElem?_toArray.trans (List.getElem?_cons_succ.trans (List.getElem?_cons_succ.trans (List.getElem?_cons_succ.trans (List.getElem?_cons_zero))))) (by kernel_rfl) (by kernel_rfl) (by kernel_rfl) (fun _ _ _ h => h) (Or.inl ⟨by rfl, ?_⟩) (by assumption) ?_
          rotate_left
          · intro w' hSw; (try dsimp only at hSw); go_simp; try with_reducible rfl
          try simp only [Act.put, List.setIfInBounds_toArray, List.set_cons_zero, List.set_cons_succ]
          refine wpAnyH_take (i := 4) (v := ?_) (List.getElem?_toArray.trans (List.getElem?_cons_succ.trans (List.getElem?_cons_succ.trans (List.getElem?_cons_succ.trans (List.getElem?_cons_succ.trans (List.getElem?_cons_zero)))))) (by kernel_rfl) (by kernel_rfl) (by kernel_rfl) (fun _ _ _ h => h) (Or.inl ⟨by rfl, ?_⟩) (by assumption) ?_
          rotate_left
          · intro w' hSw; (try dsimp only at hSw); go_simp; try with_reducible rfl
          try simp only [Act.put, List.setIfInBounds_toArray, List.set_cons_zero, List.set_cons_succ]
          refine wpAnyH_take (i := 5) (v := ?_) (List.getElem?_toArray.trans (List.getElem?_cons_succ.trans (List.getElem?_cons_succ.trans (List.getElem?_cons_succ.trans (List.getElem?_cons_succ.trans (List.getElem?_cons_succ.trans (List.getElem?_cons_zero))))))) (by kernel_rfl) (by kernel_rfl) (by kernel_rfl) (fun _ _ _ h => h) (Or.inl ⟨by rfl, ?_⟩) (by assumption) ?_
          rotate_left
          · intro w' hSw; (try dsimp only at hSw); go_simp; try with_reducible rfl
          try simp only [Act.put, List.setIfInBounds_toArray, List.set_cons_zero, List.set_cons_succ]
          refine wpAnyH_take (i := 6) (v := ?_) (List.getElem?_toArray.trans (List.getElem?_cons_succ.trans (List.getElem?_cons_succ.trans (List.getElem?_cons_succ.trans (List.getElem?_cons_succ.trans (List.getElem?_cons_succ.trans (List.getElem?_cons_succ.trans (List.getElem?_cons_zero)))))))) (by kernel_rfl) (by kernel_rfl) (by kernel_rfl) (fun _ _ _ h => h) (Or.inl ⟨by rfl, ?_⟩) (by assumption) ?_
          rotate_left
          · intro w' hSw; (try dsimp only at hSw); go_simp; try with_reducible rfl
          try simp only [Act.put, List.setIfInBounds_toArray, List.set_cons_zero, List.set_cons_succ]
          refine wpAnyH_take (i := 7) (v := ?_) (List.getElem?_toArray.trans (List.getElem?_cons_succ.trans (List.getElem?_cons_succ.trans (List.getElem?_cons_succ.trans (List.getElem?_cons_succ.trans (List.getElem?_cons_succ.trans (List.getElem?_cons_succ.trans (List.getElem?_cons_succ.trans (List.getElem?_cons_zero))))))))) (by kernel_rfl) (by kernel_rfl) (by kernel_rfl) (fun _ _ _ h => h) (Or.inl ⟨by rfl, ?_⟩) (by assumption) ?_
          rotate_left
          · intro w' hSw; (try dsimp only at hSw); go_simp; try with_reducible rfl
          try simp only [Act.put, List.setIfInBounds_toArray, List.set_cons_zero, List.set_cons_succ]
          refine wpAnyH_ready (rs := [8]) (by kernel_rfl) (by simp) ?_
          refine AllReadyH.cons (List.getElem?_toArray.trans (List.getElem?_cons_succ.trans (List.getElem?_cons_succ.trans (List.getElem?_cons_succ.trans (List.getElem?_cons_succ.trans (List.getElem?_cons_succ.trans (List.getElem?_cons_succ.trans (List.getElem?_cons_succ.trans (List.getElem?_cons_succ.trans (List.getElem?_cons_zero)))))))))) (fun K hK => ?_) AllReadyH.nil
          go_simp
          rw [ifs4 hneI, Oper.upon_value]
          refine hK.out _ _ hS0 (fun hHeld => ?_)
          clear hK K
          try simp only [Act.put, List.setIfInBounds_toArray, List.set_cons_zero, List.set_cons_succ]
          refine wpAnyH_done (by kernel_rfl) ?_ _
          go_wp2_with fail
          go_ret
          exact ⟨rfl, HE.out.2.2.2.drew⟩
      · obtain rfl : i = n := by omega
        have hnl : ¬ (i : Int) < (i : Int) := by omega
        have hres : r = true := by
          rw [← H.out.2.2.2.2]
          exact decide_eq_true (getD_all (by rw [H.out.1, H.out.2.1]) (by rw [H.out.1]; exact hsm))
        subst hres
        have HB := Lib.hid hbel
        clear hbel
        go_wp2_with fail
        go_ret
        exact ⟨rfl, HB.out⟩
  · have hne : ¬ (n : Int) = (k : Int) := by omega
    have hne2 : ((n : Int) != (k : Int)) = true := by simp [bne]; omega
    have hres : r = false := by
      rw [← er]
      exact decide_eq_false (fun e => hnk (by rw [← hl, ← hm, e]))
    subst hres
    clear er hl hm hA hB
    go_enter Tryd.func12, Tryd.ntmps12
    go_wp2_with fail
    go_ret
    exact ⟨rfl, Below.refl _ _⟩
end Go.Proofs.YtbpmmklnjbkmlaaDoor
