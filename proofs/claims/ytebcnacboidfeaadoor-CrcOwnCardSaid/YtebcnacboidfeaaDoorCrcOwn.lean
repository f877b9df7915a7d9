/-
  The law CrcOwn answers true and turns nothing that was there. Conditions: the table reads as the program's text lays it; the slice holds at most 2^47 - 4 bytes.
-/
import Derived.Test.YtebcnacboidfeaaDoorCrcLaws
namespace Go.Proofs.YtebcnacboidfeaaDoor
open Go.RowKit

theorem seal_take' (l : List UInt8) : (sealed l).take l.length = l := by unfold sealed; exact List.take_left
/-- what Seal answers, written out -/
theorem seal_own (A : Option Addr) (l : List UInt8) (c B : Nat) (w : World) (hb : Bs w B A l) (hB : B ≤ w.heap.size) (ht : Tab w) (hl : l.length + 4 ≤ 140737488355328) :
    Calls Tryd.prog 16 #[.slice A l.length c] w fun e w' => ∃ A' c', e = .returned (.slice A' (l.length + 4) c') ∧ l.length + 4 ≤ c' ∧ Own w' w.heap.size 5 (.slice A' (l.length + 4) c') (sealed l) ∧ Bs w' w'.heap.size A' (sealed l) ∧ Below w.heap.size w w' := by
  refine (seal_any A l c B w hb hB ht hl).mono ?_
  rintro e w' ⟨v, rfl, hown, hbel⟩
  obtain ⟨A', c', rfl, hcap, _, hbs, _⟩ := hown.slice_cap
  rw [seal_length] at hown hcap ⊢
  exact ⟨A', c', rfl, hcap, hown, hbs, hbel⟩
/-- what Open answers to sealed bytes -/
theorem open_own (A : Option Addr) (l : List UInt8) (c B : Nat) (w : World) (hb : Bs w B A (sealed l)) (hB : B ≤ w.heap.size) (ht : Tab w) (hl : l.length + 4 ≤ 140737488355328) (hc : l.length + 4 ≤ c) :
    Calls Tryd.prog 14 #[.slice A (l.length + 4) c] w fun e w' => ∃ A' c', e = .returned (.tuple #[.slice A' l.length c', .int .i64 0]) ∧ Own w' w.heap.size 5 (.slice A' l.length c') l ∧ Bs w' w'.heap.size A' l ∧ Below w.heap.size w w' := by
  refine (open_yes A (sealed l) l.length c B w (seal_length l) hb hB ht (by rw [seal_length]; exact hl) (by rw [seal_length]; exact hc) (seal_opens l)).mono ?_
  rintro e w' ⟨v, rfl, hown, hbel⟩
  rw [seal_take'] at hown
  obtain ⟨A', c', rfl, hbs, _⟩ := hown.slice
  exact ⟨A', c', rfl, hown, hbs, hbel⟩
theorem OwnK.of {w : World} {base c : Nat} {A : Option Addr} {l : List UInt8} {n : Nat} (h : Own w base 5 (.slice A n c) l) (hn : l.length = n) : OwnK w base A n c := ⟨l, hn, h⟩

set_option maxRecDepth 100000 in
set_option maxHeartbeats 4000000 in
set_option linter.unusedSimpArgs false in
theorem crcOwn_calls (A : Option Addr) (l : List UInt8) (c : Nat) (w : World) (hb : Bs w w.heap.size A l) (hl : l.length + 4 ≤ 140737488355328) (ht : Tab w) :
    Calls Tryd.prog 8 #[.slice A l.length c] w fun ev w' => ev = .returned (.bool true) ∧ Below w.heap.size w w' := by
  have HL := Lib.hid hl
  have HT := Lib.hid ht
  have HB := Lib.hid hb
  clear hl ht hb
  go_enter Tryd.func8, Tryd.ntmps8
  go_wp2_with fail
  refine (seal_own A l c w.heap.size w HB.out (Nat.le_refl _) HT.out HL.out).mono ?_
  rintro e w1 ⟨A1, c1, rfl, hcap1, hown1, hbs1, hb1⟩
  have HC1 := Lib.hid hcap1
  have HS1 := Lib.hid hbs1
  have HT1 := Lib.hid (HT.out.on hb1 (Nat.le_refl _))
  clear hcap1 hown1 hbs1 HT
  go_wp2_with fail
  refine (open_own A1 l c1 w1.heap.size w1 HS1.out (Nat.le_refl _) HT1.out HL.out HC1.out).mono ?_
  rintro e w2 ⟨A2, c2, rfl, hown2, _, hb2⟩
  have hok2 : OwnK w2 w1.heap.size A2 l.length c2 := OwnK.of hown2 rfl
  have hB2 : Below w1.heap.size w1 w2 := hb2
  clear hown2 hb2
  go_wp2_with fail
  go_loopw [6] (fun i wr => ∃ j : Nat, j ≤ l.length ∧ i = .int .i64 j ∧ OwnK wr w1.heap.size A2 l.length c2 ∧ Below w1.heap.size w1 wr) (fun i _ => l.length - (intOf i).toNat)
  case atStart => exact ⟨0, Nat.zero_le _, rfl, hok2, hB2⟩
  case round =>
    clear hok2 hB2
    obtain ⟨j, hj, rfl, hok, hbw⟩ := hrel
    by_cases hlt : j < l.length
    · obtain ⟨g, x, rfl, hgb, hcell, hfr, hset⟩ := hok.round hlt
      have hx := xor_u8 x
      have hs := hset (UInt8.ofNat (x.toNat ^^^ 255))
      rw [xor_lt] at hs
      have HS := Lib.hid hs
      have hkb : l.length ≤ 140737488355328 := by have := HL.out; omega
      clear hs hset
      go_wp2_with fail
      go_roundw
      case rel => exact ⟨j + 1, by omega, by go_num, HS.out, hbw.setCell hgb _⟩
      case measure => simp [intOf]; omega
    · obtain rfl : l.length = j := by omega
      clear hok
      go_wp2_with fail
      refine (open_own A1 l c1 w1.heap.size wr (HS1.out.below hbw) hbw.size (HT1.out.on hbw (Nat.le_refl _)) HL.out HC1.out).mono ?_
      rintro e w3 ⟨A3, c3, rfl, _, hbs3, hb3⟩
      have hB3 : Below w1.heap.size w1 w3 := hbw.trans (hb3.mono hbw.size)
      have HS3 := Lib.hid hbs3
      have HBB1 := Lib.hid hb1
      clear hb3 hbs3 hb1 hbw
      go_wp2_with fail
      have hB3w : Below w.heap.size w w3 := HBB1.out.trans (hB3.mono HBB1.out.size)
      refine (seal_own A l c w.heap.size w3 (HB.out.below hB3w) hB3w.size (HT1.out.on hB3 (Nat.le_refl _)) HL.out).mono ?_
      rintro e w4 ⟨A4, c4, rfl, _, hown4, _, hb4⟩
      have hok4 : OwnK w4 w3.heap.size A4 (l.length + 4) c4 := OwnK.of hown4 (seal_length l)
      have hB4 : Below w3.heap.size w3 w4 := hb4
      clear hown4 hb4
      go_wp2_with fail
      go_loopw [10] (fun i wr => ∃ j : Nat, j ≤ l.length + 4 ∧ i = .int .i64 j ∧ OwnK wr w3.heap.size A4 (l.length + 4) c4 ∧ Below w3.heap.size w3 wr) (fun i _ => l.length + 4 - (intOf i).toNat)
      case atStart => exact ⟨0, Nat.zero_le _, rfl, hok4, hB4⟩
      case round =>
        clear hok4 hB4
        obtain ⟨j, hj, rfl, hok, hbq⟩ := hrel
        by_cases hlt : j < l.length + 4
        · obtain ⟨g, x, rfl, hgb, hcell, hfr, hset⟩ := hok.round hlt
          have HS := Lib.hid (hset 0)
          have hkb : l.length + 4 ≤ 140737488355328 := HL.out
          clear hset
          go_wp2_with fail
          go_roundw
          case rel => exact ⟨j + 1, by omega, by go_num, HS.out, hbq.setCell hgb _⟩
          case measure => simp [intOf]; omega
        · obtain rfl : j = l.length + 4 := by omega
          clear hok
          have hBq1 : Below w1.heap.size w1 wr := hB3.trans (hbq.mono hB3.size)
          have hBqw : Below w.heap.size w wr := hB3w.trans (hbq.mono hB3w.size)
          have HTq := Lib.hid (HT1.out.on hBq1 (Nat.le_refl _))
          have HBq := Lib.hid ((HB.out.below hBqw).more hBqw.size)
          have HX := (HS3.out.below hbq).conv (P := Tryd.prog) hbq.size rfl Tryd.underlying23 Tryd.underlying5 c3 9 Tryd.underlying9
          have HY := HBq.out.conv (P := Tryd.prog) (Nat.le_refl _) rfl Tryd.underlying23 Tryd.underlying5 c 9 Tryd.underlying9
          have HZ := (HS1.out.below hBq1).conv (P := Tryd.prog) hBq1.size (seal_length l) Tryd.underlying23 Tryd.underlying5 c1 9 Tryd.underlying9
          unfold Conv at HX HY HZ
          obtain ⟨m, em⟩ : ∃ m, sealed l = m := ⟨_, rfl⟩
          have hml : m.length = l.length + 4 := em ▸ seal_length l
          have HSL := Lib.hid fun w' (h : Below wr.heap.size wr w') => seal_own A l c wr.heap.size w' (HBq.out.below h) h.size (HTq.out.on h (Nat.le_refl _)) HL.out
          rw [em] at HZ HSL
          have HML := Lib.hid hml
          have HBB := Lib.hid hBqw
          have hd : Below wr.heap.size wr wr.drew := (Below.refl _ _).drew
          clear hml em hBq1 hBqw hbq hB3w hB3 HS3 HS1 HBB1 HB
          go_wp2_with fail
          refine wp_region_held_drew (S := fun w' => Below wr.heap.size wr w') (by kernel_rfl) hd (fun hHeld => ?_)
          refine wpAnyH_ready (rs := [0]) (by kernel_rfl) (by simp) ?_
          refine AllReadyH.cons (List.getElem?_toArray.trans (List.getElem?_cons_zero)) (fun K hK => ?_) AllReadyH.nil
          go_simp
          refine (crcAwake_true wr.drew (HTq.out.on hd (Nat.le_refl _))).mono ?_
          rintro e w5 ⟨rfl, hb5⟩
          have hB5 : Below wr.heap.size wr w5 := hd.trans (hb5.mono hd.size)
          clear hb5
          refine hK.out _ _ hB5 (fun hHeld => ?_)
          clear hK K
          try simp only [Act.put, List.setIfInBounds_toArray, List.set_cons_zero, List.set_cons_succ]
          refine wpAnyH_take (i := 1) (v := ?_) (List.getElem?_toArray.trans (List.getElem?_cons_succ.trans (List.getElem?_cons_zero))) (by kernel_rfl) (by kernel_rfl) (by kernel_rfl) (fun _ _ _ h => h) (Or.inl ⟨by rfl, ?_⟩) (by assumption) ?_
          rotate_left
          · intro w' hSw; (try dsimp only at hSw); go_simp; try with_reducible rfl
          try simp only [Act.put, List.setIfInBounds_toArray, List.set_cons_zero, List.set_cons_succ]
          refine wpAnyH_take (i := 2) (v := ?_) (List.getElem?_toArray.trans (List.getElem?_cons_succ.trans (List.getElem?_cons_succ.trans (List.getElem?_cons_zero)))) (by kernel_rfl) (by kernel_rfl) (by kernel_rfl) (fun _ _ _ h => h) (Or.inl ⟨by rfl, ?_⟩) (by assumption) ?_
          rotate_left
          · intro w' hSw; (try dsimp only at hSw); go_simp; try with_reducible rfl
          try simp only [Act.put, List.setIfInBounds_toArray, List.set_cons_zero, List.set_cons_succ]
          refine wpAnyH_take (i := 3) (v := ?_) (List.getElem?_toArray.trans (List.getElem?_cons_succ.trans (List.getElem?_cons_succ.trans (List.getElem?_cons_succ.trans (List.getElem?_cons_zero))))) (by kernel_rfl) (by kernel_rfl) (by kernel_rfl) (fun _ _ _ h => h) (Or.inl ⟨by rfl, ?_⟩) (by assumption) ?_
          rotate_left
          · intro w' hSw; (try dsimp only at hSw); go_simp; try with_reducible rfl
          try simp only [Act.put, List.setIfInBounds_toArray, List.set_cons_zero, List.set_cons_succ]
          refine wpAnyH_take (i := 4) (v := ?_) (List.getElem?_toArray.trans (List.getElem?_cons_succ.trans (List.getElem?_cons_succ.trans (List.getElem?_cons_succ.trans (List.getElem?_cons_succ.trans (List.getElem?_cons_zero)))))) (by kernel_rfl) (by kernel_rfl) (by kernel_rfl) (fun _ _ _ h => h) (Or.inl ⟨by rfl, ?_⟩) (by assumption) ?_
          rotate_left
          · intro w' hSw; (try dsimp only at hSw); go_simp; try with_reducible rfl
          try simp only [Act.put, List.setIfInBounds_toArray, List.set_cons_zero, List.set_cons_succ]
          refine wpAnyH_take (i := 5) (v := ?_) (List.getElem?_toArray.trans (List.getElem?_cons_succ.trans (List.getElem?_cons_succ.trans (List.getElem?_cons_succ.trans (List.getElem?_cons_succ.trans (List.getElem?_cons_succ.trans (List.getElem?_cons_zero))))))) (by kernel_rfl) (by kernel_rfl) (by kernel_rfl) (fun _ _ _ h => h) (Or.inl ⟨by rfl, ?_⟩) (by assumption) ?_
          rotate_left
          · intro w' hSw; (try dsimp only at hSw); go_simp; try with_reducible rfl
          try simp only [Act.put, List.setIfInBounds_toArray, List.set_cons_zero, List.set_cons_succ]
          refine wpAnyH_take (i := 6) (v := ?_) (List.getElem?_toArray.trans (List.getElem?_cons_succ.trans (List.getElem?_cons_succ.trans (List.getElem?_cons_succ.trans (List.getElem?_cons_succ.trans (List.getElem?_cons_succ.trans (List.getElem?_cons_succ.trans (List.getElem?_cons_zero)))))))) (by kernel_rfl) (by kernel_rfl) (by kernel_rfl) (fun _ _ _ h => h) (Or.inl ⟨by rfl, ?_⟩) (by assumption) ?_
          rotate_left
          · intro w' hSw; (try dsimp only at hSw); go_simp; try with_reducible rfl
          try simp only [Act.put, List.setIfInBounds_toArray, List.set_cons_zero, List.set_cons_succ]
          refine wpAnyH_take (i := 7) (v := ?_) (List.getElem?_toArray.trans (List.getElem?_cons_succ.trans (List.getElem?_cons_succ.trans (List.getElem?_cons_succ.trans (List.getElem?_cons_succ.trans (List.getElem?_cons_succ.trans (List.getElem?_cons_succ.trans (List.getElem?_cons_succ.trans (List.getElem?_cons_zero))))))))) (by kernel_rfl) (by kernel_rfl) (by kernel_rfl) (fun _ _ _ h => h) (Or.inl ⟨by rfl, ?_⟩) (by assumption) ?_
          rotate_left
          · intro w' hSw; (try dsimp only at hSw); go_simp; try with_reducible rfl
          try simp only [Act.put, List.setIfInBounds_toArray, List.set_cons_zero, List.set_cons_succ]
          refine wpAnyH_take (i := 8) (v := ?_) (List.getElem?_toArray.trans (List.getElem?_cons_succ.trans (List.getElem?_cons_succ.trans (List.getElem?_cons_succ.trans (List.getElem?_cons_succ.trans (List.getElem?_cons_succ.trans (List.getElem?_cons_succ.trans (List.getElem?_cons_succ.trans (List.getElem?_cons_succ.trans (List.getElem?_cons_zero)))))))))) (by kernel_rfl) (by kernel_rfl) (by kernel_rfl) (fun _ _ _ h => h) (Or.inl ⟨by rfl, ?_⟩) (by assumption) ?_
          rotate_left
          · intro w' hSw; (try dsimp only at hSw); go_simp; try with_reducible rfl
          try simp only [Act.put, List.setIfInBounds_toArray, List.set_cons_zero, List.set_cons_succ]
          refine wpAnyH_take (i := 9) (v := ?_) (List.getElem?_toArray.trans (List.getElem?_cons_succ.trans (List.getElem?_cons_succ.trans (List.getElem?_cons_succ.trans (List.getElem?_cons_succ.trans (List.getElem?_cons_succ.trans (List.getElem?_cons_succ.trans (List.getElem?_cons_succ.trans (List.getElem?_cons_succ.trans (List.getElem?_cons_succ.trans (List.getElem?_cons_zero))))))))))) (by kernel_rfl) (by kernel_rfl) (by kernel_rfl) (fun _ _ _ h => h) (Or.inl ⟨by rfl, ?_⟩) (by assumption) ?_
          rotate_left
          · intro w' hSw; (try dsimp only at hSw); go_simp; try with_reducible rfl
          try simp only [Act.put, List.setIfInBounds_toArray, List.set_cons_zero, List.set_cons_succ]
          refine wpAnyH_take (i := 10) (v := ?_) (List.getElem?_toArray.trans (List.getElem?_cons_succ.trans (List.getElem?_cons_succ.trans (List.getElem?_cons_succ.trans (List.getElem?_cons_succ.trans (List.getElem?_cons_succ.trans (List.getElem?_cons_succ.trans (List.getElem?_cons_succ.trans (List.getElem?_cons_succ.trans (List.getElem?_cons_succ.trans (List.getElem?_cons_succ.trans (List.getElem?_cons_zero)))))))))))) (by kernel_rfl) (by kernel_rfl) (by kernel_rfl) (fun _ _ _ h => h) (Or.inl ⟨by rfl, ?_⟩) (by assumption) ?_
          rotate_left
          · intro w' hSw; (try dsimp only at hSw); go_simp; try with_reducible rfl
          try simp only [Act.put, List.setIfInBounds_toArray, List.set_cons_zero, List.set_cons_succ]
          refine wpAnyH_take (i := 11) (v := ?_) (List.getElem?_toArray.trans (List.getElem?_cons_succ.trans (List.getElem?_cons_succ.trans (List.getElem?_cons_succ.trans (List.getElem?_cons_succ.trans (List.getElem?_cons_succ.trans (List.getElem?_cons_succ.trans (List.getElem?_cons_succ.trans (List.getElem?_cons_succ.trans (List.getElem?_cons_succ.trans (List.getElem?_cons_succ.trans (List.getElem?_cons_succ.trans (List.getElem?_cons_zero))))))))))))) (by kernel_rfl) (by kernel_rfl) (by kernel_rfl) (fun _ _ _ h => h) (Or.inl ⟨by rfl, ?_⟩) (by assumption) ?_
          rotate_left
          · intro w' hSw; (try dsimp only at hSw); go_simp; try with_reducible rfl
          try simp only [Act.put, List.setIfInBounds_toArray, List.set_cons_zero, List.set_cons_succ]
          refine wpAnyH_take (i := 12) (v := ?_) (List.getElem?_toArray.trans (List.getElem?_cons_succ.trans (List.getElem?_cons_succ.trans (List.getElem?_cons_succ.trans (List.getElem?_cons_succ.trans (List.getElem?_cons_succ.trans (List.getElem?_cons_succ.trans (List.getElem?_cons_succ.trans (List.getElem?_cons_succ.trans (List.getElem?_cons_succ.trans (List.getElem?_cons_succ.trans (List.getElem?_cons_succ.trans (List.getElem?_cons_succ.trans (List.getElem?_cons_zero)))))))))))))) (by kernel_rfl) (by kernel_rfl) (by kernel_rfl) (fun _ _ _ h => h) (Or.inl ⟨by rfl, ?_⟩) (by assumption) ?_
          rotate_left
          · intro w' hSw; (try dsimp only at hSw); go_simp; try with_reducible rfl
          try simp only [Act.put, List.setIfInBounds_toArray, List.set_cons_zero, List.set_cons_succ]
          refine wpAnyH_take (i := 13) (v := ?_) (List.getElem?_toArray.trans (List.getElem?_cons_succ.trans (List.getElem?_cons_succ.trans (List.getElem?_cons_succ.trans (List.getElem?_cons_succ.trans (List.getElem?_cons_succ.trans (List.getElem?_cons_succ.trans (List.getElem?_cons_succ.trans (List.getElem?_cons_succ.trans (List.getElem?_cons_succ.trans (List.getElem?_cons_succ.trans (List.getElem?_cons_succ.trans (List.getElem?_cons_succ.trans (List.getElem?_cons_succ.trans (List.getElem?_cons_zero))))))))))))))) (by kernel_rfl) (by kernel_rfl) (by kernel_rfl) (fun _ _ _ h => h) (Or.inl ⟨by rfl, ?_⟩) (by assumption) ?_
          rotate_left
          · intro w' hSw; (try dsimp only at hSw); go_simp; try with_reducible rfl
          try simp only [Act.put, List.setIfInBounds_toArray, List.set_cons_zero, List.set_cons_succ]
          refine wpAnyH_take (i := 16) (v := ?_) (List.getElem?_toArray.trans (List.getElem?_cons_succ.trans (List.getElem?_cons_succ.trans (List.getElem?_cons_succ.trans (List.getElem?_cons_succ.trans (List.getElem?_cons_succ.trans (List.getElem?_cons_succ.trans (List.getElem?_cons_succ.trans (List.getElem?_cons_succ.trans (List.getElem?_cons_succ.trans (List.getElem?_cons_succ.trans (List.getElem?_cons_succ.trans (List.getElem?_cons_succ.trans (List.getElem?_cons_succ.trans (List.getElem?_cons_succ.trans (List.getElem?_cons_succ.trans (List.getElem?_cons_succ.trans (List.getElem?_cons_zero)))))))))))))))))) (by kernel_rfl) (by kernel_rfl) (by kernel_rfl) (fun _ _ _ h => h) (Or.inl ⟨by rfl, ?_⟩) (by assumption) ?_
          rotate_left
          · intro w' hSw; (try dsimp only at hSw); go_simp; try with_reducible rfl
          try simp only [Act.put, List.setIfInBounds_toArray, List.set_cons_zero, List.set_cons_succ]
          refine wpAnyH_take (i := 17) (v := ?_) (List.getElem?_toArray.trans (List.getElem?_cons_succ.trans (List.getElem?_cons_succ.trans (List.getElem?_cons_succ.trans (List.getElem?_cons_succ.trans (List.getElem?_cons_succ.trans (List.getElem?_cons_succ.trans (List.getElem?_cons_succ.trans (List.getElem?_cons_succ.trans (List.getElem?_cons_succ.trans (List.getElem?_cons_succ.trans (List.getElem?_cons_succ.trans (List.getElem?_cons_succ.trans (List.getElem?_cons_succ.trans (List.getElem?_cons_succ.trans (List.getElem?_cons_succ.trans (List.getElem?_cons_succ.trans (List.getElem?_cons_succ.trans (List.getElem?_cons_zero))))))))))))))))))) (by kernel_rfl) (by kernel_rfl) (by kernel_rfl) (fun _ _ _ h => h) (Or.inl ⟨by rfl, ?_⟩) (by assumption) ?_
          rotate_left
          · intro w' hSw; (try dsimp only at hSw); go_simp; try with_reducible rfl
          try simp only [Act.put, List.setIfInBounds_toArray, List.set_cons_zero, List.set_cons_succ]
          refine wpAnyH_ready (rs := [14]) (by kernel_rfl) (by simp) ?_
          refine AllReadyH.cons (List.getElem?_toArray.trans (List.getElem?_cons_succ.trans (List.getElem?_cons_succ.trans (List.getElem?_cons_succ.trans (List.getElem?_cons_succ.trans (List.getElem?_cons_succ.trans (List.getElem?_cons_succ.trans (List.getElem?_cons_succ.trans (List.getElem?_cons_succ.trans (List.getElem?_cons_succ.trans (List.getElem?_cons_succ.trans (List.getElem?_cons_succ.trans (List.getElem?_cons_succ.trans (List.getElem?_cons_succ.trans (List.getElem?_cons_succ.trans (List.getElem?_cons_zero)))))))))))))))) (fun K hK => ?_) AllReadyH.nil
          go_simp
          refine (HSL.out w5 hB5).mono ?_
          rintro e w6 ⟨A6, c6, rfl, _, _, hbs6, hb6⟩
          have hB6 : Below wr.heap.size wr w6 := hB5.trans (hb6.mono hB5.size)
          have hC6 := hbs6.conv (P := Tryd.prog) (Nat.le_refl _) HML.out Tryd.underlying23 Tryd.underlying5 c6 9 Tryd.underlying9
          unfold Conv at hC6
          clear hbs6 hb6
          refine hK.out _ _ hB6 (fun hHeld => ?_)
          clear hK K
          try simp only [Act.put, List.setIfInBounds_toArray, List.set_cons_zero, List.set_cons_succ]
          refine wpAnyH_change (S' := fun w' => Below w6.heap.size w6 w') (fun w' h => hB6.trans (h.mono hB6.size)) _ _ _ _ ?_
          have hr6 := Below.refl w6.heap.size w6
          refine wpAnyH_take (i := 15) (v := ?_) (List.getElem?_toArray.trans (List.getElem?_cons_succ.trans (List.getElem?_cons_succ.trans (List.getElem?_cons_succ.trans (List.getElem?_cons_succ.trans (List.getElem?_cons_succ.trans (List.getElem?_cons_succ.trans (List.getElem?_cons_succ.trans (List.getElem?_cons_succ.trans (List.getElem?_cons_succ.trans (List.getElem?_cons_succ.trans (List.getElem?_cons_succ.trans (List.getElem?_cons_succ.trans (List.getElem?_cons_succ.trans (List.getElem?_cons_succ.trans (List.getElem?_cons_succ.trans (List.getElem?_cons_zero))))))))))))))))) (by kernel_rfl) (by kernel_rfl) (by kernel_rfl) (fun _ _ _ h => h) (Or.inl ⟨by rfl, ?_⟩) (by assumption) ?_
          rotate_left
          · intro w' hSw; (try dsimp only at hSw); go_simp; try with_reducible rfl
          try simp only [Act.put, List.setIfInBounds_toArray, List.set_cons_zero, List.set_cons_succ]
          refine wpAnyH_take (i := 18) (v := ?_) (List.getElem?_toArray.trans (List.getElem?_cons_succ.trans (List.getElem?_cons_succ.trans (List.getElem?_cons_succ.trans (List.getElem?_cons_succ.trans (List.getElem?_cons_succ.trans (List.getElem?_cons_succ.trans (List.getElem?_cons_succ.trans (List.getElem?_cons_succ.trans (List.getElem?_cons_succ.trans (List.getElem?_cons_succ.trans (List.getElem?_cons_succ.trans (List.getElem?_cons_succ.trans (List.getElem?_cons_succ.trans (List.getElem?_cons_succ.trans (List.getElem?_cons_succ.trans (List.getElem?_cons_succ.trans (List.getElem?_cons_succ.trans (List.getElem?_cons_succ.trans (List.getElem?_cons_zero)))))))))))))))))))) (by kernel_rfl) (by kernel_rfl) (by kernel_rfl) (fun _ _ _ h => h) (Or.inl ⟨by rfl, ?_⟩) (by assumption) ?_
          rotate_left
          · intro w' hSw; (try dsimp only at hSw); go_simp; try with_reducible rfl
          try simp only [Act.put, List.setIfInBounds_toArray, List.set_cons_zero, List.set_cons_succ]
          refine wpAnyH_take (i := 19) (v := ?_) (List.getElem?_toArray.trans (List.getElem?_cons_succ.trans (List.getElem?_cons_succ.trans (List.getElem?_cons_succ.trans (List.getElem?_cons_succ.trans (List.getElem?_cons_succ.trans (List.getElem?_cons_succ.trans (List.getElem?_cons_succ.trans (List.getElem?_cons_succ.trans (List.getElem?_cons_succ.trans (List.getElem?_cons_succ.trans (List.getElem?_cons_succ.trans (List.getElem?_cons_succ.trans (List.getElem?_cons_succ.trans (List.getElem?_cons_succ.trans (List.getElem?_cons_succ.trans (List.getElem?_cons_succ.trans (List.getElem?_cons_succ.trans (List.getElem?_cons_succ.trans (List.getElem?_cons_succ.trans (List.getElem?_cons_zero))))))))))))))))))))) (by kernel_rfl) (by kernel_rfl) (by kernel_rfl) (fun _ _ _ h => h) (Or.inl ⟨by rfl, ?_⟩) (by assumption) ?_
          rotate_left
          · intro w' hSw; (try dsimp only at hSw); go_simp; try with_reducible rfl
          try simp only [Act.put, List.setIfInBounds_toArray, List.set_cons_zero, List.set_cons_succ]
          refine wpAnyH_take (i := 20) (v := ?_) (List.getElem?_toArray.trans (List.getElem?_cons_succ.trans (List.getElem?_cons_succ.trans (List.getElem?_cons_succ.trans (List.getElem?_cons_succ.trans (List.getElem?_cons_succ.trans (List.getElem?_cons_succ.trans (List.getElem?_cons_succ.trans (List.getElem?_cons_succ.trans (List.getElem?_cons_succ.trans (List.getElem?_cons_succ.trans (List.getElem?_cons_succ.trans (List.getElem?_cons_succ.trans (List.getElem?_cons_succ.trans (List.getElem?_cons_succ.trans (List.getElem?_cons_succ.trans (List.getElem?_cons_succ.trans (List.getElem?_cons_succ.trans (List.getElem?_cons_succ.trans (List.getElem?_cons_succ.trans (List.getElem?_cons_succ.trans (List.getElem?_cons_zero)))))))))))))))))))))) (by kernel_rfl) (by kernel_rfl) (by kernel_rfl) (fun _ _ _ h => h) (Or.inl ⟨by rfl, ?_⟩) (by assumption) ?_
          rotate_left
          · intro w' hSw; (try dsimp only at hSw); go_simp; try with_reducible rfl
          try simp only [Act.put, List.setIfInBounds_toArray, List.set_cons_zero, List.set_cons_succ]
          refine wpAnyH_done (by kernel_rfl) ?_ _
          go_wp2
          go_ret
          exact ⟨rfl, HBB.out.trans (hB6.mono HBB.out.size)⟩
end Go.Proofs.YtebcnacboidfeaaDoor
