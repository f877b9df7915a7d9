/-
  Package pvm's appendWords and Save, by their contracts. Conditions: each theorem's own premises.
-/
import Derived.Test.YthgiehlfmdobkaaDoorPvmFnD
import Derived.Test.YthgiehlfmdobkaaDoorOctetMk
namespace Go.Proofs.YthgiehlfmdobkaaDoor
open Go.RowKit

/-- words as bytes -/
def wordB (l : List Int) : List UInt8 := l.flatMap (fun v => leB (u64N v) 8)
theorem wordB_len : ∀ l : List Int, (wordB l).length = 8 * l.length
  | [] => rfl
  | a :: r => by
    have := wordB_len r
    unfold wordB at this ⊢
    simp only [List.flatMap_cons, List.length_append, leB_length, List.length_cons, this]
    omega
theorem wordB_take {l : List Int} {k : Nat} (h : k < l.length) : wordB (l.take (k + 1)) = wordB (l.take k) ++ leB (u64N (l.getD k 0)) 8 := by
  rw [List.take_succ_eq_append_getElem h]
  unfold wordB
  rw [List.flatMap_append]
  simp [List.getD, h]
theorem u64_wrap (x : Int) : IntKind.u64.wrap x = ((u64N x : Nat) : Int) := by
  unfold u64N
  have e : IntKind.u64.wrap x = x % 18446744073709551616 := by simp [IntKind.wrap, IntKind.bits, IntKind.signed]
  rw [e]
  omega
theorem u64N_lt (x : Int) : u64N x < 18446744073709551616 := by unfold u64N; omega
def AddPost (w : World) (base : Nat) (l : List UInt8) (e : Ending) (w' : World) : Prop := ∃ v, e = .returned v ∧ Own w' base 5 v l ∧ Below base w w'

set_option maxRecDepth 100000 in
set_option maxHeartbeats 4000000 in
set_option linter.unusedSimpArgs false in
theorem pvAppend (w : World) (base : Nat) (v0 : Value) (l : List UInt8) (ws : List Int) (S : Option Addr) (n c : Nat) (hS : Vs w base S (zv ws)) (hlen : ws.length = n) (hok : ∀ v ∈ ws, R64 v) (hn : n ≤ 64) (hb : Own w base 5 v0 l) (hbase : base ≤ w.heap.size) (hl : l.length ≤ 1000000) :
    Calls Tryd.prog 37 #[v0, .slice S n c] w (AddPost w base (l ++ wordB ws)) := by
  obtain ⟨i0, hi0, hz0, hz1, hz2⟩ := info_parts u8info
  have H := Lib.hid (And.intro hS (And.intro hlen (And.intro hok (And.intro hn (And.intro hb (And.intro hbase hl))))))
  clear hS hlen hok hn hb hbase hl
  go_enter Tryd.func37, Tryd.ntmps37
  go_wp2_with fail
  go_loopw [0, 9] (fun v u wz => ∃ k : Nat, k ≤ n ∧ u = .int .i64 (k : Int) ∧ Own wz base 5 v (l ++ wordB (ws.take k)) ∧ Below base w wz ∧ base ≤ wz.heap.size) (fun _ u _ => n - (intOf u).toNat)
  case atStart => exact ⟨0, Nat.zero_le _, rfl, by rw [List.take_zero]; simpa [wordB] using H.out.2.2.2.2.1, Below.refl _ _, H.out.2.2.2.2.2.1⟩
  case round =>
    rename_i vb u
    obtain ⟨k, hk, rfl, hown, hbel, hbs⟩ := hrel
    by_cases hlt : k < n
    · have hki : (k : Int) < (n : Int) := by omega
      have hk0 : (0 : Int) ≤ (k : Int) := by omega
      have hkl : k < ws.length := by rw [H.out.2.1]; exact hlt
      obtain ⟨b, o, rfl, hbB, hc⟩ := H.out.1 (by rw [zv_length]; omega)
      have hx : wr.cell? ⟨b, o + k, none⟩ = some (.int .i64 (ws.getD k 0)) := (hbel.cell (p := ⟨b, o + k, none⟩) hbB).trans (hc k _ (zv_get hkl))
      have hr : R64 (ws.getD k 0) := H.out.2.2.1 _ (by simp [List.getD, hkl])
      have htk := wordB_take hkl
      obtain ⟨x, ex⟩ : ∃ x, ws.getD k 0 = x := ⟨_, rfl⟩
      rw [ex] at hx hr htk
      have huw := u64_wrap x
      have hub := u64N_lt x
      obtain ⟨y, ey⟩ : ∃ y, u64N x = y := ⟨_, rfl⟩
      rw [ey] at huw hub htk
      have HI := Lib.hid (And.intro hown (And.intro hbel (And.intro hbs (And.intro htk hub))))
      clear hown hbel hbs htk hub hc ex hr ey
      have hn64 := H.out.2.2.2.1
      have hpt := put_yes y 8 wr HI.out.2.2.2.2 (by decide) (by decide)
      have HPT := Lib.hid hpt
      clear hpt
      go_wp2_with (first
        | (go_at_call 36; refine HPT.out.mono ?_; rintro e w6 hp6; obtain ⟨rfl, hb6, hl6⟩ := hp6.bs (by decide); have H6 := Lib.hid (And.intro hb6 hl6); clear hp6 hb6 hl6)
        | (at_builtin; refine wpList_append_bytes_n _ rfl (.tmp 13) (.tmp 16) 47 rfl base 5 i0 _ Tryd.underlying47 hi0 hz0 hz1 hz2 rfl u0 (l ++ wordB (ws.take k)) rfl (HI.out.1.below H6.out.2) w6.heap.size (some ⟨wr.heap.size, 0, none⟩) 8 8 (leB y 8) (leB_length y 8) rfl H6.out.1 (by have h1 := H.out.2.2.2.2.2.2; have h2 := H.out.2.1; have h3 := H.out.2.2.2.1; rw [List.length_append, wordB_len, leB_length, List.length_take]; omega) (Nat.le_trans HI.out.2.2.1 H6.out.2.size) ?_; intro v7 w7 hown7 hg7 hb7)
        | fail)
      have hb67 := HI.out.2.1.trans (H6.out.2.mono HI.out.2.2.1)
      have hlt6 := World.ownsRow.lt (HI.out.1.below H6.out.2)
      have hbl7 : Below base w w7 := hb67.grown hg7 (Nat.le_trans HI.out.2.2.1 H6.out.2.size) (fun j e => (hlt6 j e).1)
      have hs7 : base ≤ w7.heap.size := Nat.le_trans (Nat.le_trans HI.out.2.2.1 H6.out.2.size) hg7.size
      rw [List.append_assoc, ← HI.out.2.2.2.1] at hown7
      go_wp2_with fail
      go_roundw
      case rel => exact ⟨k + 1, by omega, by go_num, hown7, hbl7, hs7⟩
      case measure => simp only [intOf]; omega
    · obtain rfl : k = n := by omega
      have hkn : ¬ (k : Int) < (k : Int) := by omega
      rw [show ws.take k = ws by rw [List.take_of_length_le]; rw [H.out.2.1]; exact Nat.le_refl _] at hown
      go_wp2_with fail
      go_ret
      exact ⟨_, rfl, hown, hbel⟩

theorem save_form {M : Mach} (h : mayM M = true) : saveM M = leB M.p.toNat 2 ++ leB M.s.toNat 1 ++ leB M.t.toNat 1 ++ wordB ((List.range 8).map M.r) ++ leB M.mem.length 1 ++ wordB M.mem := by
  unfold saveM wordB
  rw [if_neg (by rw [h]; decide), List.flatMap_map]
theorem regs_vs {W : World} {g B : Nat} {M : Mach} {A : Option Addr} {n c : Nat} (hb : Blk W g 27 (mcells M A n c).toArray) (hB : g < B) : Vs W B (some ⟨g, 1, none⟩) (zv ((List.range 8).map M.r)) := fun _ =>
  ⟨g, 1, rfl, hB, fun j v hj => by
    have hj8 : j < 8 := by
      have := (List.getElem?_eq_some_iff.1 hj).1
      simpa [zv] using this
    have e : (zv ((List.range 8).map M.r))[j]? = some (.int .i64 (M.r j)) := by simp [zv, hj8]
    rw [e] at hj
    cases hj
    rw [hb.cell]
    exact mcells_reg M A n c j hj8⟩
/-- Save on its way: the bytes so far, the machine's copy -/
structure SvAt (w W : World) (v : Value) (l : List UInt8) (M : Mach) (B : Option Addr) (k d : Nat) : Prop where
  own : Own W (w.heap.size + 1) 5 v l
  blk : Blk W w.heap.size 27 (mcells M B k d).toArray
  bel : Below w.heap.size w W
  siz : w.heap.size + 1 ≤ W.heap.size
section
variable {w W W' : World} {v v' : Value} {l m : List UInt8} {M : Mach} {B : Option Addr} {k d : Nat}
theorem SvAt.below (h : SvAt w W v l M B k d) (hb : Below W.heap.size W W') : SvAt w W' v l M B k d := ⟨h.own.below hb, h.blk.below hb h.blk.lt, h.bel.trans (hb.mono h.bel.size), Nat.le_trans h.siz hb.size⟩
theorem SvAt.add (h : SvAt w W v l M B k d) (ho : Own W' (w.heap.size + 1) 5 v' m) (hg : W.grownBy W' v.ownBlock) : SvAt w W' v' m M B k d :=
  have h1 := World.ownsRow.lt h.own
  ⟨ho, h.blk.grown hg (fun e => by have := (h1 _ e.symm).1; omega), h.bel.grown hg h.bel.size (fun j e => by have := (h1 j e).1; omega), Nat.le_trans h.siz hg.size⟩
theorem SvAt.words (h : SvAt w W v l M B k d) (ho : Own W' (w.heap.size + 1) 5 v' m) (hb : Below (w.heap.size + 1) W W') : SvAt w W' v' m M B k d :=
  ⟨ho, h.blk.below hb (Nat.lt_succ_self _), h.bel.trans (hb.mono (Nat.le_succ _)), Nat.le_trans h.siz hb.size⟩
theorem SvAt.cp (h : SvAt w W v l M B k d) : W.cell? ⟨w.heap.size, 0, none⟩ = some (.int .i64 M.p) := by rw [h.blk.cell]; rfl
theorem SvAt.cs (h : SvAt w W v l M B k d) : W.cell? ⟨w.heap.size, 10, none⟩ = some (.int .i64 M.s) := by rw [h.blk.cell]; rfl
theorem SvAt.ct (h : SvAt w W v l M B k d) : W.cell? ⟨w.heap.size, 11, none⟩ = some (.int .i64 M.t) := by rw [h.blk.cell]; rfl
theorem SvAt.cm (h : SvAt w W v l M B k d) : W.cell? ⟨w.heap.size, 9, none⟩ = some (.slice B k d) := by rw [h.blk.cell]; rfl
end

set_option maxRecDepth 100000 in
set_option maxHeartbeats 4000000 in
set_option linter.unusedSimpArgs false in
theorem pvSave (w : World) (M : Mach) (B : Option Addr) (k d : Nat) (hM : MachAt w M B k d) : Calls Tryd.prog 17 #[mv M B k d] w (OwnPost w (saveM M)) := by
  obtain ⟨i0, hi0, hz0, hz1, hz2⟩ := info_parts u8info
  have H := Lib.hid hM
  clear hM
  go_enter Tryd.func17, Tryd.ntmps17
  go_wp2_with (first
    | (refine wpList_box rfl 27 (.tmp 0) rfl (mcells M B k d).toArray rfl ?_; intro w1 hb1 hw1 hz1)
    | (with_reducible refine st_load 27 ?_; refine stopped ?_)
    | fail)
  have hmy := pvMay w1 M B k d (H.out.below hw1)
  refine go_on ?_
  refine wpList_load_at rfl 27 (.tmp 1) rfl w.heap.size 0 rfl (mcells M B k d).toArray _ (Blk.cells hb1) Tryd.underlying27 rfl mach_size ?_
  simp only [Act.put, List.setIfInBounds_toArray, List.set_cons_zero, List.set_cons_succ]
  have H1 := Lib.hid (And.intro hb1 (And.intro hw1 hz1))
  clear hb1 hw1 hz1
  cases hm : mayM M
  · rw [hm] at hmy
    have HY := Lib.hid (And.intro hmy (saveM_no hm))
    clear hmy hm
    go_wp2_with (first
      | (go_at_call 16; refine HY.out.1.mono ?_; rintro e w2 ⟨rfl, hb2⟩)
      | fail)
    go_ret
    exact ⟨.slice none 0 0, rfl, by rw [HY.out.2]; exact Own.nil_ _ _ _, H1.out.2.1.trans (hb2.mono H1.out.2.1.size)⟩
  · rw [hm] at hmy
    have hsf := save_form hm
    have hfacts := of_decide_eq_true hm
    obtain ⟨np, ep⟩ : ∃ np : Nat, M.p = (np : Int) := ⟨M.p.toNat, by omega⟩
    obtain ⟨ns, es⟩ : ∃ ns : Nat, M.s = (ns : Int) := ⟨M.s.toNat, by omega⟩
    obtain ⟨nt, et⟩ : ∃ nt : Nat, M.t = (nt : Int) := ⟨M.t.toNat, by omega⟩
    have hlen := H.out.len
    have hk64 : k ≤ 64 := by rw [← hlen]; exact hfacts.2.2.1
    rw [ep, es, et, Int.toNat_natCast, Int.toNat_natCast, Int.toNat_natCast, hlen] at hsf
    have hnp : (np : Int) < 65536 := by omega
    have hns : (ns : Int) < 256 := by omega
    have hnt : (nt : Int) < 256 := by omega
    have HF := Lib.hid (And.intro ep (And.intro es (And.intro et (And.intro hlen hsf))))
    have HY := Lib.hid hmy
    clear hmy hm hfacts ep es et hlen hsf
    go_wp2_with (first
      | (go_at_call 16; refine HY.out.mono ?_; rintro e w2 ⟨rfl, hb2⟩; have hk2 := H1.out.1.below hb2 H1.out.1.lt; have hw2 := H1.out.2.1.trans (hb2.mono H1.out.2.1.size); have hs2 : w.heap.size + 1 ≤ w2.heap.size := (by rw [← H1.out.2.2]; exact hb2.size); have cp2 : w2.cell? ⟨w.heap.size, 0, none⟩ = some (.int .i64 (np : Int)) := (by rw [hk2.cell, ← HF.out.1]; rfl))
      | (go_at_call 36; refine stopped ?_)
      | fail)
    refine go_on ?_
    refine (put_yes np 2 w2 (by omega) (by decide) (by decide)).mono ?_
    rintro e w3 hp3
    obtain ⟨rfl, ho3, hl3⟩ := hp3.own (by decide)
    obtain ⟨v3, ev3⟩ : ∃ v, Value.slice (some ⟨w2.heap.size, 0, none⟩) 2 2 = v := ⟨_, rfl⟩
    rw [ev3] at ho3
    have S3 := Lib.hid (SvAt.mk (w := w) (ho3.mono hs2) (hk2.below hl3 hk2.lt) (hw2.trans (hl3.mono hw2.size)) (Nat.le_trans hs2 hl3.size))
    clear hp3 ho3 hl3 hk2 hw2 hs2 cp2 hb2
    dsimp only
    rw [ev3]
    clear ev3
    have hc4 := S3.out.cs
    rw [HF.out.2.1] at hc4
    go_wp2_with (first
      | (go_at_call 36; refine stopped ?_)
      | fail)
    refine go_on ?_
    refine (put_yes ns 1 w3 (by omega) (by decide) (by decide)).mono ?_
    rintro e x4 hp4
    obtain ⟨rfl, hb4, hl4⟩ := hp4.bs (by decide)
    have T4 := Lib.hid (And.intro (S3.out.below hl4) hb4)
    clear hp4 hb4 hl4 hc4
    go_wp2_with (first
      | (at_builtin; refine stopped ?_)
      | fail)
    refine go_on ?_
    refine wpList_append_bytes_n _ rfl (.tmp 11) (.tmp 15) 47 rfl (w.heap.size + 1) 5 i0 _ Tryd.underlying47 hi0 hz0 hz1 hz2 rfl v3 (leB np 2) rfl T4.out.1.own x4.heap.size (some ⟨w3.heap.size, 0, none⟩) 1 1 (leB ns 1) (leB_length _ 1) rfl T4.out.2 (by simp only [List.length_append, leB_length, wordB_len, List.length_map, List.length_range]; omega) T4.out.1.siz ?_
    intro v4 w4 hown4 hg4 _
    have S4 := Lib.hid (T4.out.1.add hown4 hg4)
    clear hown4 hg4
    simp only [Act.put, List.setIfInBounds_toArray, List.set_cons_zero, List.set_cons_succ]
    have hc5 := S4.out.ct
    rw [HF.out.2.2.1] at hc5
    go_wp2_with (first
      | (go_at_call 36; refine stopped ?_)
      | fail)
    refine go_on ?_
    refine (put_yes nt 1 w4 (by omega) (by decide) (by decide)).mono ?_
    rintro e x5 hp5
    obtain ⟨rfl, hb5, hl5⟩ := hp5.bs (by decide)
    have T5 := Lib.hid (And.intro (S4.out.below hl5) hb5)
    clear hp5 hb5 hl5 hc5
    go_wp2_with (first
      | (at_builtin; refine stopped ?_)
      | fail)
    refine go_on ?_
    refine wpList_append_bytes_n _ rfl (.tmp 17) (.tmp 21) 47 rfl (w.heap.size + 1) 5 i0 _ Tryd.underlying47 hi0 hz0 hz1 hz2 rfl v4 ((leB np 2) ++ leB ns 1) rfl T5.out.1.own x5.heap.size (some ⟨w4.heap.size, 0, none⟩) 1 1 (leB nt 1) (leB_length _ 1) rfl T5.out.2 (by simp only [List.length_append, leB_length, wordB_len, List.length_map, List.length_range]; omega) T5.out.1.siz ?_
    intro v5 w5 hown5 hg5 _
    have S5 := Lib.hid (T5.out.1.add hown5 hg5)
    clear hown5 hg5
    simp only [Act.put, List.setIfInBounds_toArray, List.set_cons_zero, List.set_cons_succ]
    go_wp2_with (first
      | (go_at_call 37; refine stopped ?_)
      | fail)
    refine go_on ?_
    refine (pvAppend w5 (w.heap.size + 1) v5 (((leB np 2) ++ leB ns 1) ++ leB nt 1) ((List.range 8).map M.r) (some ⟨w.heap.size, 1, none⟩) 8 8 (regs_vs S5.out.blk (Nat.lt_succ_self _)) (by simp) (fun x hx => by obtain ⟨j, _, rfl⟩ := List.mem_map.1 hx; exact H.out.ok.r j) (by decide) S5.out.own S5.out.siz (by simp only [List.length_append, leB_length, wordB_len, List.length_map, List.length_range]; omega)).mono ?_
    rintro e w6 ⟨v6, rfl, ho6, hb6⟩
    have S6 := Lib.hid (S5.out.words ho6 hb6)
    clear ho6 hb6
    dsimp only
    have hc7 := S6.out.cm
    have hki : (k : Int) < 65536 := by omega
    go_wp2_with (first
      | (go_at_call 36; refine stopped ?_)
      | fail)
    refine go_on ?_
    refine (put_yes k 1 w6 (by omega) (by decide) (by decide)).mono ?_
    rintro e x7 hp7
    obtain ⟨rfl, hb7, hl7⟩ := hp7.bs (by decide)
    have T7 := Lib.hid (And.intro (S6.out.below hl7) hb7)
    clear hp7 hb7 hl7 hc7
    go_wp2_with (first
      | (at_builtin; refine stopped ?_)
      | fail)
    refine go_on ?_
    refine wpList_append_bytes_n _ rfl (.tmp 27) (.tmp 32) 47 rfl (w.heap.size + 1) 5 i0 _ Tryd.underlying47 hi0 hz0 hz1 hz2 rfl v6 ((((leB np 2) ++ leB ns 1) ++ leB nt 1) ++ wordB ((List.range 8).map M.r)) rfl T7.out.1.own x7.heap.size (some ⟨w6.heap.size, 0, none⟩) 1 1 (leB k 1) (leB_length _ 1) rfl T7.out.2 (by simp only [List.length_append, leB_length, wordB_len, List.length_map, List.length_range]; omega) T7.out.1.siz ?_
    intro v7 w7 hown7 hg7 _
    have S7 := Lib.hid (T7.out.1.add hown7 hg7)
    clear hown7 hg7
    simp only [Act.put, List.setIfInBounds_toArray, List.set_cons_zero, List.set_cons_succ]
    have hc8 := S7.out.cm
    go_wp2_with (first
      | (go_at_call 37; refine stopped ?_)
      | fail)
    refine go_on ?_
    refine (pvAppend w7 (w.heap.size + 1) v7 (((((leB np 2) ++ leB ns 1) ++ leB nt 1) ++ wordB ((List.range 8).map M.r)) ++ leB k 1) M.mem B k d (((H.out.vs.below S7.out.bel).more (Nat.le_succ _))) HF.out.2.2.2.1 H.out.ok.mem hk64 S7.out.own S7.out.siz (by simp only [List.length_append, leB_length, wordB_len, List.length_map, List.length_range]; omega)).mono ?_
    rintro e w8 ⟨v8, rfl, ho8, hb8⟩
    have S8 := Lib.hid (S7.out.words ho8 hb8)
    clear ho8 hb8
    dsimp only
    go_wp2_with fail
    go_ret
    exact ⟨v8, rfl, by rw [HF.out.2.2.2.2]; exact S8.out.own.mono (Nat.le_succ _), S8.out.bel⟩
end Go.Proofs.YthgiehlfmdobkaaDoor
