/-
  Package sha's encode and ending, by their contracts. Conditions: each theorem's own premises.
-/
import Derived.Test.YtjhkoepcolpclaaDoorShaEncM
import Derived.Test.YtjhkoepcolpclaaDoorShaH0
import Derived.Laws.MakeOwn
import Derived.BigQuiet
namespace Go.Proofs.YtjhkoepcolpclaaDoor
open Go.RowKit

theorem arr32_info : (Tryd.prog.info? 24).map (·.size) = some 32 := by kernel_rfl
theorem arr32_zero : (Tryd.prog.info? 24).map (·.zero) = some (some (.agg (bv (List.replicate 32 0)).toArray)) := by kernel_rfl
theorem u8wrap {y : Nat} {c : UInt8} (h : y % 256 = c.toNat) : IntKind.u8.wrap (y : Int) = (c.toNat : Int) ∧ (y : Int) % 256 = (c.toNat : Int) := by
  have h2 : IntKind.u8.wrap (y : Int) = (y : Int) % 256 := by simp [IntKind.wrap, IntKind.bits, IntKind.signed]
  rw [h2]
  omega

theorem made_bytes (n : Nat) : madeCells #[Value.int .u8 0] n = (bv (List.replicate n 0)).toArray := by
  apply Array.ext
  · simp [madeCells, bv]
  · intro i h1 h2
    simp [madeCells, bv, Nat.mod_one]
theorem u8_all : (Tryd.prog.info? 5).map (fun i => (i.zero, i.size, i.bytes)) = some (some (.int .u8 0), 1, 1) := by kernel_rfl
theorem wpList_make_bytes {w : World} {ops : Array Oper} {rest : List Oper} {o : Oper} {a : Act} {Q : Exit → Act → World → Prop} (hgd : o.guard = none) (l c : Operand) (ho : o.op = .makeSlice 22 l c)
    (n : Nat) (hl : a.eval l = .int .i64 (n : Int)) (hc : a.eval c = .int .i64 (n : Int)) (hn : n ≤ 140737488355328)
    (h : ∀ w', Blk w' w.heap.size 5 (bv (List.replicate n 0)).toArray → Below w.heap.size w w' → w'.heap.size = w.heap.size + 1 → wpList Tryd.prog ops Q rest (a.put o.dst (.slice (some ⟨w.heap.size, 0, none⟩) n n)) w') : wpList Tryd.prog ops Q (o :: rest) a w := by
  obtain ⟨i, hi, hz, h1, h2⟩ := info_parts u8_all
  have hr := run_make (P := Tryd.prog) w 22 5 i (.int .u8 0) Tryd.underlying22 hi hz .i64 .i64 n n (by omega) (by omega) (by rw [h2]; omega) (by omega)
  simp only [Int.toNat_natCast, h1, Nat.mul_one] at hr
  have e : (Value.int .u8 0).cells = #[Value.int .u8 0] := rfl
  rw [e, made_bytes] at hr
  refine wpList_plain hgd fun _ hK => ?_
  unfold Oper.wp execOp
  simp only [ho, hl, hc, Sem.run_bind, Sem.run_pure, hr, Result.andThen_ok]
  exact hK _ _ (h _ (Blk.new w _ _) (below_alloc w _) (by simp))

set_option maxRecDepth 100000 in
set_option maxHeartbeats 4000000 in
set_option linter.unusedSimpArgs false in
theorem encode_any (s : St) (hs : s.okB) (S : Array Value) (hS : S = (wv s.list).toArray) (w : World) :
    Calls Tryd.prog 26 #[.agg S] w fun e w' => e = .returned (.agg (bv (digest s)).toArray) ∧ Below w.heap.size w w' := by
  have HS := Lib.hid hs
  have HSl := Lib.hid hS
  clear hs hS
  go_enter Tryd.func26, Tryd.ntmps26
  go_wp2_with (first
    | (refine wpList_box rfl 50 (.tmp 0) rfl S rfl ?_; intro w1 hb1 hw1 hz1)
    | (refine wpList_alloc rfl 24 rfl _ arr32_zero ?_; intro w2 hb2 hw2 hz2; refine stopped ?_)
    | fail)
  refine go_on ?_
  go_wp2_with (first
    | (refine wpList_alloc rfl 24 rfl _ arr32_zero ?_; intro w3 hb3 hw3 hz3)
    | fail)
  have h3 : Below w.heap.size w w3 := hw1.trans ((hw2.trans (hw3.mono (by omega))).mono (by omega))
  have k1 : Blk w3 w.heap.size 50 (wv s.list).toArray := by rw [← HSl.out]; exact hb1.below (hw2.trans (hw3.mono (by omega))) (by omega)
  have k2 : Blk w3 (w.heap.size + 1) 24 (bv (List.replicate 32 0)).toArray := by rw [← hz1]; exact hb2.below hw3 (by omega)
  have k3 : Blk w3 (w.heap.size + 1 + 1) 24 (bv (encS s 0)).toArray := by rw [← hz1, ← hz2]; exact hb3
  obtain ⟨g, eg⟩ : ∃ g, w.heap.size + 1 + 1 = g := ⟨_, rfl⟩
  obtain ⟨gr, egr⟩ : ∃ g, w.heap.size + 1 = g := ⟨_, rfl⟩
  obtain ⟨gb, egb⟩ : ∃ g, w.heap.size = g := ⟨_, rfl⟩
  have HN := Lib.hid (show gb ≠ g ∧ gr ≠ g ∧ w.heap.size ≤ g ∧ w.heap.size ≤ gr from ⟨by omega, by omega, by omega, by omega⟩)
  rw [eg] at k3 ⊢
  rw [egr] at k2 ⊢
  rw [egb] at k1 ⊢
  have HK := Lib.hid (And.intro k1 k2)
  have HK3 := Lib.hid k3
  have H3 := Lib.hid h3
  clear k1 k2 k3 h3 hb1 hb2 hb3 hw1 hw2 hw3 hz1 hz2 hz3 eg egr egb
  go_loopw [6] (fun v wz => ∃ i : Nat, i ≤ 32 ∧ v = .int .i64 (i : Int) ∧ Blk wz g 24 (bv (encS s i)).toArray ∧ w3.grownBy wz (some g)) (fun v _ => 32 - (intOf v).toNat)
  case atStart => exact ⟨0, by omega, rfl, HK3.out, only_refl _ _⟩
  case round =>
    obtain ⟨i, hi, rfl, hblk, hgr⟩ := hrel
    have HBk := Lib.hid hblk
    have HGr := Lib.hid hgr
    clear hblk hgr HK3
    by_cases hlt : i < 32
    · obtain ⟨q, eq⟩ : ∃ q, i / 4 = q := ⟨_, rfl⟩
      obtain ⟨r, er⟩ : ∃ r, i % 4 = r := ⟨_, rfl⟩
      have a1 : (i : Int) / 4 = (q : Int) := by omega
      have a2 : (i : Int) % 4 = (r : Int) := by omega
      have a3 : (i : Int).tmod 4 = (r : Int) := by rw [Int.tmod_eq_emod_of_nonneg (by omega)]; exact a2
      obtain ⟨la, ela⟩ : ∃ x, 3 - r = x := ⟨_, rfl⟩
      have a4 : (3 : Int) - (r : Int) = (la : Int) := by omega
      obtain ⟨m, em⟩ : ∃ x, 8 * la = x := ⟨_, rfl⟩
      have a5 : (8 : Int) * (la : Int) = (m : Int) := by omega
      have a6 : (0 : Int) ≤ (m : Int) := by omega
      have a7 : (m : Int) ≤ 32 := by omega
      have a8 : (q : Int) < 8 := by omega
      have a9 : (i : Int) < 32 := by omega
      have cx := (HK.out.1.grown HGr.out (some_neq HN.out.1)).getw (p := q) (by rw [St.list_length]; omega)
      obtain ⟨x, ex⟩ : ∃ x, s.list.getD q 0 = x := ⟨_, rfl⟩
      rw [ex] at cx
      obtain ⟨y, ey⟩ : ∃ y, x / 2 ^ m = y := ⟨_, rfl⟩
      have a10 : (x : Int) / 2 ^ m = (y : Int) := by rw [← ey, Int.natCast_ediv, Int.natCast_pow]; rfl
      obtain ⟨c, ec⟩ : ∃ c : UInt8, UInt8.ofNat (x / 256 ^ la % 256) = c := ⟨_, rfl⟩
      have hy : y = x / 256 ^ la := by rw [← ey, ← em, show (256 : Nat) = 2 ^ 8 from rfl, ← Nat.pow_mul]
      have hc : y % 256 = c.toNat := by rw [← ec, hy]; simp
      obtain ⟨a11, a12⟩ := u8wrap hc
      have hst := encS_step s i hlt c (by rw [eq, er, ex, ela, ec])
      have hfro := HBk.out.frozen i
      have hci := HBk.out.getb (p := i) (by rw [encS_length s i hi]; exact hlt)
      obtain ⟨old, eold⟩ : ∃ x, ((encS s i).getD i 0).toNat = x := ⟨_, rfl⟩
      rw [eold] at hci
      obtain ⟨cn, ecn⟩ : ∃ x, c.toNat = x := ⟨_, rfl⟩
      rw [ecn] at a11 a12
      have HSt := Lib.hid (And.intro hst.symm ecn)
      clear hst eq er ela em ex ey ec hy hc eold ecn
      go_wp2_with fail
      go_roundw
      case rel => exact ⟨i + 1, by omega, by go_num, by rw [HSt.out.1]; exact HBk.out.setb i c _ (by rw [HSt.out.2]), only_setCell HGr.out (.inl rfl) _⟩
      case measure => simp [intOf]; omega
    · obtain rfl : i = 32 := by omega
      have HEnd := Lib.hid (show Blk wr g 24 (bv (digest s)).toArray by rw [← encS_end]; exact HBk.out)
      have HR := Lib.hid (HK.out.2.grown HGr.out (some_neq HN.out.2.1))
      obtain ⟨F, eF⟩ : ∃ F, digest s = F := ⟨_, rfl⟩
      have hFl : (bv F).length = 32 := by rw [bv_length, ← eF, digest_length]
      have hFi : (Tryd.prog.info? 24).map (·.size) = some (bv F).length := by rw [hFl]; exact arr32_info
      have hend := HEnd.out
      rw [eF] at hend
      have HE := Lib.hid (And.intro hend (And.intro hFl hFi))
      clear HEnd hend hFl hFi
      go_wp2_with (first | (with_reducible refine at_load 24 ?_; refine stopped ?_) | fail)
      refine go_on ?_
      refine wpList_load_at rfl 24 (.tmp 3) rfl g 0 rfl (bv F).toArray _ (Blk.cells HE.out.1) Tryd.underlying24 rfl (by rw [List.size_toArray]; exact HE.out.2.2) ?_
      refine wpList_store_whole rfl 24 (.tmp 2) (.tmp 23) rfl gr (bv F) rfl rfl 24 (bv (List.replicate 32 0)) HR.out HE.out.2.2 (by rw [HE.out.2.1]; rfl) (by intro u hu; exact bv_one _ u hu) ?_
      intro w10 hb10 hg10
      simp only [Act.put, List.setIfInBounds_toArray, List.set_cons_zero, List.set_cons_succ]
      refine wpList_nil ?_
      repeat (first | go_values | go_skip | go_guarded | go_step)
      refine bodyPost_row rfl gr rfl 24 _ _ hb10 Tryd.underlying24 rfl (by rw [List.size_toArray]; exact HE.out.2.2) rfl ⟨by rw [eF], ?_⟩
      have hs10 := H3.out.size
      have hs11 := HGr.out.size
      exact H3.out.trans ((only_below HGr.out hs10 (fun g' e => by cases e; exact HN.out.2.2.1)).trans (only_below hg10 (Nat.le_trans hs10 hs11) (fun g' e => by cases e; exact HN.out.2.2.2)))

set_option maxRecDepth 100000 in
set_option maxHeartbeats 4000000 in
set_option linter.unusedSimpArgs false in
theorem ending_any (n : Nat) (hn : n ≤ 1152921504606846976) (w : World) :
    Calls Tryd.prog 25 #[.int .i64 (n : Int)] w fun e w' => e = .returned (.slice (some ⟨w.heap.size, 0, none⟩) (tailB n).length (tailB n).length) ∧ Blk w' w.heap.size 5 (bv (tailB n)).toArray ∧ Below w.heap.size w w' := by
  rw [tailB_length]
  obtain ⟨z, ez⟩ : ∃ z, padZ n = z := ⟨_, rfl⟩
  have hz : z < 64 := by rw [← ez]; unfold padZ; omega
  obtain ⟨p, ep⟩ : ∃ r, n + 9 = r := ⟨_, rfl⟩
  obtain ⟨r, er⟩ : ∃ r, p % 64 = r := ⟨_, rfl⟩
  obtain ⟨ro, ero⟩ : ∃ x, 64 - r = x := ⟨_, rfl⟩
  have hzr : ro % 64 = z := by rw [← ero, ← er, ← ep, ← ez]; unfold padZ; omega
  obtain ⟨z1, ez1⟩ : ∃ x, 1 + z = x := ⟨_, rfl⟩
  obtain ⟨z9, ez9⟩ : ∃ x, z + 9 = x := ⟨_, rfl⟩
  obtain ⟨n1, en1⟩ : ∃ x, n + 1 = x := ⟨_, rfl⟩
  have a1 : (n : Int) + 1 = (n1 : Int) := by omega
  have a1' : (n1 : Int) + 8 = (p : Int) := by omega
  have a2 : (p : Int) % 64 = (r : Int) := by omega
  have a3 : (p : Int).tmod 64 = (r : Int) := by rw [Int.tmod_eq_emod_of_nonneg (by omega)]; exact a2
  have a4 : (64 : Int) - (r : Int) = (ro : Int) := by omega
  have a5 : (ro : Int) % 64 = (z : Int) := by omega
  have a6 : (ro : Int).tmod 64 = (z : Int) := by rw [Int.tmod_eq_emod_of_nonneg (by omega)]; exact a5
  have a7 : (1 : Int) + (z : Int) = (z1 : Int) := by omega
  have a7' : (z1 : Int) + 8 = (z9 : Int) := by omega
  obtain ⟨sz, esz⟩ : ∃ x, 8 * n = x := ⟨_, rfl⟩
  have a8 : (n : Int) * 8 = (sz : Int) := by omega
  have a9 : IntKind.u64.wrap (n : Int) = (n : Int) := by simp [IntKind.wrap, IntKind.bits, IntKind.signed]; omega
  have a10 : IntKind.u64.wrap (sz : Int) = (sz : Int) := by simp [IntKind.wrap, IntKind.bits, IntKind.signed]; omega
  have HZ := Lib.hid (And.intro ez (And.intro ez9 esz))
  rw [ez, ez9]
  have hp9 : (p : Int) < 9223372036854775808 := by omega
  clear ep er ero hzr ez1 ez en1
  go_enter Tryd.func25, Tryd.ntmps25
  go_wp2_with (first
    | (refine wpList_make_bytes rfl (.tmp 17) (.tmp 17) rfl z9 rfl rfl (by omega) ?_; intro w1 hb1 hw1 hz1; refine stopped ?_)
    | fail)
  refine go_on ?_
  have hc0 : w1.cell? ⟨w.heap.size, 0, none⟩ = some (.int .u8 0) := by
    have := hb1.getb (p := 0) (by simp; omega)
    rw [this]
    simp [List.getD, show 0 < z9 by omega]
  have hf0 := hb1.frozen 0
  have hz9 : (0 : Int) < (z9 : Int) := by omega
  go_wp2_with fail
  have hb2 : Blk (w1.setCell ⟨w.heap.size, 0, none⟩ (.int .u8 128)) w.heap.size 5 (bv (endL n 0)).toArray := by
    have := hb1.setb 0 128 128 rfl
    rw [endL_zero, HZ.out.1]
    rwa [← HZ.out.2.1, show z + 9 = (z + 8) + 1 by omega, List.replicate_succ, List.set_cons_zero] at this
  have h2 : Below w.heap.size w (w1.setCell ⟨w.heap.size, 0, none⟩ (.int .u8 128)) := hw1.setCell (Nat.le_refl _) _
  have HB2 := Lib.hid (And.intro hb2 h2)
  have HA := Lib.hid (And.intro ez9 (And.intro esz (And.intro hz (And.intro hn hp9))))
  clear hb2 h2 hb1 hw1 hz1 hc0 hf0 a1 a1' a2 a3 a4 a5 a6 a7 a7' a8 a9 a10 ez9 esz hp9
  go_loopw [24] (fun v wz => ∃ i : Nat, i ≤ 8 ∧ v = .int .i64 (i : Int) ∧ Blk wz w.heap.size 5 (bv (endL n i)).toArray ∧ Below w.heap.size w wz) (fun v _ => 8 - (intOf v).toNat)
  case atStart => exact ⟨0, by omega, rfl, HB2.out.1, HB2.out.2⟩
  case round =>
    obtain ⟨i, hi, rfl, hblk, hbel⟩ := hrel
    have HBk := Lib.hid hblk
    have HBel := Lib.hid hbel
    clear hblk hbel HB2
    by_cases hlt : i < 8
    · have ez9 := HA.out.1
      obtain ⟨z8, ez8⟩ : ∃ x, z + 8 = x := ⟨_, rfl⟩
      obtain ⟨ps, eps⟩ : ∃ x, z8 - i = x := ⟨_, rfl⟩
      obtain ⟨mm, emm⟩ : ∃ x, 8 * i = x := ⟨_, rfl⟩
      have b1 : (z9 : Int) - 1 = (z8 : Int) := by omega
      have b2 : (z8 : Int) - (i : Int) = (ps : Int) := by omega
      have b3 : (8 : Int) * (i : Int) = (mm : Int) := by omega
      have b4 : (0 : Int) ≤ (mm : Int) := by omega
      have b5 : (mm : Int) ≤ 64 := by omega
      have b6 : (ps : Int) < (z9 : Int) := by omega
      have b6' : (z9 : Int) ≤ 72 := by omega
      have b6'' : (z8 : Int) ≤ 71 := by omega
      obtain ⟨y, ey⟩ : ∃ y, sz / 2 ^ mm = y := ⟨_, rfl⟩
      have b7 : (sz : Int) / 2 ^ mm = (y : Int) := by rw [← ey, Int.natCast_ediv, Int.natCast_pow]; rfl
      obtain ⟨c, ec⟩ : ∃ c : UInt8, UInt8.ofNat (8 * n / 256 ^ i % 256) = c := ⟨_, rfl⟩
      have hy : y = 8 * n / 256 ^ i := by rw [← ey, ← emm, HZ.out.2.2, show (256 : Nat) = 2 ^ 8 from rfl, ← Nat.pow_mul]
      have hc : y % 256 = c.toNat := by rw [← ec, hy]; simp
      obtain ⟨b8, b9⟩ := u8wrap hc
      have hst := endL_step n i hlt c ec.symm
      rw [HZ.out.1, ez8, eps] at hst
      have hfro := HBk.out.frozen ps
      have hci := HBk.out.getb (p := ps) (by rw [endL_length n i hi, HZ.out.1]; omega)
      obtain ⟨old, eold⟩ : ∃ x, ((endL n i).getD ps 0).toNat = x := ⟨_, rfl⟩
      rw [eold] at hci
      obtain ⟨cn, ecn⟩ : ∃ x, c.toNat = x := ⟨_, rfl⟩
      rw [ecn] at b8 b9
      have HSt := Lib.hid (And.intro hst.symm ecn)
      clear hst ez8 eps emm ey ec hy hc eold ecn ez9
      go_wp2_with fail
      go_roundw
      case rel => exact ⟨i + 1, by omega, by go_num, by rw [HSt.out.1]; exact HBk.out.setb ps c _ (by rw [HSt.out.2]), HBel.out.setCell (Nat.le_refl _) _⟩
      case measure => simp [intOf]; omega
    · obtain rfl : i = 8 := by omega
      go_wp2_with fail
      go_ret
      exact ⟨rfl, HBk.out, HBel.out⟩
end Go.Proofs.YtjhkoepcolpclaaDoor
