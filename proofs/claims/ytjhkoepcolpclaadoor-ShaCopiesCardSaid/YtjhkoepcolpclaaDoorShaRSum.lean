/-
  The reference's Sum (layer 4), by its contract. Conditions: the theorem's own premises.
-/
import Derived.Test.YtjhkoepcolpclaaDoorShaBlock
import Derived.Test.YtjhkoepcolpclaaDoorShaPad
import Derived.Test.YtjhkoepcolpclaaDoorShaEnc
import Derived.Test.YtjhkoepcolpclaaDoorShaWrM
namespace Go.Proofs.YtjhkoepcolpclaaDoor
open Go.RowKit

theorem run_lh {P : Program} {w : World} (t e : TypeId) (A : Option Addr) (n c i j : Nat) (ht : P.underlying t = some (.slice e)) (hte : P.elem t = e) (h1 : (P.info? e).map (·.size) = some 1) (hij : i ≤ j) (hj : j ≤ c) :
    (Instr.sliceAt t (.slice A n c) (some (.int .i64 (i : Int))) (some (.int .i64 (j : Int))) none).run P w = .ok (.slice (if c = i then A else A.map (·.add i)) (j - i) (c - i)) w := by
  cases hq : P.info? e with
  | none => simp [hq] at h1
  | some k =>
    have hs : k.size = 1 := by simpa [hq] using h1
    rw [run_sliceAt_slice (h := by rw [hte]; exact ht), run_slice_lh (ht := by rw [hte]; exact ht) (h0 := by omega) (h1 := by omega) (h2 := by omega)]
    simp [hte, sizeOf, typeInfo, hq, hs, sliced, Result.andThen]
theorem bs_part {w : World} {B : Nat} {A : Option Addr} {l : List UInt8} {c i j : Nat} (h : Bs w B A l) (hc : l.length ≤ c) (hj : j ≤ l.length) : Bs w B (if c = i then A else A.map (·.add i)) ((l.drop i).take (j - i)) := by
  by_cases e : c = i
  · rw [if_pos e, List.drop_eq_nil_of_le (by omega), List.take_nil]
    exact Bs.nil_
  · rw [if_neg e]
    intro hn
    have hk : i < l.length := by rw [List.length_take, List.length_drop] at hn; omega
    obtain ⟨b, o, rfl, hb, _⟩ := h.at_ hk
    have := Bs.cut h i j hj
    rw [List.drop_take] at this
    have e2 : (some (⟨b, o, none⟩ : Addr)).map (·.add i) = some ⟨b, o + i, none⟩ := by simp [Addr.add_lit]
    rw [e2]
    exact this hn
theorem still_slice_lh {P : Program} {w : World} {ops : Array Oper} {rest : List Oper} {o : Oper} {a : Act} {Q : Act → Prop} (hgd : o.guard = none) (t : TypeId) (x lo hi : Operand) (ho : o.op = .slice t x (some lo) (some hi) none)
    (e : TypeId) (ht : P.underlying t = some (.slice e)) (hte : P.elem t = e) (h1 : (P.info? e).map (·.size) = some 1) (A : Option Addr) (l : List UInt8) (n c i j m : Nat) (hx : a.eval x = .slice A n c) (hlo : a.eval lo = .int .i64 (i : Int)) (hhi : a.eval hi = .int .i64 (j : Int))
    (hl : l.length = n) (hij : i + m = j) (hj : j ≤ n) (hc : n ≤ c) (h : ∀ A2 c2, (∀ w' B, Bs w' B A l → Bs w' B A2 ((l.drop i).take m)) → wpStill P ops w Q rest (a.put o.dst (.slice A2 m c2))) : wpStill P ops w Q (o :: rest) a := by
  refine wpStill_step fun K hK => ?_
  rw [if_pos (by simp [Region.wanted, hgd])]
  have hr := run_lh (P := P) (w := w) t e A n c i j ht hte h1 (by omega) (by omega)
  rw [show j - i = m by omega] at hr
  unfold Oper.still execOp
  simp only [ho, hx, hlo, hhi, Option.map_some, Option.map_none, Sem.run_bind, Sem.run_pure, hr, Result.andThen_ok]
  refine ⟨rfl, hK _ (h _ _ fun w' B hb => ?_)⟩
  have := bs_part (c := c) (i := i) (j := j) hb (by omega) (by omega)
  rwa [show j - i = m by omega] at this
theorem Own.stable {w : World} {base g : Nat} {e : TypeId} {v : Value} {l : List UInt8} (h : Own w base e v l) (hg : g < base) : ∃ A c, v = .slice A l.length c ∧ l.length ≤ c ∧ ∀ w', w.grownBy w' (some g) → Bs w' w'.heap.size A l := by
  obtain ⟨A, c, hv, hc, _, _, hlt⟩ := h.slice_cap
  refine ⟨A, c, hv, hc, fun w' hw' => ?_⟩
  have h' : Own w' base e v l := World.ownsRow.kept h hw' (.inr fun e => by have := (hlt g e).1; omega)
  obtain ⟨A', c', hv', hbs', _⟩ := h'.slice
  have hA : A = A' := by
    rw [hv] at hv'
    injection hv'
  rw [hA]
  exact hbs'
theorem elem_by : Tryd.prog.elem 22 = 5 := by kernel_rfl
theorem arr8_build : Tryd.prog.built 44 [(0, .int .u32 1779033703), (1, .int .u32 3144134277), (2, .int .u32 1013904242), (3, .int .u32 2773480762), (4, .int .u32 1359893119), (5, .int .u32 2600822924), (6, .int .u32 528734635), (7, .int .u32 1541459225)] = some (wv shaH.list).toArray := by kernel_rfl

set_option maxRecDepth 100000 in
set_option maxHeartbeats 4000000 in
set_option linter.unusedSimpArgs false in
theorem refSum_any (A : Option Addr) (l : List UInt8) (n c : Nat) (w : World) (hn : l.length = n) (hb : Bs w w.heap.size A l) (hl : n ≤ 140737488000000) :
    Calls Tryd.prog 10 #[.slice A n c] w fun e w' => e = .returned (.agg (bv (sha l)).toArray) ∧ Below w.heap.size w w' := by
  have HB := Lib.hid hb
  have HN := Lib.hid hn
  clear hb hn
  go_enter Tryd.func10, Tryd.ntmps10
  go_wp2_with (first
    | (refine wpList_alloc rfl 24 rfl _ arr32_zero ?_; intro w1 hb1 hw1 hz1; refine stopped ?_)
    | fail)
  have HZ1 := Lib.hid hz1
  obtain ⟨gr, egr⟩ : ∃ g, w.heap.size = g := ⟨_, rfl⟩
  rw [egr] at hb1 ⊢
  have H1 := Lib.hid (And.intro hb1 (And.intro hw1 egr))
  clear hb1 hw1 hz1 egr
  refine go_on ?_
  refine wpList_nil ?_
  iterate 4 go_step
  refine wpList_build_is rfl 44 _ rfl (wv shaH.list).toArray (by kernel_rfl) ?_
  refine wpList_alloc rfl 44 rfl _ arr8_zero ?_
  intro w2 hb2 hw2 hz2
  refine wpList_store_whole rfl 44 (.tmp 3) (.tmp 8) rfl w1.heap.size (wv shaH.list) rfl rfl 44 (wv (List.replicate 8 0)) hb2 arr8_info rfl (by intro u hu; exact wv_one _ u hu) ?_
  intro w3 hb3 hg3
  simp only [Act.put, List.setIfInBounds_toArray, List.set_cons_zero, List.set_cons_succ]
  have hz1 := HZ1.out
  have hw2' : Below w.heap.size w w2 := H1.out.2.1.trans (hw2.mono (by omega))
  have hw3 : Below w.heap.size w w3 := hw2'.trans (only_below hg3 hw2'.size (fun g e => by cases e; omega))
  have hr3 : Blk w3 gr 24 (bv (List.replicate 32 0)).toArray := (H1.out.1.below hw2 (by have := H1.out.2.2; omega)).grown hg3 (some_neq (by have := H1.out.2.2; omega))
  obtain ⟨g, eg⟩ : ∃ g, w1.heap.size = g := ⟨_, rfl⟩
  rw [eg] at hb3 ⊢
  have H3 := Lib.hid (And.intro hb3 (And.intro hw3 (And.intro hr3 (show w.heap.size ≤ g ∧ gr < g ∧ w.heap.size ≤ gr from ⟨by omega, by have := H1.out.2.2; omega, by have := H1.out.2.2; omega⟩))))
  clear hb2 hw2 hz2 hb3 hg3 hz1 hw2' hw3 hr3 eg
  go_wp2_with fail
  refine (padded_any A l c n w.heap.size w3 HN.out (HB.out.below H3.out.2.1) H3.out.2.1.size hl).mono ?_
  rintro e w4 ⟨v, rfl, hown4, hw4⟩
  obtain ⟨A4, c4, rfl, hc4, hst4⟩ := hown4.stable H3.out.1.lt
  have hmod := padded_mod l
  have hpl := padded_length l
  have hsha : sha l = digest (shaH.take ((padded l).length / 64) (padded l)) := rfl
  obtain ⟨P, eP⟩ : ∃ P, padded l = P := ⟨_, rfl⟩
  rw [eP] at hc4 hst4 hmod hpl hsha ⊢
  obtain ⟨N, eN⟩ : ∃ N, P.length = N := ⟨_, rfl⟩
  rw [eN] at hc4 hmod hpl hsha ⊢
  have hN : N ≤ 140737488000200 := by have h1 := padZ_lt l.length; have h2 := HN.out; omega
  have hb4 : Blk w4 g 44 (wv (shaH.take 0 P).list).toArray := H3.out.1.below hw4 H3.out.1.lt
  have hr4 := H3.out.2.2.1.below hw4 H3.out.2.2.1.lt
  have hwb4 : Below w.heap.size w w4 := H3.out.2.1.trans (hw4.mono H3.out.2.1.size)
  have HSt := Lib.hid hst4
  have HP := Lib.hid (And.intro hsha (And.intro eN hpl))
  have H4 := Lib.hid (And.intro hb4 (And.intro hr4 hwb4))
  clear hown4 hst4 hpl hsha eP eN hb4 hr4 hwb4 hw4
  go_wp2_with fail
  go_loopw [5] (fun v wz => ∃ k j : Nat, j ≤ N ∧ 64 * k = j ∧ v = .int .i64 (j : Int) ∧ Blk wz g 44 (wv (shaH.take k P).list).toArray ∧ w4.grownBy wz (some g)) (fun v _ => N - (intOf v).toNat)
  case atStart => exact ⟨0, 0, Nat.zero_le _, rfl, rfl, H4.out.1, only_refl _ _⟩
  case round =>
    obtain ⟨k, j, hj, hkj, rfl, hblk, hgr⟩ := hrel
    have HBk := Lib.hid hblk
    have HGr := Lib.hid hgr
    clear hblk hgr
    by_cases hlt : j < N
    · obtain ⟨S, eS⟩ : ∃ S, shaH.take k P = S := ⟨_, rfl⟩
      have hok : S.okB := by rw [← eS]; exact St.take_ok shaH_ok _ _
      have hblk := HBk.out
      rw [eS] at hblk
      obtain ⟨S2, eS2⟩ : ∃ x, S.block ((P.drop j).take 64) = x := ⟨_, rfl⟩
      have hnext : shaH.take (k + 1) P = S2 := by rw [St.take, eS, hkj, eS2]
      have HB2 := Lib.hid (And.intro hok (And.intro hblk (And.intro (And.intro hnext eS2) (show Blk wr.drew g 44 (wv S.list).toArray from hblk.drewN 1))))
      obtain ⟨j64, ej64⟩ : ∃ x, j + 64 = x := ⟨_, rfl⟩
      have a1 : (j : Int) + 64 = (j64 : Int) := by omega
      have a2 : IntKind.i64.wrap (j64 : Int) = (j64 : Int) := IntWalk.i64_in _ (by omega)
      have hjn : j64 ≤ N := by omega
      have hji : (j : Int) < (N : Int) := by omega
      clear eS eS2 hok hblk hnext HBk
      go_wp2_with fail
      refine region_tail 6 (by kernel_rfl) (by kernel_rfl) ?_
      simp only [List.take_succ_cons, List.take_zero, List.drop_succ_cons, List.drop_zero]
      refine still_load_at rfl 44 (.tmp 3) rfl g 0 rfl (wv S.list).toArray _ (Blk.cells HB2.out.2.2.2) Tryd.underlying44 rfl arr8_info ?_
      simp only [Act.put, List.setIfInBounds_toArray, List.set_cons_zero, List.set_cons_succ]
      iterate 4 still_step
      refine still_slice_lh rfl 22 (.tmp 18) (.tmp 19) (.tmp 21) rfl 5 Tryd.underlying22 elem_by u8_info A4 P N c4 j j64 64 rfl rfl rfl HP.out.2.1 ej64 hjn hc4 ?_
      intro A2 c2 hbs2
      simp only [Act.put, List.setIfInBounds_toArray, List.set_cons_zero, List.set_cons_succ]
      refine wpStill_nil ?_
      go_wp2_with fail
      have hseg : ((P.drop j).take 64).length = 64 := by rw [List.length_take, List.length_drop, HP.out.2.1]; omega
      have hblkc := block_any S HB2.out.1 _ rfl A2 ((P.drop j).take 64) 64 c2 wr.heap.size wr.drew hseg (hbs2 _ _ (HSt.out wr.drew (only_drewN HGr.out 1))) (Nat.le_refl _) (Nat.le_refl _)
      rw [HB2.out.2.2.1.2] at hblkc
      refine hblkc.mono ?_
      rintro e' w5 ⟨rfl, hw5⟩
      have hb5 := HB2.out.2.2.2.below hw5 HB2.out.2.1.lt
      clear hblkc hseg hbs2
      go_wp2_with (first | (with_reducible refine at_store 44 ?_; refine stopped ?_) | fail)
      refine go_on ?_
      refine wpList_store_whole rfl 44 (.tmp 3) (.tmp 23) rfl g (wv S2.list) rfl rfl 44 (wv S.list) hb5 arr8_info rfl (by intro u hu; exact wv_one _ u hu) ?_
      intro w6 hb6 hg6
      simp only [Act.put, List.setIfInBounds_toArray, List.set_cons_zero, List.set_cons_succ]
      go_wp2_with fail
      go_roundw
      case rel => exact ⟨k + 1, j64, hjn, by omega, by go_num, by rw [HB2.out.2.2.1.1]; exact hb6, only_trans (only_trans (only_drewN HGr.out 1) (only_of_below hw5 _)) hg6⟩
      case measure => simp [intOf]; omega
    · obtain rfl : j = N := by omega
      obtain ⟨S, eS⟩ : ∃ S, shaH.take k P = S := ⟨_, rfl⟩
      have hok : S.okB := by rw [← eS]; exact St.take_ok shaH_ok _ _
      have hsh : sha l = digest S := by rw [HP.out.1, ← hkj, Nat.mul_div_cancel_left k (show 0 < 64 by decide), eS]
      have hblk := HBk.out
      rw [eS] at hblk
      have hlt4 := H4.out.2.1.lt
      have HB2 := Lib.hid (And.intro hok (And.intro hsh hblk))
      clear eS hok hblk hsh HBk hkj hmod
      go_wp2_with (first
        | (refine wpList_alloc rfl 24 rfl _ arr32_zero ?_; intro w7 hb7 hw7 hz7; refine stopped ?_)
        | fail)
      have hs7 := HGr.out.size
      have hg7 : g ≠ wr.heap.size := by have := HB2.out.2.2.lt; omega
      have hgr7 : gr ≠ wr.heap.size := by omega
      have k1 := HB2.out.2.2.below hw7 HB2.out.2.2.lt
      have k2 := (H4.out.2.1.grown HGr.out (some_neq (by have := H3.out.2.2.2.2.1; omega))).below hw7 (by omega)
      have k3 : Blk w7 wr.heap.size 24 (bv (encS S 0)).toArray := hb7
      have k4 : Below w.heap.size w w7 := (H4.out.2.2.trans (only_below HGr.out H4.out.2.2.size (fun g' e => by cases e; exact H3.out.2.2.2.1))).trans (hw7.mono (by have := H4.out.2.2.size; omega))
      have k5 : w.heap.size ≤ wr.heap.size := by have := H4.out.2.2.size; omega
      obtain ⟨g6, eg6⟩ : ∃ x, wr.heap.size = x := ⟨_, rfl⟩
      refine go_on ?_
      rw [eg6] at hg7 hgr7 k3 k5 ⊢
      have HK := Lib.hid (And.intro k1 (And.intro k2 (And.intro hg7 (And.intro hgr7 (And.intro k4 k5)))))
      have HK3 := Lib.hid k3
      clear hb7 hw7 hz7 hs7 hg7 hgr7 k1 k2 k3 k4 k5 eg6 hlt4 HGr
      go_wp2_with fail
      go_loopw [7] (fun v wz => ∃ i : Nat, i ≤ 32 ∧ v = .int .i64 (i : Int) ∧ Blk wz g6 24 (bv (encS S i)).toArray ∧ w7.grownBy wz (some g6)) (fun v _ => 32 - (intOf v).toNat)
      case atStart => exact ⟨0, by omega, rfl, HK3.out, only_refl _ _⟩
      case round =>
        obtain ⟨i, hi, rfl, hblk, hgr⟩ := hrel
        have HBk := Lib.hid hblk
        have HGr := Lib.hid hgr
        clear hblk hgr HK3
        by_cases hlt : i < 32
        · obtain ⟨q, eq⟩ : ∃ q, i / 4 = q := ⟨_, rfl⟩
          obtain ⟨r, er⟩ : ∃ r, i % 4 = r := ⟨_, rfl⟩
          have a1 : (i : Int) / 4 = (q : Int) := by omega
          have a2 : (i : Int) % 4 = (r : Int) := by omega
          have a3 : (i : Int).tmod 4 = (r : Int) := by rw [Int.tmod_eq_emod_of_nonneg (by omega)]; exact a2
          obtain ⟨r8, er8⟩ : ∃ x, 8 * r = x := ⟨_, rfl⟩
          have a4 : (8 : Int) * (r : Int) = (r8 : Int) := by omega
          obtain ⟨m, em⟩ : ∃ x, 24 - r8 = x := ⟨_, rfl⟩
          have a5 : (24 : Int) - (r8 : Int) = (m : Int) := by omega
          have a6 : (0 : Int) ≤ (m : Int) := by omega
          have a7 : (m : Int) ≤ 32 := by omega
          have a8 : (q : Int) < 8 := by omega
          have a9 : (i : Int) < 32 := by omega
          have a13 : IntKind.u64.wrap (m : Int) = (m : Int) := by simp [IntKind.wrap, IntKind.bits, IntKind.signed]; omega
          have cx := (HK.out.1.grown HGr.out (some_neq HK.out.2.2.1)).getw (p := q) (by rw [St.list_length]; omega)
          obtain ⟨x, ex⟩ : ∃ x, S.list.getD q 0 = x := ⟨_, rfl⟩
          rw [ex] at cx
          obtain ⟨y, ey⟩ : ∃ y, x / 2 ^ m = y := ⟨_, rfl⟩
          have a10 : (x : Int) / 2 ^ m = (y : Int) := by rw [← ey, Int.natCast_ediv, Int.natCast_pow]; rfl
          obtain ⟨c7, ec⟩ : ∃ c : UInt8, UInt8.ofNat (x / 256 ^ (3 - r) % 256) = c := ⟨_, rfl⟩
          have hm : m = 8 * (3 - r) := by omega
          have hy : y = x / 256 ^ (3 - r) := by rw [← ey, hm, show (256 : Nat) = 2 ^ 8 from rfl, ← Nat.pow_mul]
          have hc : y % 256 = c7.toNat := by rw [← ec, hy]; simp
          obtain ⟨a11, a12⟩ := u8wrap hc
          have hst := encS_step S i hlt c7 (by rw [eq, er, ex, ec])
          have hfro := HBk.out.frozen i
          have hci := HBk.out.getb (p := i) (by rw [encS_length S i hi]; exact hlt)
          obtain ⟨old, eold⟩ : ∃ x, ((encS S i).getD i 0).toNat = x := ⟨_, rfl⟩
          rw [eold] at hci
          obtain ⟨cn, ecn⟩ : ∃ x, c7.toNat = x := ⟨_, rfl⟩
          rw [ecn] at a11 a12
          have HSt2 := Lib.hid (And.intro hst.symm ecn)
          clear hst eq er er8 em ex ey ec hy hc hm eold ecn
          go_wp2_with fail
          go_roundw
          case rel => exact ⟨i + 1, by omega, by go_num, by rw [HSt2.out.1]; exact HBk.out.setb i c7 _ (by rw [HSt2.out.2]), only_setCell HGr.out (.inl rfl) _⟩
          case measure => simp [intOf]; omega
        · obtain rfl : i = 32 := by omega
          have hend : Blk wr g6 24 (bv (sha l)).toArray := by rw [HB2.out.2.1, ← encS_end]; exact HBk.out
          have hres := HK.out.2.1.grown HGr.out (some_neq HK.out.2.2.2.1)
          obtain ⟨F, eF⟩ : ∃ F, sha l = F := ⟨_, rfl⟩
          have hFl : (bv F).length = 32 := by rw [bv_length, ← eF, sha_length]
          have hFi : (Tryd.prog.info? 24).map (·.size) = some (bv F).length := by rw [hFl]; exact arr32_info
          rw [eF] at hend
          have HE := Lib.hid (And.intro hend (And.intro hFl (And.intro hFi hres)))
          clear hend hFl hFi hres HBk
          go_wp2_with (first | (with_reducible refine at_load 24 ?_; refine stopped ?_) | fail)
          refine go_on ?_
          refine wpList_load_at rfl 24 (.tmp 6) rfl g6 0 rfl (bv F).toArray _ (Blk.cells HE.out.1) Tryd.underlying24 rfl (by rw [List.size_toArray]; exact HE.out.2.2.1) ?_
          refine wpList_store_whole rfl 24 (.tmp 2) (.tmp 41) rfl gr (bv F) rfl rfl 24 (bv (List.replicate 32 0)) HE.out.2.2.2 HE.out.2.2.1 (by rw [HE.out.2.1]; rfl) (by intro u hu; exact bv_one _ u hu) ?_
          intro w10 hb10 hg10
          simp only [Act.put, List.setIfInBounds_toArray, List.set_cons_zero, List.set_cons_succ]
          refine wpList_nil ?_
          repeat (first | go_values | go_skip | go_guarded | go_step)
          refine bodyPost_row rfl gr rfl 24 _ _ hb10 Tryd.underlying24 rfl (by rw [List.size_toArray]; exact HE.out.2.2.1) rfl ⟨by rw [eF], ?_⟩
          have h1 := HK.out.2.2.2.2.1
          have h2 := HGr.out.size
          exact h1.trans ((only_below HGr.out h1.size (fun g' e => by cases e; exact HK.out.2.2.2.2.2)).trans (only_below hg10 (Nat.le_trans h1.size h2) (fun g' e => by cases e; exact H3.out.2.2.2.2.2)))
end Go.Proofs.YtjhkoepcolpclaaDoor
