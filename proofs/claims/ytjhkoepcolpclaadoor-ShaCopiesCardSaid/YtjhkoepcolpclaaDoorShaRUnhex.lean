/-
  The reference's Unhex (layer 4), by its contract. Conditions: the theorem's own premises.
-/
import Derived.Test.YtjhkoepcolpclaaDoorShaUnhex2
namespace Go.Proofs.YtjhkoepcolpclaaDoor
open Go.RowKit

/-- the digit among the first k that c is, or -1 -/
def nAt (c : UInt8) : Nat → Int
  | 0 => -1
  | k + 1 => if hexD k = c then (k : Int) else nAt c k
theorem nAt_none (c : UInt8) (h : hexV c = none) : ∀ k, k ≤ 16 → nAt c k = -1
  | 0, _ => rfl
  | k + 1, hk => by
    rw [nAt, if_neg, nAt_none c h k (by omega)]
    intro e
    rw [← e, hexV_hexD k (by omega)] at h
    cases h
theorem nAt_some (c : UInt8) (v : Nat) (h : hexV c = some v) : ∀ k, k ≤ 16 → nAt c k = if v < k then (v : Int) else -1
  | 0, _ => by simp [nAt]
  | k + 1, hk => by
    obtain ⟨hd, hv⟩ := hexD_hexV h
    rw [nAt, nAt_some c v h k (by omega)]
    by_cases e : hexD k = c
    · rw [if_pos e]
      have : hexV (hexD k) = some k := hexV_hexD k (by omega)
      rw [e, h] at this
      have hk2 : v = k := Option.some.inj this
      rw [if_pos (by omega), hk2]
    · rw [if_neg e]
      have hne : v ≠ k := fun h2 => e (by rw [← h2]; exact hd)
      by_cases h3 : v < k
      · rw [if_pos h3, if_pos (by omega)]
      · rw [if_neg h3, if_neg (by omega)]
theorem still_index {w : World} {ops : Array Oper} {rest : List Oper} {o : Oper} {a : Act} {Q : Act → Prop} (hgd : o.guard = none) (y x : Operand) (ho : o.op = .index 9 y x) (s : ByteArray) (k : IntKind) (i n : Nat) (hy : a.eval y = .string s) (hx : a.eval x = .int k (i : Int))
    (hr : (Instr.index 9 (.string s) (.int k (i : Int))).run Tryd.prog w = .ok (.int .u8 (n : Int)) w) (h : wpStill Tryd.prog ops w Q rest (a.put o.dst (.int .u8 (n : Int)))) : wpStill Tryd.prog ops w Q (o :: rest) a := by
  refine still_run hgd (.int .u8 (n : Int)) ?_ h
  simp only [execOp, ho, hx, hy, Sem.run_bind, hr, Result.andThen_ok, Sem.run_pure]
theorem run_byte (w : World) (s : ByteArray) (i : Nat) (h : i < s.size) (c : UInt8) (hc : s[i]'h = c) : (Instr.index 9 (.string s) (.int .i64 (i : Int))).run Tryd.prog w = .ok (.int .u8 (c.toNat : Int)) w := by
  rw [run_index_string w _ _ _ _ Tryd.underlying9]
  have h2 : (0 : Int) ≤ (i : Int) ∧ (i : Int) < (s.size : Int) := by omega
  rw [dif_pos h2]
  subst hc
  rfl
theorem at_build {P : Program} {w : World} {ops : Array Oper} {rest : List Oper} {d : Option Tmp} (ty : TypeId) {x : Array (Nat × Operand)} {t : TypeId} {p : String} {af : Array Edge} {g : Option (Nat × Bool)} {a : Act} {Q : Exit → Act → World → Prop}
    (h : wpList P ops Q (⟨d, .build ty x, t, p, af, g⟩ :: rest) a w) : wpList P ops Q (⟨d, .build ty x, t, p, af, g⟩ :: rest) a w := h
theorem hexD_lt (k : Nat) : (hexD k).toNat < 256 := (hexD k).toNat_lt

set_option maxRecDepth 100000 in
set_option maxHeartbeats 4000000 in
set_option linter.unusedSimpArgs false in
theorem refUnhex_any (s : ByteArray) (l : List UInt8) (hl : s.data.toList = l) (w : World) :
    Calls Tryd.prog 13 #[.string s] w fun e w' => e = .returned (.tuple #[.agg (bv (unhexV l)).toArray, .bool (hexOk l)]) ∧ Below w.heap.size w w' := by
  have HL := Lib.hid hl
  have hsl : s.size = l.length := by rw [← hl]; rfl
  have HSL := Lib.hid hsl
  clear hl hsl
  go_enter Tryd.func13, Tryd.ntmps13
  go_wp2_with (first
    | (refine wpList_alloc rfl 24 rfl _ arr32_zero ?_; intro w1 hb1 hw1 hz1; refine stopped ?_)
    | fail)
  refine go_on ?_
  go_wp2_with (first
    | (refine wpList_alloc rfl 24 rfl _ arr32_zero ?_; intro w2 hb2 hw2 hz2; refine stopped ?_)
    | fail)
  have h2 : Below w.heap.size w w2 := hw1.trans (hw2.mono (by omega))
  have hr2 := hb1.below hw2 (by omega)
  have hne : w.heap.size ≠ w.heap.size + 1 ∧ w.heap.size ≤ w.heap.size + 1 := by omega
  rw [hz1] at hb2
  obtain ⟨g4, eg4⟩ : ∃ g, w.heap.size + 1 = g := ⟨_, rfl⟩
  obtain ⟨gr, egr⟩ : ∃ g, w.heap.size = g := ⟨_, rfl⟩
  rw [eg4] at hb2 hne
  have hwr : w.heap.size = gr := egr
  rw [egr] at hr2
  refine go_on ?_
  try rw [hz1]
  rw [eg4, egr]
  have HW := Lib.hid (And.intro hb2 (And.intro hr2 (And.intro h2 (And.intro hne hwr))))
  clear hb1 hw1 hz1 hb2 hw2 hz2 h2 hr2 hne eg4 egr hwr
  by_cases h64 : s.size = 64
  · have h64i : (s.size : Int) = 64 := by omega
    have hl64 : l.length = 64 := by rw [← HSL.out]; exact h64
    have HL64 := Lib.hid (And.intro h64 hl64)
    clear hl64
    go_wp2_with fail
    go_loopw [5] (fun v wz => ∃ i : Nat, i ≤ 64 ∧ v = .int .i64 (i : Int) ∧ Blk wz g4 24 (bv (unL l i)).toArray ∧ w2.grownBy wz (some g4) ∧ (∀ j, j < i → (hexV (l.getD j 0)).isSome = true)) (fun v _ => 64 - (intOf v).toNat)
    case atStart => exact ⟨0, by omega, rfl, by rw [unL_zero]; exact HW.out.1, only_refl _ _, fun j hj => by omega⟩
    case round =>
      obtain ⟨i, hi, rfl, hblk, hgr, hall⟩ := hrel
      have HAll := Lib.hid hall
      have HB0 := Lib.hid (And.intro hblk hgr)
      clear hall hblk hgr
      by_cases hlt : i < 64
      · have his : i < s.size := by rw [HL64.out.1]; exact hlt
        have hby := byte_at s i his
        rw [HL.out] at hby
        obtain ⟨c, ec⟩ : ∃ c, l.getD i 0 = c := ⟨_, rfl⟩
        rw [ec] at hby
        have HBy := Lib.hid (And.intro hby ec)
        clear hby ec
        have hrb : ∀ w, (Instr.index 9 (.string s) (.int .i64 (i : Int))).run Tryd.prog w = .ok (.int .u8 (c.toNat : Int)) w := fun w => run_byte w s i his c HBy.out.1
        obtain ⟨cn, ecn⟩ : ∃ x, c.toNat = x := ⟨_, rfl⟩
        rw [ecn] at hrb
        have HRB := Lib.hid hrb
        have HCn := Lib.hid ecn
        have hii : (i : Int) < 64 := by omega
        clear hrb ecn
        go_wp2_with fail
        go_loopw [6, 7] (fun nv kv wz => ∃ k m : Nat, k ≤ 16 ∧ kv = .int .i64 (k : Int) ∧ nv = .int .i64 (nAt c k) ∧ wz = wr.drewN m) (fun _ kv _ => 16 - (intOf kv).toNat)
        case atStart => exact ⟨0, 0, by omega, rfl, rfl, rfl⟩
        case round =>
          obtain ⟨k, m, hk, rfl, rfl, hwz⟩ := hrel
          have HWz := Lib.hid hwz
          by_cases hk16 : k < 16
          · obtain ⟨dk, edk⟩ : ∃ x, (hexD k).toNat = x := ⟨_, rfl⟩
            have hrd : ∀ w, (Instr.index 9 (.string digitsB) (.int .i64 (k : Int))).run Tryd.prog w = .ok (.int .u8 (dk : Int)) w := fun w => by rw [← edk]; exact run_digit w .i64 k hk16
            have HRD := Lib.hid hrd
            have HDk := Lib.hid edk
            obtain ⟨nk, enk⟩ : ∃ x, nAt c k = x := ⟨_, rfl⟩
            have HNk := Lib.hid enk
            rw [enk]
            clear hrd edk enk hwz
            by_cases heq : dk = cn
            · subst heq
              go_wp2_with fail
              refine region_tail 5 (by kernel_rfl) (by kernel_rfl) ?_
              simp only [List.take_succ_cons, List.take_zero, List.drop_succ_cons, List.drop_zero]
              still_step
              refine still_index rfl (.const (.string digitsB)) (.tmp 20) rfl digitsB .i64 k dk rfl rfl (HRD.out _) ?_
              simp only [Act.put, List.setIfInBounds_toArray, List.set_cons_zero, List.set_cons_succ]
              iterate 2 still_step
              refine still_index rfl (.tmp 22) (.tmp 23) rfl s .i64 i dk rfl rfl (HRB.out _) ?_
              simp only [Act.put, List.setIfInBounds_toArray, List.set_cons_zero, List.set_cons_succ]
              refine wpStill_nil ?_
              go_wp2_with fail
              go_roundw
              case rel =>
                have hcd : hexD k = c := UInt8.toNat_inj.1 (by rw [HDk.out, HCn.out])
                exact ⟨k + 1, m + 1, by omega, by go_num, by rw [nAt, if_pos hcd], by rw [HWz.out]; rfl⟩
              case measure => simp [intOf]; omega
            · have hne : ¬ (dk : Int) = (cn : Int) := by omega
              go_wp2_with fail
              refine region_tail 5 (by kernel_rfl) (by kernel_rfl) ?_
              simp only [List.take_succ_cons, List.take_zero, List.drop_succ_cons, List.drop_zero]
              still_step
              refine still_index rfl (.const (.string digitsB)) (.tmp 20) rfl digitsB .i64 k dk rfl rfl (HRD.out _) ?_
              simp only [Act.put, List.setIfInBounds_toArray, List.set_cons_zero, List.set_cons_succ]
              iterate 2 still_step
              refine still_index rfl (.tmp 22) (.tmp 23) rfl s .i64 i cn rfl rfl (HRB.out _) ?_
              simp only [Act.put, List.setIfInBounds_toArray, List.set_cons_zero, List.set_cons_succ]
              refine wpStill_nil ?_
              go_wp2_with fail
              go_roundw
              case rel =>
                have hcd : ¬ hexD k = c := fun h => heq (by rw [← HDk.out, ← HCn.out, h])
                exact ⟨k + 1, m + 1, by omega, by go_num, by rw [nAt, if_neg hcd, HNk.out], by rw [HWz.out]; rfl⟩
              case measure => simp [intOf]; omega
          · obtain rfl : k = 16 := by omega
            have hgz : w2.grownBy wr (some g4) := by rw [hwz]; exact only_drewN HB0.out.2 m
            have hbz : Blk wr g4 24 (bv (unL l i)).toArray := by rw [hwz]; exact HB0.out.1.drewN m
            cases hv : hexV c with
            | none =>
              have hno : hexOk l = false := not_ok (by rw [HL64.out.2]; exact hlt) (by rw [HBy.out.2]; exact hv)
              rw [nAt_none c hv 16 (by omega)]
              have hres := HW.out.2.1.grown hgz (some_neq (by rw [← HW.out.2.2.2.2]; exact HW.out.2.2.2.1.1))
              have HR := Lib.hid (And.intro hno (And.intro hgz hres))
              clear hno hbz hv hwz hres
              go_wp2_with (first | (with_reducible refine at_build 24 ?_; refine stopped ?_) | fail)
              refine go_on ?_
              refine wpList_build_is rfl 24 _ rfl (bv (List.replicate 32 0)).toArray (by kernel_rfl) ?_
              refine wpList_store_whole rfl 24 (.tmp 2) (.tmp 29) rfl gr (bv (List.replicate 32 0)) rfl rfl 24 (bv (List.replicate 32 0)) HR.out.2.2 arr32_info rfl (by intro u hu; exact bv_one _ u hu) ?_
              intro w10 hb10 hg10
              simp only [Act.put, List.setIfInBounds_toArray, List.set_cons_zero, List.set_cons_succ]
              repeat (first | go_values | go_skip | go_guarded | go_step)
              refine bodyPost_row2 rfl gr rfl (.bool false) rfl 24 _ _ hb10 Tryd.underlying24 rfl arr32_info rfl ⟨by rw [(un_no HR.out.1).1, HR.out.1], ?_⟩
              have hbel : Below w.heap.size w wr := HW.out.2.2.1.trans (only_below HR.out.2.1 HW.out.2.2.1.size (fun g' e => by cases e; exact HW.out.2.2.2.1.2))
              exact hbel.trans (only_below hg10 hbel.size (fun g' e => by cases e; exact Nat.le_of_eq HW.out.2.2.2.2))
            | some v =>
              obtain ⟨hd16, hv16⟩ := hexD_hexV hv
              rw [nAt_some c v hv 16 (by omega), if_pos hv16]
              have hva : vAt l i = v := by unfold vAt; rw [HBy.out.2, hv]; rfl
              obtain ⟨p, ep⟩ : ∃ p, i / 2 = p := ⟨_, rfl⟩
              have hp32 : p < 32 := by omega
              have a1 : (i : Int) / 2 = (p : Int) := by omega
              have a2 : (i : Int).tdiv 2 = (p : Int) := by rw [Int.tdiv_eq_ediv_of_nonneg (by omega)]; exact a1
              have a3 : (p : Int) < 32 := by omega
              have hhalf := byteAt_half l i
              rw [hva, ep] at hhalf
              have hcell : wr.cell? ⟨g4, p, none⟩ = some (.int .u8 (((unL l i).getD p 0).toNat : Int)) := hbz.getb (by rw [unL_length]; exact hp32)
              have hfro := hbz.frozen p
              rw [unL_at l i p hp32] at hcell
              obtain ⟨old, eold⟩ : ∃ x, byteAt l i p = x := ⟨_, rfl⟩
              rw [eold] at hcell hhalf
              obtain ⟨mm, em⟩ : ∃ m, old * 16 = m := ⟨_, rfl⟩
              rw [em] at hhalf
              have hm : mm < 256 := by omega
              have a4 : (old : Int) * 16 = (mm : Int) := by omega
              have a5 : (mm : Int) % 256 = (mm : Int) := by omega
              have a6 : IntKind.u8.wrap (mm : Int) = (mm : Int) := by simp [IntKind.wrap, IntKind.bits, IntKind.signed]; omega
              have a7 : IntKind.u8.wrap (v : Int) = (v : Int) := by simp [IntKind.wrap, IntKind.bits, IntKind.signed]; omega
              obtain ⟨nv, env⟩ : ∃ x, mm + v = x := ⟨_, rfl⟩
              have hnvl : nv < 256 := by omega
              have a8 : (mm : Int) + (v : Int) = (nv : Int) := by omega
              have a9 : (nv : Int) % 256 = (nv : Int) := by omega
              have a10 : IntKind.u8.wrap (nv : Int) = (nv : Int) := by simp [IntKind.wrap, IntKind.bits, IntKind.signed]; omega
              have a11 : (0 : Int) ≤ (v : Int) := by omega
              have a12 : (v : Int) < 16 := by omega
              have hst := unL_step l i
              rw [ep, ← hhalf.2, env] at hst
              have HSt := Lib.hid (And.intro hst.symm hnvl)
              have HC := Lib.hid (And.intro HBy.out.2 hv)
              have HG := Lib.hid (And.intro hbz hgz)
              clear hst hv hhalf eold em env ep hva hnvl hwz hbz hgz hd16
              go_wp2_with fail
              go_roundw
              case rel =>
                refine ⟨i + 1, by omega, by go_num, ?_, only_setCell HG.out.2 (.inl rfl) _, ?_⟩
                · rw [HSt.out.1]
                  refine HG.out.1.setb p _ _ ?_
                  have := HSt.out.2
                  simp
                  omega
                · intro j hj
                  rcases Nat.lt_or_ge j i with h | h
                  · exact HAll.out j h
                  · obtain rfl : j = i := by omega
                    rw [HC.out.1, HC.out.2]
                    rfl
              case measure => simp [intOf]; omega
      · obtain rfl : i = 64 := by omega
        have hyes : hexOk l = true := is_ok HL64.out.2 HAll.out
        obtain ⟨F, eF⟩ : ∃ F, unL l 64 = F := ⟨_, rfl⟩
        have hFl : (bv F).length = 32 := by rw [bv_length, ← eF, unL_length]
        have hFi : (Tryd.prog.info? 24).map (·.size) = some (bv F).length := by rw [hFl]; exact arr32_info
        have hres := HW.out.2.1.grown HB0.out.2 (some_neq (by rw [← HW.out.2.2.2.2]; exact HW.out.2.2.2.1.1))
        have hnon := HB0.out.1
        rw [eF] at hnon
        have HR := Lib.hid hyes
        clear hyes
        go_wp2_with (first | (with_reducible refine at_load 24 ?_; refine stopped ?_) | fail)
        refine go_on ?_
        refine wpList_load_at rfl 24 (.tmp 4) rfl g4 0 rfl (bv F).toArray _ (Blk.cells hnon) Tryd.underlying24 rfl (by rw [List.size_toArray]; exact hFi) ?_
        refine wpList_store_whole rfl 24 (.tmp 2) (.tmp 41) rfl gr (bv F) rfl rfl 24 (bv (List.replicate 32 0)) hres hFi (by rw [hFl]; rfl) (by intro u hu; exact bv_one _ u hu) ?_
        intro w10 hb10 hg10
        simp only [Act.put, List.setIfInBounds_toArray, List.set_cons_zero, List.set_cons_succ]
        clear hres
        repeat (first | go_values | go_skip | go_guarded | go_step)
        refine bodyPost_row2 rfl gr rfl (.bool true) rfl 24 _ _ hb10 Tryd.underlying24 rfl (by rw [List.size_toArray]; exact hFi) rfl ⟨by rw [(un_yes HR.out).1, HR.out, eF], ?_⟩
        exact ((HW.out.2.2.1.trans (only_below HB0.out.2 HW.out.2.2.1.size (fun g' e => by cases e; exact HW.out.2.2.2.1.2)))).trans (only_below hg10 ((HW.out.2.2.1.trans (only_below HB0.out.2 HW.out.2.2.1.size (fun g' e => by cases e; exact HW.out.2.2.2.1.2)))).size (fun g' e => by cases e; exact Nat.le_of_eq HW.out.2.2.2.2))
  · have h64i : ¬ (s.size : Int) = 64 := by omega
    have hno : hexOk l = false := by
      unfold hexOk
      rw [← HSL.out, decide_eq_false h64]
      rfl
    have hres := HW.out.2.1
    have hnon := HW.out.1
    have HR := Lib.hid hno
    clear hno
    go_wp2_with (first | (with_reducible refine at_load 24 ?_; refine stopped ?_) | fail)
    refine go_on ?_
    refine wpList_load_at rfl 24 (.tmp 4) rfl g4 0 rfl (bv (List.replicate 32 0)).toArray _ (Blk.cells hnon) Tryd.underlying24 rfl arr32_info ?_
    refine wpList_store_whole rfl 24 (.tmp 2) (.tmp 11) rfl gr (bv (List.replicate 32 0)) rfl rfl 24 (bv (List.replicate 32 0)) hres arr32_info rfl (by intro u hu; exact bv_one _ u hu) ?_
    intro w10 hb10 hg10
    simp only [Act.put, List.setIfInBounds_toArray, List.set_cons_zero, List.set_cons_succ]
    clear hres
    repeat (first | go_values | go_skip | go_guarded | go_step)
    refine bodyPost_row2 rfl gr rfl (.bool false) rfl 24 _ _ hb10 Tryd.underlying24 rfl arr32_info rfl ⟨by rw [(un_no HR.out).1, HR.out], ?_⟩
    exact (HW.out.2.2.1).trans (only_below hg10 (HW.out.2.2.1).size (fun g' e => by cases e; exact Nat.le_of_eq HW.out.2.2.2.2))
end Go.Proofs.YtjhkoepcolpclaaDoor
