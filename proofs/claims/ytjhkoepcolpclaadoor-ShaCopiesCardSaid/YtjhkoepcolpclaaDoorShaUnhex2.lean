/-
  Package sha's Unhex, by its contract. Conditions: the theorem's own premises.
-/
import Derived.Test.YtjhkoepcolpclaaDoorShaUnhex
namespace Go.Proofs.YtjhkoepcolpclaaDoor
open Go.RowKit

/-- a call whose results are an array variable of its own and a slot -/
theorem bodyPost_row2 {P : Program} {w : World} {fn : Func} {R : Ending → World → Prop} {a : Act} {p q : Tmp} {ty : TypeId} (hr : fn.results = #[.cell p ty, .tmp q]) (g : Nat) (hp : a.tmps.getD p undef = .pointer (some ⟨g, 0, none⟩)) (v : Value) (hq : a.tmps.getD q undef = v) (t : TypeId) (cs : Array Value) (d : TypeDesc)
    (hg : Blk w g t cs) (hu : P.underlying ty = some d) (hd : agg? d = true) (hi : (P.info? ty).map (·.size) = some cs.size) (hdef : a.defers = []) (hR : R (.returned (.tuple #[.agg cs, v])) w) : bodyPost P fn R .ret a w := by
  refine bodyPost_ret ?_ hdef hR
  have hp' : a.tmps[p]?.getD undef = .pointer (some ⟨g, 0, none⟩) := by simpa using hp
  have hq' : a.tmps[q]?.getD undef = v := by simpa using hq
  simp [results, hr, hp', hq', asAddr, run_loadVar_at g 0 ty cs d hg.cells hu hd hi]
theorem bits_or_u8 (a b : Nat) (ha : a < 256) (hb : b < 256) : bits .or .u8 (a : Int) (b : Int) = ((a ||| b : Nat) : Int) := by
  have hx : a ||| b < 2 ^ 8 := Nat.or_lt_two_pow (by omega) (by omega)
  have e : ∀ n : Nat, n < 256 → (BitVec.ofInt 8 (n : Int)).toNat = n := fun n hn => by rw [BitVec.toNat_ofInt]; omega
  show IntKind.u8.wrap ((BitVec.ofInt 8 (a : Int) ||| BitVec.ofInt 8 (b : Int)).toNat : Int) = _
  rw [BitVec.toNat_or, e a ha, e b hb]
  have h2 : IntKind.u8.wrap ((a ||| b : Nat) : Int) = ((a ||| b : Nat) : Int) % 256 := by simp [IntKind.wrap, IntKind.bits, IntKind.signed]
  rw [h2]
  omega
theorem iter_setCell (w : World) (s : ByteArray) (pos : Nat) (g i : Nat) (v : Value) (hg : g < w.heap.size) : (w.iter s pos).setCell ⟨g, i, none⟩ v = (w.setCell ⟨g, i, none⟩ v).iter s pos := World.setCell_alloc_past (w := w) _ g i v hg
theorem iter_cell (w : World) (s : ByteArray) (pos : Nat) (g i : Nat) (hg : g < w.heap.size) : (w.iter s pos).cell? ⟨g, i, none⟩ = w.cell? ⟨g, i, none⟩ := World.cell?_alloc_lt w _ _ hg
theorem Blk.iter {w : World} {g : Nat} {t : TypeId} {cs : Array Value} (h : Blk w g t cs) (s : ByteArray) (pos : Nat) : Blk (w.iter s pos) g t cs := h.alloc _
theorem arr32_none : Tryd.prog.built 24 [] = some (bv (List.replicate 32 0)).toArray := by kernel_rfl
theorem byte_at (s : ByteArray) (i : Nat) (h : i < s.size) : s[i]'h = s.data.toList.getD i 0 := by
  have h2 : i < s.data.toList.length := h
  rw [List.getD_eq_getElem?_getD, List.getElem?_eq_getElem h2, Option.getD_some]
  rfl
theorem hexV_small {c : UInt8} {v : Nat} (h : hexV c = some v) : c.toNat < 128 := by
  unfold hexV at h
  split at h
  · omega
  · split at h
    · omega
    · cases h
theorem hexV_no {c : UInt8} (h : hexV c = none) : ¬ (48 ≤ (c.toNat : Int) ∧ (c.toNat : Int) ≤ 57) ∧ ¬ (97 ≤ (c.toNat : Int) ∧ (c.toNat : Int) ≤ 102) := by
  unfold hexV at h
  split at h
  · cases h
  · split at h
    · cases h
    · omega
theorem not_ok {l : List UInt8} {i : Nat} (hi : i < l.length) (h : hexV (l.getD i 0) = none) : hexOk l = false := by
  have hm : l.getD i 0 ∈ l := by rw [List.getD_eq_getElem?_getD, List.getElem?_eq_getElem hi]; exact List.getElem_mem _
  cases ho : hexOk l with
  | false => rfl
  | true =>
    unfold hexOk at ho
    rw [Bool.and_eq_true, List.all_eq_true] at ho
    have := ho.2 _ hm
    rw [h] at this
    cases this
theorem is_ok {l : List UInt8} (hl : l.length = 64) (h : ∀ j, j < 64 → (hexV (l.getD j 0)).isSome = true) : hexOk l = true := by
  unfold hexOk
  rw [Bool.and_eq_true, List.all_eq_true]
  refine ⟨by rw [hl]; rfl, fun c hc => ?_⟩
  obtain ⟨j, hj, rfl⟩ := List.getElem_of_mem hc
  have := h j (by omega)
  rwa [List.getD_eq_getElem?_getD, List.getElem?_eq_getElem hj, Option.getD_some] at this

theorem un_no {l : List UInt8} (h : hexOk l = false) : unhexV l = List.replicate 32 0 ∧ (if hexOk l = true then (0 : Int) else 3) = 3 := by
  unfold unhexV
  rw [h]
  exact ⟨rfl, rfl⟩
theorem un_yes {l : List UInt8} (h : hexOk l = true) : unhexV l = unL l 64 ∧ (if hexOk l = true then (0 : Int) else 3) = 0 := by
  unfold unhexV
  rw [h]
  exact ⟨rfl, rfl⟩

set_option maxRecDepth 100000 in
set_option maxHeartbeats 4000000 in
set_option linter.unusedSimpArgs false in
theorem unhex_any (s : ByteArray) (l : List UInt8) (hl : s.data.toList = l) (w : World) :
    Calls Tryd.prog 12 #[.string s] w fun e w' => e = .returned (.tuple #[.agg (bv (unhexV l)).toArray, .int .i64 (if hexOk l then 0 else 3)]) ∧ Below w.heap.size w w' := by
  have HL := Lib.hid hl
  have hsl : s.size = l.length := by rw [← hl]; rfl
  have HSL := Lib.hid hsl
  clear hl hsl
  go_enter Tryd.func12, Tryd.ntmps12
  go_wp2_with (first
    | (refine wpList_alloc rfl 24 rfl _ arr32_zero ?_; intro w1 hb1 hw1 hz1; refine stopped ?_)
    | fail)
  refine go_on ?_
  go_wp2_with (first | (with_reducible refine at_list ?_; refine stopped ?_) | fail)
  refine go_on ?_
  refine wpList_build_is rfl 24 _ rfl (bv (List.replicate 32 0)).toArray (by kernel_rfl) ?_
  refine wpList_alloc rfl 24 rfl _ arr32_zero ?_
  intro w2 hb2 hw2 hz2
  refine wpList_store_whole rfl 24 (.tmp 4) (.tmp 10) rfl w1.heap.size (bv (List.replicate 32 0)) rfl rfl 24 (bv (List.replicate 32 0)) hb2 arr32_info rfl (bv_one _) ?_
  intro w3 hb3 hg3
  simp only [Act.put, List.setIfInBounds_toArray, List.set_cons_zero, List.set_cons_succ]
  refine wpList_nil ?_
  iterate 4 go_step
  refine wpList_load_at rfl 24 (.tmp 4) rfl w1.heap.size 0 rfl (bv (List.replicate 32 0)).toArray _ (Blk.cells hb3) Tryd.underlying24 rfl arr32_info ?_
  refine wpList_alloc rfl 24 rfl _ arr32_zero ?_
  intro w4 hb4 hw4 hz4
  refine wpList_store_whole rfl 24 (.tmp 5) (.tmp 11) rfl w3.heap.size (bv (List.replicate 32 0)) rfl rfl 24 (bv (List.replicate 32 0)) hb4 arr32_info rfl (bv_one _) ?_
  intro w5 hb5 hg5
  simp only [Act.put, List.setIfInBounds_toArray, List.set_cons_zero, List.set_cons_succ]
  have hs3 := hg3.size
  have hs5 := hg5.size
  have h3 : Below w.heap.size w w3 := hw1.trans ((hw2.mono (by omega)).trans (only_below hg3 (by omega) (fun g e => by cases e; omega)))
  have h5 : Below w.heap.size w w5 := h3.trans ((hw4.mono (by omega)).trans (only_below hg5 (by omega) (fun g e => by cases e; omega)))
  have hr5 : Blk w5 w.heap.size 24 (bv (List.replicate 32 0)).toArray := (((hb1.below hw2 (by omega)).grown hg3 (some_neq (by omega))).below hw4 (by omega)).grown hg5 (some_neq (by omega))
  have hn5 : Blk w5 w1.heap.size 24 (bv (List.replicate 32 0)).toArray := (hb3.below hw4 (by omega)).grown hg5 (some_neq (by omega))
  have hsz5 : w3.heap.size < w5.heap.size := by omega
  have hne : w.heap.size ≠ w3.heap.size ∧ w1.heap.size ≠ w3.heap.size ∧ w.heap.size ≤ w3.heap.size := by omega
  obtain ⟨g5, eg5⟩ : ∃ g, w3.heap.size = g := ⟨_, rfl⟩
  obtain ⟨g4, eg4⟩ : ∃ g, w1.heap.size = g := ⟨_, rfl⟩
  obtain ⟨gr, egr⟩ : ∃ g, w.heap.size = g := ⟨_, rfl⟩
  obtain ⟨H, eH⟩ : ∃ H, w5.heap.size = H := ⟨_, rfl⟩
  rw [eg5] at hb5 hsz5 hne ⊢
  rw [eg4] at hn5 hne ⊢
  have hwr : w.heap.size = gr := egr
  rw [egr] at hr5 ⊢
  have HW := Lib.hid (And.intro hb5 (And.intro hr5 (And.intro hn5 (And.intro h5 (And.intro hne (And.intro hsz5 (And.intro hwr eH)))))))
  clear hb1 hw1 hz1 hb2 hw2 hz2 hb3 hg3 hb4 hw4 hz4 hb5 hg5 hs3 hs5 h3 h5 hr5 hn5 hsz5 hne eg5 eg4 egr hwr eH
  obtain ⟨Z, eZ⟩ : ∃ Z, (bv (List.replicate 32 0)).toArray = Z := ⟨_, rfl⟩
  rw [eZ]
  have HZ := Lib.hid eZ
  clear eZ
  by_cases h64 : s.size = 64
  · have h64i : (s.size : Int) = 64 := by omega
    have hl64 : l.length = 64 := by rw [← HSL.out]; exact h64
    have HL64 := Lib.hid (And.intro h64 hl64)
    clear hl64
    go_wp2_with fail
    clear h64i
    rw [HW.out.2.2.2.2.2.2.2]
    go_loopw [18] (fun _ wz => ∃ (i : Nat) (w0 : World), i ≤ 64 ∧ wz = w0.iter s i ∧ w0.heap.size = H ∧ Blk w0 g5 24 (bv (unL l i)).toArray ∧ w5.grownBy w0 (some g5) ∧ (∀ j, j < i → (hexV (l.getD j 0)).isSome = true)) (fun _ wz => 64 - wz.iterPos H)
    case atStart => exact ⟨0, w5, by omega, rfl, HW.out.2.2.2.2.2.2.2, by rw [unL_zero]; exact HW.out.1, only_refl _ _, fun j hj => by omega⟩
    case round =>
      obtain ⟨i, w0, hi, rfl, hH, hblk, hgr, hall⟩ := hrel
      have HAll := Lib.hid hall
      have HB0 := Lib.hid (And.intro hblk (And.intro hgr hH))
      have hg5 : g5 < w0.heap.size := hblk.lt
      clear hall hblk hgr
      by_cases hlt : i < 64
      · have his : i < s.size := by rw [HL64.out.1]; exact hlt
        have hby := byte_at s i his
        rw [HL.out] at hby
        obtain ⟨c, ec⟩ : ∃ c, l.getD i 0 = c := ⟨_, rfl⟩
        rw [ec] at hby
        cases hv : hexV c with
        | some v =>
          have h128 := hexV_small hv
          have hnx0 := fun ty => run_next_ascii (P := Tryd.prog) w0 s i ty his (by rw [hby]; exact h128)
          rw [hby, hH] at hnx0
          have hv16 : v < 16 := (hexD_hexV hv).2
          have hva : vAt l i = v := by unfold vAt; rw [ec, hv]; rfl
          obtain ⟨p, ep⟩ : ∃ p, i / 2 = p := ⟨_, rfl⟩
          have hp32 : p < 32 := by omega
          have a1 : (i : Int) / 2 = (p : Int) := by omega
          have a2 : (i : Int).tdiv 2 = (p : Int) := by rw [Int.tdiv_eq_ediv_of_nonneg (by omega)]; exact a1
          have a3 : (p : Int) < 32 := by omega
          have hhalf := byteAt_half l i
          rw [hva, ep] at hhalf
          have hcell : (w0.iter s (i + 1)).cell? ⟨g5, p, none⟩ = some (.int .u8 (((unL l i).getD p 0).toNat : Int)) := by rw [iter_cell w0 s (i + 1) g5 p hg5]; exact HB0.out.1.getb (by rw [unL_length]; exact hp32)
          have hfro := (HB0.out.1.iter s (i + 1)).frozen p
          rw [unL_at l i p hp32] at hcell
          obtain ⟨old, eold⟩ : ∃ x, byteAt l i p = x := ⟨_, rfl⟩
          rw [eold] at hcell hhalf
          obtain ⟨m, em⟩ : ∃ m, old * 16 = m := ⟨_, rfl⟩
          rw [em] at hhalf
          have hm : m < 256 := by omega
          have a4 : (old : Int) * 16 = (m : Int) := by omega
          have a5 : (m : Int) % 256 = (m : Int) := by omega
          have a6 : IntKind.u8.wrap (m : Int) = (m : Int) := by simp [IntKind.wrap, IntKind.bits, IntKind.signed]; omega
          obtain ⟨nv, env⟩ : ∃ x, m + v = x := ⟨_, rfl⟩
          have a7 : bits .or .u8 (m : Int) (v : Int) = (nv : Int) := by
            rw [bits_or_u8 m v hm (by omega), Nat.or_comm, ← em, or_shift v old 4 (by omega)]
            omega
          have hst := unL_step l i
          rw [ep, ← hhalf.2, env] at hst
          have hnvl : nv < 256 := by omega
          have HSt := Lib.hid (And.intro hst.symm hnvl)
          have HC := Lib.hid (And.intro ec hv)
          have hbb : (c.toNat : Int) = (c.toNat : Int) := rfl
          obtain ⟨cn, ecn⟩ : ∃ x, c.toNat = x := ⟨_, rfl⟩
          rw [ecn] at hnx0
          have HD := Lib.hid (digit_yes c v hv (cn : Int) (by rw [ecn]))
          clear hst hv hhalf eold em env ec hby ep hva hbb ecn hnvl h128 his
          go_wp2_with fail
          refine (HD.out _).mono ?_
          rintro e' w' ⟨rfl, rfl⟩
          clear hnx0
          go_wp2_with fail
          try rw [iter_setCell w0 s (i + 1) g5 p _ hg5]
          go_roundw
          case rel =>
            refine ⟨i + 1, w0.setCell ⟨g5, p, none⟩ (.int .u8 (nv : Int)), by omega, ?_, by simpa [World.setCell] using hH, ?_, only_setCell HB0.out.2.1 (.inl rfl) _, ?_⟩
            · rw [← iter_setCell w0 s (i + 1) g5 p _ hg5]
            · rw [HSt.out.1]
              refine HB0.out.1.setb p _ _ ?_
              have := HSt.out.2
              simp
              omega
            · intro j hj
              rcases Nat.lt_or_ge j i with h | h
              · exact HAll.out j h
              · obtain rfl : j = i := by omega
                rw [HC.out.1, HC.out.2]
                rfl
          case measure =>
            have e1 : ((w0.setCell ⟨g5, p, none⟩ (.int .u8 (nv : Int))).iter s (i + 1)).iterPos H = i + 1 := by
              have h : (w0.setCell ⟨g5, p, none⟩ (.int .u8 (nv : Int))).heap.size = H := by simpa [World.setCell] using hH
              rw [← h, World.iterPos_iter]
            have e2 : (w0.iter s i).iterPos H = i := by rw [← hH, World.iterPos_iter]
            rw [e1, e2]
            omega
        | none =>
          have hno : hexOk l = false := not_ok (by rw [HL64.out.2]; exact hlt) (by rw [ec]; exact hv)
          have hnx : ∃ (z : Int) (i2 : Nat), (∀ ty, (Instr.next (.pointer (some ⟨H, 0, none⟩)) true ty).run Tryd.prog (w0.iter s i) = .ok (.tuple #[.bool true, .int .i64 (i : Int), .int .i32 z]) (w0.iter s i2)) ∧ ¬ (48 ≤ z ∧ z ≤ 57) ∧ ¬ (97 ≤ z ∧ z ≤ 102) := by
            by_cases h128 : c.toNat < 128
            · refine ⟨(c.toNat : Int), i + 1, fun ty => ?_, (hexV_no hv).1, (hexV_no hv).2⟩
              have := run_next_ascii (P := Tryd.prog) w0 s i ty his (by rw [hby]; exact h128)
              rwa [hby, hH] at this
            · have hhi := decode_high s i his (by rw [hby]; omega)
              refine ⟨(Utf8.decode s i).1, i + (Utf8.decode s i).2, fun ty => ?_, ?_⟩
              · have := run_next_any (P := Tryd.prog) w0 s i ty his
                rwa [hH] at this
              · obtain ⟨h1, _⟩ := hhi
                constructor <;> omega
          obtain ⟨z, i2, hnx0, hz1, hz2⟩ := hnx
          have HD := Lib.hid (digit_no z hz1 hz2)
          have hres := ((HW.out.2.1.grown HB0.out.2.1 (some_neq (by rw [← HW.out.2.2.2.2.2.2.1]; exact HW.out.2.2.2.2.1.1))).iter s i2)
          have hnon := ((HW.out.2.2.1.grown HB0.out.2.1 (some_neq HW.out.2.2.2.2.1.2.1)).iter s i2)
          have hbel : Below w.heap.size w (w0.iter s i2) := (HW.out.2.2.2.1.trans (only_below HB0.out.2.1 HW.out.2.2.2.1.size (fun g' e => by cases e; exact HW.out.2.2.2.2.1.2.2))).alloc (HW.out.2.2.2.1.trans (only_below HB0.out.2.1 HW.out.2.2.2.1.size (fun g' e => by cases e; exact HW.out.2.2.2.2.1.2.2))).size _
          have HR := Lib.hid (And.intro hno hbel)
          clear hno hbel hz1 hz2 hby ec hv his
          go_wp2_with fail
          refine (HD.out _).mono ?_
          rintro e' w' ⟨rfl, rfl⟩
          clear hnx0
          go_wp2_with (first | (with_reducible refine at_load 24 ?_; refine stopped ?_) | fail)
          refine go_on ?_
          refine wpList_load_at rfl 24 (.tmp 4) rfl g4 0 rfl (bv (List.replicate 32 0)).toArray _ (Blk.cells hnon) Tryd.underlying24 rfl arr32_info ?_
          refine wpList_store_whole rfl 24 (.tmp 2) (.tmp 29) rfl gr (bv (List.replicate 32 0)) rfl rfl 24 (bv (List.replicate 32 0)) hres arr32_info rfl (by intro u hu; exact bv_one _ u hu) ?_
          intro w10 hb10 hg10
          simp only [Act.put, List.setIfInBounds_toArray, List.set_cons_zero, List.set_cons_succ]
          clear hnon hres
          repeat (first | go_values | go_skip | go_guarded | go_step)
          refine bodyPost_row2 rfl gr rfl (.int .i64 3) rfl 24 _ _ hb10 Tryd.underlying24 rfl arr32_info rfl ⟨by rw [(un_no HR.out.1).1, (un_no HR.out.1).2], ?_⟩
          exact (HR.out.2).trans (only_below hg10 (HR.out.2).size (fun g' e => by cases e; exact Nat.le_of_eq HW.out.2.2.2.2.2.2.1))
      · obtain rfl : i = 64 := by omega
        have hyes : hexOk l = true := is_ok HL64.out.2 HAll.out
        have hnx0 := fun ty => run_next_end (P := Tryd.prog) w0 s 64 ty (by rw [HL64.out.1]; omega)
        rw [hH] at hnx0
        obtain ⟨F, eF⟩ : ∃ F, unL l 64 = F := ⟨_, rfl⟩
        have hFl : (bv F).length = 32 := by rw [bv_length, ← eF, unL_length]
        have hFi : (Tryd.prog.info? 24).map (·.size) = some (bv F).length := by rw [hFl]; exact arr32_info
        have hres := ((HW.out.2.1.grown HB0.out.2.1 (some_neq (by rw [← HW.out.2.2.2.2.2.2.1]; exact HW.out.2.2.2.2.1.1))).iter s 64)
        have hnon := HB0.out.1.iter s 64
        rw [eF] at hnon
        have hbel : Below w.heap.size w (w0.iter s 64) := (HW.out.2.2.2.1.trans (only_below HB0.out.2.1 HW.out.2.2.2.1.size (fun g' e => by cases e; exact HW.out.2.2.2.2.1.2.2))).alloc (HW.out.2.2.2.1.trans (only_below HB0.out.2.1 HW.out.2.2.2.1.size (fun g' e => by cases e; exact HW.out.2.2.2.2.1.2.2))).size _
        have HR := Lib.hid (And.intro hyes hbel)
        clear hyes hbel
        go_wp2_with (first | (with_reducible refine at_load 24 ?_; refine stopped ?_) | fail)
        refine go_on ?_
        refine wpList_load_at rfl 24 (.tmp 5) rfl g5 0 rfl (bv F).toArray _ (Blk.cells hnon) Tryd.underlying24 rfl (by rw [List.size_toArray]; exact hFi) ?_
        refine wpList_store_whole rfl 24 (.tmp 2) (.tmp 40) rfl gr (bv F) rfl rfl 24 (bv (List.replicate 32 0)) hres hFi (by rw [hFl]; rfl) (by intro u hu; exact bv_one _ u hu) ?_
        intro w10 hb10 hg10
        simp only [Act.put, List.setIfInBounds_toArray, List.set_cons_zero, List.set_cons_succ]
        clear hnon hres
        repeat (first | go_values | go_skip | go_guarded | go_step)
        refine bodyPost_row2 rfl gr rfl (.int .i64 0) rfl 24 _ _ hb10 Tryd.underlying24 rfl (by rw [List.size_toArray]; exact hFi) rfl ⟨by rw [(un_yes HR.out.1).1, (un_yes HR.out.1).2, eF], ?_⟩
        exact (HR.out.2).trans (only_below hg10 (HR.out.2).size (fun g' e => by cases e; exact Nat.le_of_eq HW.out.2.2.2.2.2.2.1))
  · have h64i : ¬ (s.size : Int) = 64 := by omega
    have hno : hexOk l = false := by
      unfold hexOk
      rw [← HSL.out, decide_eq_false h64]
      rfl
    have hres := HW.out.2.1
    have hnon := HW.out.2.2.1
    have HR := Lib.hid (And.intro hno HW.out.2.2.2.1)
    clear hno
    go_wp2_with (first | (with_reducible refine at_load 24 ?_; refine stopped ?_) | fail)
    refine go_on ?_
    refine wpList_load_at rfl 24 (.tmp 4) rfl g4 0 rfl (bv (List.replicate 32 0)).toArray _ (Blk.cells hnon) Tryd.underlying24 rfl arr32_info ?_
    refine wpList_store_whole rfl 24 (.tmp 2) (.tmp 15) rfl gr (bv (List.replicate 32 0)) rfl rfl 24 (bv (List.replicate 32 0)) hres arr32_info rfl (by intro u hu; exact bv_one _ u hu) ?_
    intro w10 hb10 hg10
    simp only [Act.put, List.setIfInBounds_toArray, List.set_cons_zero, List.set_cons_succ]
    clear hnon hres
    repeat (first | go_values | go_skip | go_guarded | go_step)
    refine bodyPost_row2 rfl gr rfl (.int .i64 3) rfl 24 _ _ hb10 Tryd.underlying24 rfl arr32_info rfl ⟨by rw [(un_no HR.out.1).1, (un_no HR.out.1).2], ?_⟩
    exact (HR.out.2).trans (only_below hg10 (HR.out.2).size (fun g' e => by cases e; exact Nat.le_of_eq HW.out.2.2.2.2.2.2.1))
end Go.Proofs.YtjhkoepcolpclaaDoor
