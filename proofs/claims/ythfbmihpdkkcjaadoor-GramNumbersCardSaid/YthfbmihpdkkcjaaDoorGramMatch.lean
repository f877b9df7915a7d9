/-
  Package gram's Match: the stack's machine, by its contract. Conditions: each theorem's own premises.
-/
import Derived.Test.YthfbmihpdkkcjaaDoorGramPush
import Derived.Test.YthfbmihpdkkcjaaDoorGramRepl
import Derived.Test.YthfbmihpdkkcjaaDoorGramFnA
namespace Go.Proofs.YthfbmihpdkkcjaaDoor
open Go.RowKit

theorem bsTail9 {w : World} {B b o : Nat} {l : List UInt8} (h : Bs w B (some ⟨b, o, none⟩) l) : Bs w B (some ⟨b, o + 1, none⟩) (l.drop 1) := by
  have := h.cut 1 l.length (Nat.le_refl _)
  rwa [List.take_of_length_le (Nat.le_refl _)] at this
theorem bsTailOne9 {w : World} {B : Nat} {l : List UInt8} (h1 : l.length ≤ 1) (C : Option Addr) : Bs w B C (l.drop 1) := by
  have e : l.drop 1 = [] := List.drop_of_length_le h1
  rw [e]
  exact Bs.nil_
theorem toN_cons (b : UInt8) (l : List UInt8) : toN (b :: l) = b.toNat :: toN l := rfl
/-- the machine on its way: stack, text -/
structure McAt (w : World) (G : Gm) (sl : List UInt8) (W : World) (v : Value) (σ : List Sg) (S : Option Addr) (t : List UInt8) (m d : Nat) : Prop where
  row : W.ownsRow w.heap.size 42 3 v σ.length (svs σ.reverse)
  bel : Below w.heap.size w W
  len : σ.length ≤ 32
  ok : ∀ s ∈ σ, s.n < 16 ∧ SgOk s
  bs : Bs w w.heap.size S t
  tl : t.length = m
  tc : m ≤ d
  t9 : m ≤ 1000
  go : ∀ r, RunG G σ (toN t) r → RunG G [⟨0, 0, 0⟩] (toN sl) r
theorem McAt.below {w : World} {G : Gm} {sl : List UInt8} {W W' : World} {v : Value} {σ : List Sg} {S : Option Addr} {t : List UInt8} {m d : Nat} (h : McAt w G sl W v σ S t m d) (hb : Below W.heap.size W W') : McAt w G sl W' v σ S t m d :=
  ⟨row_below h.row hb, h.bel.trans (hb.mono h.bel.size), h.len, h.ok, h.bs, h.tl, h.tc, h.t9, h.go⟩
def MatchPost (w : World) (G : Gm) (sl : List UInt8) (e : Ending) (w' : World) : Prop := ∃ r : Nat, e = .returned (.int .i64 (r : Int)) ∧ RunG G [⟨0, 0, 0⟩] (toN sl) r ∧ Below w.heap.size w w'
set_option maxRecDepth 100000 in
set_option maxHeartbeats 4000000 in
set_option linter.unusedSimpArgs false in
theorem gfMatch (w : World) (g : Nat) (F : Fc) (hF : F.Ok) (hf : FcAt w g F) (G : Gm) (hk : Know G F) (hrm : F.RmLe 16000000) (hfit : FitG G) (A : Option Addr) (L : List FmV) (n c : Nat) (hA : GmAt w w.heap.size A L G) (hn : L.length = n)
    (S : Option Addr) (sl : List UInt8) (ml d : Nat) (hS : Bs w w.heap.size S sl) (hml : sl.length = ml) (hmd : ml ≤ d) (hm9 : ml ≤ 1000) : Calls Tryd.prog 17 #[.pointer (some ⟨g, 0, none⟩), .slice A n c, .slice S ml d] w (MatchPost w G sl) := by
  have hG := grOk_of hfit.1 hA.ok
  have hFF := hfit.fitF hA.ok
  have hrep := fun (W : World) (hW : Below w.heap.size w W) (X : Nat) (hX : X < 16) (S : Option Addr) (t : List UInt8) (m d : Nat) (hS : Bs w w.heap.size S t) (hm : t.length = m) (h9 : m ≤ 1000) =>
    gfReplace W g F hF (FcAt.below hf hW (Blk.lt hf)) G hk hG A L n c ((hA.below hW).more hW.size) hn X hX S t m d ((hS.below hW).more hW.size) hm h9
  have H := Lib.hid (And.intro hrep (And.intro hA (And.intro hn (And.intro hG hFF))))
  have HK := Lib.hid (And.intro hk hrm)
  have H0S := Lib.hid (And.intro hS (And.intro hml (And.intro hmd hm9)))
  clear hrep hf hA hn hG hFF hk hrm hS hml hfit
  go_enter Tryd.func17, Tryd.ntmps17
  go_wp2_with fail
  obtain ⟨w1, ew1⟩ : ∃ W, w.alloc (.cells #[.int .i64 0, .int .u8 0, .int .u8 0] 42) = W := ⟨_, rfl⟩
  have hrow1 : w1.ownsRow w.heap.size 42 3 (.slice (some ⟨w.heap.size, 0, none⟩) 1 1) 1 (svs [⟨0, 0, 0⟩]) := by
    have h : Blk w1 w.heap.size 42 (svs [⟨0, 0, 0⟩]).toArray := by rw [← ew1]; exact Blk.new w 42 _
    exact row_of_blk h (Nat.le_refl _) rfl (by unfold maxLen; omega)
  have hb1 : Below w.heap.size w w1 := by rw [← ew1]; exact below_alloc w _
  rw [ew1]
  have H1 := Lib.hid (show McAt w G sl w1 (.slice (some ⟨w.heap.size, 0, none⟩) 1 1) [⟨0, 0, 0⟩] S sl ml d from ⟨hrow1, hb1, by decide, fun s hs => by rw [List.mem_singleton] at hs; subst hs; exact ⟨show (0 : Int) < 16 by decide, ⟨by decide, by decide⟩, by decide, by decide⟩, H0S.out.1, H0S.out.2.1, H0S.out.2.2.1, H0S.out.2.2.2, fun r h => h⟩)
  clear hrow1 hb1 ew1
  go_loopg [2, 7] (muG G [⟨0, 0, 0⟩] (toN sl)) (fun gk s2 s7 wx => ∃ (σ : List Sg) (A2 : Option Addr) (c2 : Nat) (S2 : Option Addr) (t : List UInt8) (m d2 : Nat), gk = muG G σ (toN t) ∧ s2 = .slice S2 m d2 ∧ s7 = .slice A2 σ.length c2 ∧ McAt w G sl wx (.slice A2 σ.length c2) σ S2 t m d2)
  case atStart => exact ⟨_, _, _, _, _, _, _, rfl, rfl, rfl, H1.out⟩
  case round =>
    obtain ⟨σ, A2, c2, S2, t, m, d2, egk, rfl, rfl, hmc⟩ := hrel
    have HE := Lib.hid egk
    clear egk
    cases σ with
    | nil =>
      have HI := Lib.hid hmc
      clear hmc
      by_cases hm0 : m = 0
      · have ht : t = [] := List.eq_nil_of_length_eq_zero (by rw [HI.out.tl]; exact hm0)
        have hmi : ¬ (0 : Int) < (m : Int) := by omega
        have HR := Lib.hid (HI.out.go 1 (by rw [ht]; exact .yes))
        clear ht hm0
        go_wp2_with fail
        go_ret
        exact ⟨1, rfl, HR.out, HI.out.bel⟩
      · obtain ⟨b0, rest, et⟩ : ∃ b0 rest, t = b0 :: rest := by
          cases hs : t with
          | nil => have := HI.out.tl; rw [hs] at this; simp at this; omega
          | cons b0 rest => exact ⟨b0, rest, rfl⟩
        have hmi : (0 : Int) < (m : Int) := by omega
        have HR := Lib.hid (HI.out.go 0 (by rw [et, toN_cons]; exact .rest))
        clear et
        go_wp2_with fail
        go_ret
        exact ⟨0, rfl, HR.out, HI.out.bel⟩
    | cons x σ' =>
      obtain ⟨q, eq⟩ : ∃ q, σ'.length = q := ⟨_, rfl⟩
      have hlen : (x :: σ').length = q + 1 := by rw [List.length_cons, eq]
      have hq32 : q + 1 ≤ 32 := by have := hmc.len; rw [hlen] at this; exact this
      obtain ⟨A3, c3, e3, hc1, hc2, hvs, hlt3⟩ := vs_of_row hmc.row
      rw [hlen] at e3 hmc ⊢
      have hc1' : q + 1 ≤ c2 := by rw [hlen] at hc1; injection e3 with _ _ h; omega
      obtain rfl : A2 = A3 := by injection e3
      have hsr : σ'.length < (x :: σ').reverse.length := by simp
      obtain ⟨b, o, rfl, hbl, hcl⟩ := svs_cells hvs hsr
      have hcs := hcl wr (Below.refl _ _)
      have hxx : (x :: σ').reverse.getD σ'.length ⟨0, 0, 0⟩ = x := by simp [List.getD]
      rw [hxx, eq] at hcs
      have hcut := row_cut (m := q) (show wr.ownsRow w.heap.size 42 3 (.slice (some ⟨b, o, none⟩) (q + 1) c2) (q + 1) (svs (x :: σ').reverse) by have := hmc.row; rw [hlen] at this; exact this) (by omega)
      rw [← svs_take, show (x :: σ').reverse.take q = σ'.reverse by rw [List.reverse_cons, ← eq]; rw [List.take_append_of_le_length (by rw [List.length_reverse]; exact Nat.le_refl _), List.take_of_length_le (by rw [List.length_reverse]; exact Nat.le_refl _)]] at hcut
      have hbelx := hmc.bel
      have HI := Lib.hid (And.intro hmc (And.intro hcut eq))
      clear hcl hxx hsr hvs hlt3 e3 hc1 hc2 hmc hcut
      have hqi : (0 : Int) < (q : Int) + 1 := by omega
      have hq0 : (0 : Int) ≤ (q : Int) := by omega
      have hqc : (q : Int) ≤ (c2 : Int) := by omega
      have hpush : ((q + 1 : Nat) : Int) = (q : Int) + 1 := by omega
      go_wp2_with (first
        | (with_reducible refine st_load 42 ?_; refine stopped ?_)
        | fail)
      refine go_on ?_
      refine wpList_load_at rfl 42 (.tmp 23) rfl b (o + q * 3) rfl x.cells.toArray _ hcs Tryd.underlying42 rfl sg_size4 ?_
      simp only [Act.put, List.setIfInBounds_toArray, List.set_cons_zero, List.set_cons_succ]
      refine wpList_alloc rfl 42 rfl _ sg_zero ?_
      intro w8 hb8 hw8 hz8
      simp only [Act.put, List.setIfInBounds_toArray, List.set_cons_zero, List.set_cons_succ]
      refine wpList_store_whole rfl 42 (.tmp 9) (.tmp 24) rfl wr.heap.size x.cells rfl rfl 42 (Sg.cells ⟨0, 0, 0⟩) hb8 sg_size4 rfl (sg_one4 _) ?_
      intro w9 hx9 hg9
      refine wpList_nil ?_
      simp only [Act.put, List.setIfInBounds_toArray, List.set_cons_zero, List.set_cons_succ]
      have hb9 : Below wr.heap.size wr w9 := hw8.grown hg9 hw8.size (fun j e => by cases e; exact Nat.le_refl _)
      obtain ⟨gx, egx⟩ : ∃ gx, wr.heap.size = gx := ⟨_, rfl⟩
      have hb9w := hbelx.trans (hb9.mono hbelx.size)
      have hrow9 := row_below HI.out.2.1 hb9
      rw [egx] at hx9 ⊢
      obtain ⟨xn, exn⟩ : ∃ z, x.n = z := ⟨_, rfl⟩
      obtain ⟨xl, exl⟩ : ∃ z, x.lo = z := ⟨_, rfl⟩
      obtain ⟨xh, exh⟩ : ∃ z, x.hi = z := ⟨_, rfl⟩
      have k0 : w9.cell? ⟨gx, 0, none⟩ = some (.int .i64 xn) := by rw [← exn]; exact Blk.cell hx9 0
      have k1 : w9.cell? ⟨gx, 1, none⟩ = some (.int .u8 (xl : Int)) := by rw [← exl]; exact Blk.cell hx9 1
      have k2 : w9.cell? ⟨gx, 2, none⟩ = some (.int .u8 (xh : Int)) := by rw [← exh]; exact Blk.cell hx9 2
      have HX := Lib.hid (And.intro hrow9 (And.intro hb9w (And.intro exn (And.intro exl exh))))
      have hox := HI.out.1.ok x (List.mem_cons_self ..)
      have hos : ∀ s ∈ σ', s.n < 16 ∧ SgOk s := fun s hs => HI.out.1.ok s (List.mem_cons_of_mem _ hs)
      have HO := Lib.hid (And.intro hox hos)
      clear hb8 hw8 hz8 hg9 hb9 hrow9 hx9 egx exn exl exh hcs hox hos
      by_cases hneg : xn < 0
      · by_cases hm0 : m = 0
        · have ht : t = [] := List.eq_nil_of_length_eq_zero (by rw [HI.out.1.tl]; exact hm0)
          have hmb : ((m : Int) == 0) = true := by rw [hm0]; rfl
          have HR := Lib.hid (HI.out.1.go 0 (.noByte (by rw [HX.out.2.2.1]; exact hneg) (fun c r e => by rw [ht] at e; cases e)))
          have hmN : (m == 0) = true := by rw [hm0]; rfl
          have hmD : decide (m = 0) = true := decide_eq_true hm0
          clear ht hm0
          go_wp2_with fail
          go_quiet (fail)
          rename_i nq
          go_wp2_with fail
          go_ret
          exact ⟨0, rfl, HR.out, below_drewN hb9w _⟩
        · obtain ⟨b0, rest, et⟩ : ∃ b0 rest, t = b0 :: rest := by
            cases hs : t with
            | nil => have := HI.out.1.tl; rw [hs] at this; simp at this; omega
            | cons b0 rest => exact ⟨b0, rest, rfl⟩
          obtain ⟨bC, oC, rfl, hbC, hcC⟩ := HI.out.1.bs.at_ (k := 0) (by rw [et]; simp)
          obtain ⟨c0, ec0⟩ : ∃ c0, b0.toNat = c0 := ⟨_, rfl⟩
          have e0 : (t[0]'(by rw [et]; simp)).toNat = c0 := by simp only [et, List.getElem_cons_zero]; exact ec0
          rw [e0, Nat.add_zero] at hcC
          have hto : toN t = c0 :: toN (t.drop 1) := by rw [et, toN_cons, ec0]; rfl
          have kS : w9.cell? ⟨bC, oC, none⟩ = some (.int .u8 (c0 : Int)) := (hb9w.cell (p := ⟨bC, oC, none⟩) hbC).trans hcC
          have hmb : ((m : Int) == 0) = false := by rw [beq_eq_false_iff_ne]; omega
          have hmN : (m == 0) = false := by rw [beq_eq_false_iff_ne]; exact hm0
          have hmD : decide (m = 0) = false := decide_eq_false hm0
          have hmi : (0 : Int) < (m : Int) := by omega
          have hmp : 0 < m := by omega
          have HT := Lib.hid hto
          clear hcC e0 et ec0 hto
          by_cases hlo : c0 < xl
          · have hloi : (c0 : Int) < (xl : Int) := by omega
            have hloD : decide (c0 < xl) = true := decide_eq_true hlo
            have HR := Lib.hid (HI.out.1.go 0 (.noByte (by rw [HX.out.2.2.1]; exact hneg) (fun c r e => by rw [HT.out] at e; cases e; rw [HX.out.2.2.2.1]; omega)))
            go_wp2_with fail
            go_quiet (fail)
            rename_i nq
            go_wp2_with fail
            go_ret
            exact ⟨0, rfl, HR.out, below_drewN hb9w _⟩
          · have hloi : ¬ (c0 : Int) < (xl : Int) := by omega
            have hloD : decide (c0 < xl) = false := decide_eq_false hlo
            by_cases hhi : xh < c0
            · have hhii : (xh : Int) < (c0 : Int) := by omega
              have hhiD : decide (xh < c0) = true := decide_eq_true hhi
              have HR := Lib.hid (HI.out.1.go 0 (.noByte (by rw [HX.out.2.2.1]; exact hneg) (fun c r e => by rw [HT.out] at e; cases e; rw [HX.out.2.2.2.2]; omega)))
              go_wp2_with fail
              go_quiet (fail)
              rename_i nq
              go_wp2_with fail
              go_ret
              exact ⟨0, rfl, HR.out, below_drewN hb9w _⟩
            · have hhii : ¬ (xh : Int) < (c0 : Int) := by omega
              have hhiD : decide (xh < c0) = false := decide_eq_false hhi
              have hgo : ∀ r, RunG G σ' (toN (t.drop 1)) r → RunG G [⟨0, 0, 0⟩] (toN sl) r := fun r hr => HI.out.1.go r (by rw [HT.out]; exact .byte (by rw [HX.out.2.2.1]; exact hneg) (by rw [HX.out.2.2.2.1]; omega) (by rw [HX.out.2.2.2.2]; omega) hr)
              have hmu : muG G σ' (toN (t.drop 1)) < muG G (x :: σ') (toN t) := muG_step H.out.2.2.2.2 (by rw [HT.out]; exact .byte (by rw [HX.out.2.2.1]; exact hneg))
              have HM := Lib.hid (And.intro hgo hmu)
              have hmd1 : (m : Int) ≤ (d2 : Int) := by have := HI.out.1.tc; omega
              have hm1 : (1 : Int) ≤ (m : Int) := by omega
              have hd1 : (1 : Int) ≤ (d2 : Int) := by omega
              clear hgo hmu
              by_cases hdd : d2 = 1
              · have hmc2 : McAt w G sl w9 (.slice (some ⟨b, o, none⟩) q c2) σ' (some ⟨bC, oC, none⟩) (t.drop 1) (m - 1) 0 :=
                  ⟨by rw [HI.out.2.2]; exact HX.out.1, HX.out.2.1, by rw [HI.out.2.2]; omega, HO.out.2, bsTailOne9 (by rw [HI.out.1.tl]; have := HI.out.1.tc; omega) _, by rw [List.length_drop, HI.out.1.tl], by have := HI.out.1.tc; omega, by have := HI.out.1.t9; omega, HM.out.1⟩
                have HC := Lib.hid hmc2
                have HDD := Lib.hid hdd
                clear hmc2
                go_wp2_with fail
                go_quiet (fail)
                rename_i nq
                go_wp2_with fail
                go_roundg (muG G σ' (toN (t.drop 1)))
                case measure => rw [HE.out]; exact HM.out.2
                case rel => exact ⟨σ', _, c2, _, t.drop 1, m - 1, _, rfl, rfl, by rw [HI.out.2.2], by rw [HI.out.2.2]; exact HC.out.below (below_drewN (Below.refl _ _) _)⟩
              · have hmc2 : McAt w G sl w9 (.slice (some ⟨b, o, none⟩) q c2) σ' (some ⟨bC, oC + 1, none⟩) (t.drop 1) (m - 1) (d2 - 1) :=
                  ⟨by rw [HI.out.2.2]; exact HX.out.1, HX.out.2.1, by rw [HI.out.2.2]; omega, HO.out.2, bsTail9 HI.out.1.bs, by rw [List.length_drop, HI.out.1.tl], by have := HI.out.1.tc; omega, by have := HI.out.1.t9; omega, HM.out.1⟩
                have HC := Lib.hid hmc2
                clear hmc2
                go_wp2_with fail
                go_quiet (fail)
                rename_i nq
                go_wp2_with fail
                go_roundg (muG G σ' (toN (t.drop 1)))
                case measure => rw [HE.out]; exact HM.out.2
                case rel => exact ⟨σ', _, c2, _, t.drop 1, m - 1, _, rfl, rfl, by rw [HI.out.2.2], by rw [HI.out.2.2]; exact HC.out.below (below_drewN (Below.refl _ _) _)⟩
      · obtain ⟨X, rfl⟩ : ∃ X : Nat, xn = (X : Int) := ⟨xn.toNat, by omega⟩
        have hX16 : X < 16 := by have := HO.out.1.1; rw [HX.out.2.2.1] at this; omega
        have hX0 : (0 : Int) ≤ (X : Int) := by omega
        have hxs : 0 ≤ x.n := by rw [HX.out.2.2.1]; omega
        have hr := H.out.1 w9 hb9w X hX16 S2 t m d2 HI.out.1.bs HI.out.1.tl HI.out.1.t9
        have HRR := Lib.hid (And.intro hr hxs)
        clear hr hxs k1 k2
        go_wp2_with (first
          | (go_at_call 31; refine stopped ?_)
          | fail)
        refine go_on ?_
        refine HRR.out.1.mono ?_
        rintro e w10 ⟨hb10, hcase⟩
        have hb10w := hb9w.trans (hb10.mono hb9w.size)
        have hrow10 := row_below HX.out.1 hb10
        have HW := Lib.hid (And.intro hb10w hrow10)
        clear hb10 hrow10 k0
        rcases hcase with ⟨x1, hx1, hn1, ⟨c0, r0, et, hfl⟩, rfl⟩ | ⟨hnf, hv, rfl⟩ | ⟨hnf, hv, rfl⟩
        · have hfm : x1.f ∈ G.fs := by rw [← H.out.2.1.fs]; exact List.mem_map.2 ⟨x1, hx1, rfl⟩
          have hbo := H.out.2.2.2.1.b x1.f hfm
          have hvs1 := ((H.out.2.1.bs x1 hx1).vs).below hb10w
          have hpk : Pick G (toN t) x.n x1.f := ⟨hfm, by rw [HX.out.2.2.1]; exact hn1, .inl ⟨c0, r0, et, hfl⟩⟩
          obtain ⟨m1, em1⟩ : ∃ m1, x1.f.b.length = m1 := ⟨_, rfl⟩
          have hm18 : m1 ≤ 8 := by rw [← em1]; exact hbo.2.1
          have HP := Lib.hid (And.intro hpk (And.intro hbo.1 (And.intro hvs1 em1)))
          rw [em1]
          clear hfm hbo hvs1 hpk em1 et hfl hn1 hx1
          by_cases hdeep : 32 < q + m1
          · have hdi : (32 : Int) < (q : Int) + (m1 : Int) := by omega
            have HR := Lib.hid (HI.out.1.go 2 (.deep HRR.out.2 HP.out.1 (by rw [List.length_append, HP.out.2.2.2, HI.out.2.2]; omega)))
            go_wp2_with fail
            go_ret
            exact ⟨2, rfl, HR.out, HW.out.1⟩
          · have hdi : ¬ (32 : Int) < (q : Int) + (m1 : Int) := by omega
            have hps := gfPush w10 w.heap.size HW.out.1.size (.slice (some ⟨b, o, none⟩) q c2) q σ'.reverse HW.out.2 x1.A x1.f.b m1 x1.c HP.out.2.2.1 HP.out.2.2.2 (by omega) (by omega)
            have HS := Lib.hid hps
            clear hps
            go_wp2_with (first
              | (go_at_call 32; refine stopped ?_)
              | fail)
            refine go_on ?_
            refine HS.out.mono ?_
            rintro e w11 ⟨v11, rfl, hrow11, hb11⟩
            have hlen11 : (x1.f.b ++ σ').length = q + x1.f.b.length := by rw [List.length_append, HI.out.2.2]; omega
            rw [← List.reverse_append, ← hlen11] at hrow11
            obtain ⟨A5, c5, rfl, _, _, _, _⟩ := vs_of_row hrow11
            have hmc2 : McAt w G sl w11 (.slice A5 (x1.f.b ++ σ').length c5) (x1.f.b ++ σ') S2 t m d2 :=
              ⟨hrow11, HW.out.1.trans hb11, by rw [hlen11, HP.out.2.2.2]; omega, fun s hs => (List.mem_append.1 hs).elim (fun h => ⟨HP.out.2.1.n s h, HP.out.2.1.ok s h⟩) (HO.out.2 s), HI.out.1.bs, HI.out.1.tl, HI.out.1.tc, HI.out.1.t9, fun r hr => HI.out.1.go r (.name HRR.out.2 HP.out.1 (by rw [hlen11, HP.out.2.2.2]; omega) hr)⟩
            have HC := Lib.hid hmc2
            have HM := Lib.hid (muG_step H.out.2.2.2.2 (.name (σ := σ') HRR.out.2 HP.out.1))
            clear hmc2 hrow11 hb11 hlen11
            go_wp2_with fail
            go_roundg (muG G (x1.f.b ++ σ') (toN t))
            case measure => rw [HE.out]; exact HM.out
            case rel => exact ⟨x1.f.b ++ σ', _, c5, _, t, m, d2, rfl, rfl, by rw [List.length_append, HI.out.2.2], HC.out⟩
        · have hvh := (HK.out.1.v X hX16).2 hv
          obtain ⟨kd, hkd⟩ := HK.out.1.d X hX16 hvh
          have hrmx := HK.out.2 X
          obtain ⟨rm, erm⟩ : ∃ rm : Nat, F.room X = (rm : Int) := ⟨(F.room X).toNat, by omega⟩
          rw [erm, Int.toNat_natCast] at hkd
          rw [erm] at hrmx ⊢
          have hrmb : (rm : Int) ≤ 16000000 := hrmx.2
          have hdr := dep_run H.out.2.2.2.2 kd (s := x) HRR.out.2 (by rw [HX.out.2.2.1]; exact hkd) (by rw [HX.out.2.2.1]; exact hnf) σ'
          rw [HI.out.2.2] at hdr
          have HD := Lib.hid hdr
          clear hdr hkd hvh hv hnf erm hrmx
          by_cases hdeep : 32 < q + rm
          · have hdi : (32 : Int) < (q : Int) + (rm : Int) := by omega
            have HR := Lib.hid (HI.out.1.go 2 (HD.out.2.1 hdeep))
            go_wp2_with fail
            go_ret
            exact ⟨2, rfl, HR.out, HW.out.1⟩
          · have hdi : ¬ (32 : Int) < (q : Int) + (rm : Int) := by omega
            have hps := gfPush w10 w.heap.size HW.out.1.size (.slice (some ⟨b, o, none⟩) q c2) q σ'.reverse HW.out.2 none [] 0 0 (fun h => by simp [svs] at h) rfl (by omega) (by omega)
            have HS := Lib.hid hps
            clear hps
            go_wp2_with (first
              | (go_at_call 32; refine stopped ?_)
              | fail)
            refine go_on ?_
            refine HS.out.mono ?_
            rintro e w11 ⟨v11, rfl, hrow11, hb11⟩
            rw [List.reverse_nil, List.append_nil, List.length_nil, Nat.add_zero, ← HI.out.2.2] at hrow11
            obtain ⟨A5, c5, rfl, _, _, _, _⟩ := vs_of_row hrow11
            have hmc2 : McAt w G sl w11 (.slice A5 σ'.length c5) σ' S2 t m d2 :=
              ⟨hrow11, HW.out.1.trans hb11, by rw [HI.out.2.2]; omega, HO.out.2, HI.out.1.bs, HI.out.1.tl, HI.out.1.tc, HI.out.1.t9, fun r hr => HI.out.1.go r (HD.out.1 (by omega) r hr)⟩
            have HC := Lib.hid hmc2
            clear hmc2 hrow11 hb11
            go_wp2_with fail
            go_roundg (muG G σ' (toN t))
            case measure => rw [HE.out]; exact HD.out.2.2
            case rel => exact ⟨σ', _, c5, _, t, m, d2, rfl, rfl, by rw [HI.out.2.2], HC.out⟩
        · have HR := Lib.hid (HI.out.1.go 0 (.noName HRR.out.2 (fun f hp => by
            obtain ⟨hfm, hfn, h3 | h3⟩ := hp
            · obtain ⟨c, r, e, h4⟩ := h3
              rw [HX.out.2.2.1] at hfn
              exact hnf c r e (hfn ▸ fir_of hfm h4)
            · rw [HX.out.2.2.1] at hfn
              exact hv (hfn ▸ van_of hfm h3.1))))
          clear hnf hv
          go_wp2_with fail
          go_ret
          exact ⟨0, rfl, HR.out, HW.out.1⟩
set_option maxRecDepth 100000 in
set_option maxHeartbeats 4000000 in
set_option linter.unusedSimpArgs false in
theorem gmMatch (w : World) (G : Gm) (A : Option Addr) (L : List FmV) (n c : Nat) (hA : GmAt w w.heap.size A L G) (hn : L.length = n) (_hc : n ≤ c) (hs : SmallG G) (_hG : HasErr w) (S : Option Addr) (s : List UInt8) (m d : Nat) (hS : Bs w w.heap.size S s) (hm : s.length = m) (hd : m ≤ d) (h9 : m ≤ 1000) : Calls Tryd.prog 11 #[gmv G.k A n c, .slice S m d] w (GMatchPost w G s) := by
  have hfi := fun (W : World) (hW : Below w.heap.size w W) => gfFit W G A L n c ((hA.below hW).more hW.size) hn hs
  have hma := fun (W : World) (hW : Below w.heap.size w W) (g : Nat) (F : Fc) (hF : F.Ok) (hf : FcAt W g F) (hk : Know G F) (hrm : F.RmLe 16000000) (hfit : FitG G) =>
    gfMatch W g F hF hf G hk hrm hfit A L n c ((hA.below hW).more hW.size) hn S s m d ((hS.below hW).more hW.size) hm hd h9
  unfold gmv at hfi ⊢
  clear hA hn hs hS hm
  obtain ⟨gv, egv⟩ : ∃ gv : List Value, [.int .i64 G.k, .slice A n c] = gv := ⟨_, rfl⟩
  have egv' : (#[.int .i64 G.k, .slice A n c] : Array Value) = gv.toArray := by rw [← egv]
  have hg2 : gv.length = 2 := by rw [← egv]; rfl
  rw [egv'] at hfi ⊢
  have HC := Lib.hid (And.intro hfi (And.intro hma egv))
  clear hfi hma egv egv'
  go_enter Tryd.func11, Tryd.ntmps11
  go_wp2_with (first
    | (refine wpList_box (o := ⟨some 2, _, _, _, _, _⟩) rfl 25 (.tmp 0) rfl gv.toArray rfl ?_; intro w1 hb1 hw1 hz1)
    | (with_reducible refine st_load 25 ?_; refine stopped ?_)
    | fail)
  refine go_on ?_
  refine wpList_load_at rfl 25 (.tmp 2) rfl w.heap.size 0 rfl gv.toArray _ (Blk.cells hb1) Tryd.underlying25 rfl (by rw [List.size_toArray, hg2]; exact gram_size) ?_
  simp only [Act.put, List.setIfInBounds_toArray, List.set_cons_zero, List.set_cons_succ]
  have HW := Lib.hid (And.intro hw1 hb1)
  clear hb1 hw1 hz1
  go_wp2_with (first
    | (go_at_call 16; refine stopped ?_)
    | fail)
  refine go_on ?_
  refine (HC.out.1 w1 HW.out.1).mono ?_
  rintro e w2 ⟨r, v, p, rfl, hci, hch, hb2, hok⟩
  have hbw2 := HW.out.1.trans (hb2.mono HW.out.1.size)
  have hm2 := HW.out.2.below hb2 HW.out.2.lt
  by_cases hr0 : r.1 = 0
  · rw [if_pos hr0] at hch
    obtain rfl : v = .nilIface := hch
    have hfit := (checkIs_fit hci).1 hr0
    obtain ⟨g, F, rfl, _, hf, hF, hkn, hrm⟩ := hok hr0
    have k1 : w2.cell? ⟨w.heap.size, 1, none⟩ = some (.slice A n c) := by rw [Blk.cell hm2, ← HC.out.2.2]; rfl
    have HM := Lib.hid (And.intro (HC.out.2.1 w2 hbw2 g F hF hf hkn hrm hfit) (And.intro hbw2 hfit))
    clear hci hb2 hok hbw2 hm2 hr0 hf hF hkn hrm hfit
    go_wp2_with (first
      | (go_at_call 17; refine stopped ?_)
      | fail)
    refine go_on ?_
    refine HM.out.1.mono ?_
    rintro e w3 ⟨r3, rfl, hrun, hb3⟩
    have HZ := Lib.hid (And.intro hrun (HM.out.2.1.trans (hb3.mono HM.out.2.1.size)))
    clear hrun hb3 k1
    go_wp2_with fail
    go_ret2
    exact ⟨r3, 0, rfl, .inl ⟨HM.out.2.2, rfl, HZ.out.1⟩, HZ.out.2⟩
  · rw [if_neg hr0] at hch
    obtain ⟨g9, u9, rfl, _, _⟩ := hch
    have hnf : ¬ FitG G := fun h => hr0 ((checkIs_fit hci).2 h)
    have HZ := Lib.hid (And.intro hnf hbw2)
    clear hci hb2 hok hbw2 hm2 hr0 hnf
    go_wp2_with fail
    go_ret2
    exact ⟨0, 3, rfl, .inr ⟨HZ.out.1, rfl, rfl⟩, HZ.out.2⟩
end Go.Proofs.YthfbmihpdkkcjaaDoor
