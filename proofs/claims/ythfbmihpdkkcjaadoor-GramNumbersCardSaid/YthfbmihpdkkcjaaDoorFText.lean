/-
  Package fault's Text on an error whose chain is known, with codes and positions below 100, by its contract. Conditions: errors.errorType holds the handle of the type error.
-/
import Derived.Test.YthfbmihpdkkcjaaDoorText
import Derived.Test.YthfbmihpdkkcjaaDoorChain
namespace Go.Proofs.YthfbmihpdkkcjaaDoor
open Go.RowKit Go.Extern.Stop Go.Stop Go.Extern

/-- one fault's text -/
def textOne (p : Int × Int) : List UInt8 := Lib.decDigits p.1.toNat ++ [64] ++ Lib.decDigits p.2.toNat
def textL : List (Int × Int) → List UInt8
  | [] => []
  | p :: r => textOne p ++ r.flatMap (fun q => 60 :: textOne q)
theorem textL_snoc : ∀ (l : List (Int × Int)) (p : Int × Int), textL (l ++ [p]) = textL l ++ (if l = [] then [] else [60]) ++ textOne p
  | [], p => by simp [textL]
  | q :: r, p => by simp [textL]
theorem small_ok (i : Nat) (h : i < 100) : (Lib.decDigits i).length ≤ 2 := by
  by_cases h1 : i < 10
  · rw [Lib.decDigits_one h1]; simp
  · rw [Lib.decDigits_two h1 h]; simp
/-- codes and positions below 100 -/
def SmallL (L : List (Int × Int)) : Prop := ∀ p ∈ L, ∃ c a : Nat, p = ((c : Int), (a : Int)) ∧ c < 100 ∧ a < 100
theorem textOne_len {p : Int × Int} (h : ∃ c a : Nat, p = ((c : Int), (a : Int)) ∧ c < 100 ∧ a < 100) : (textOne p).length ≤ 5 ∧ 1 ≤ (textOne p).length := by
  obtain ⟨c, a, rfl, hc, ha⟩ := h
  have h1 := small_ok c hc
  have h2 := small_ok a ha
  simp only [textOne, List.length_append, List.length_singleton, Int.toNat_natCast]
  omega
theorem textTake {L : List (Int × Int)} (hS : SmallL L) : ∀ i, i ≤ L.length → (textL (L.take i)).length ≤ 6 * i ∧ (0 < i → 1 ≤ (textL (L.take i)).length)
  | 0, _ => by simp [textL]
  | i + 1, h => by
    have ih := textTake hS i (by omega)
    have hm : L.getD i (0, 0) ∈ L := by simp [List.getD, show i < L.length by omega]
    have hl := textOne_len (hS _ hm)
    have e : L.take (i + 1) = L.take i ++ [L.getD i (0, 0)] := by
      rw [List.take_add_one]
      simp [List.getD, show i < L.length by omega]
    rw [e, textL_snoc, List.length_append, List.length_append]
    split
    · simp only [List.length_nil]
      omega
    · simp only [List.length_singleton]
      omega
def cellLen : Option Value → Nat
  | some (.slice _ n _) => n
  | _ => 0
theorem Bld.len {w : World} {B b : Nat} {l : List UInt8} (h : Bld w B b l) : cellLen (w.cell? ⟨b, 1, none⟩) = l.length := by
  have key : ∀ p, Lib.BuilderAt BT U8 B b p (Lib.byteCells l) w → cellLen (w.cell? ⟨b, 1, none⟩) = l.length := fun p ⟨_, v, hbk, hown, _⟩ => by
    rw [Lib.cell_of_heap hbk]
    have hl : (Lib.byteCells l).length = l.length := by simp [Lib.byteCells]
    rcases hown.2 with ⟨rfl, h0⟩ | ⟨g, cap, cur, rfl, _⟩
    · rw [← hl, h0]; rfl
    · rw [← hl]; rfl
  rcases h with h | h
  · exact key _ h
  · exact key _ h
theorem cut_list {L : List (Int × Int)} {i : Nat} (h : i < L.length) : ∃ p r, L.drop i = p :: r ∧ L.drop (i + 1) = r ∧ L.take (i + 1) = L.take i ++ [p] ∧ p ∈ L := by
  refine ⟨L[i], L.drop (i + 1), List.drop_eq_getElem_cons h, rfl, ?_, List.getElem_mem h⟩
  rw [List.take_add_one, List.getElem?_eq_getElem h]
  rfl

set_option maxRecDepth 100000 in
set_option linter.unusedSimpArgs false in
set_option maxHeartbeats 4000000 in
theorem fText {w : World} {v : Value} {L : List (Int × Int)} (hc : Chain w v L) (hG : HasErr w) (hL : L.length ≤ 1000000) (hS : SmallL L) : Calls Tryd.prog 15 #[v] w fun e w' => e = .returned (.string ⟨(textL L).toArray⟩) ∧ Below w.heap.size w w' := by
  obtain ⟨n, en⟩ : ∃ n, L.length = n := ⟨_, rfl⟩
  rw [en] at hL
  obtain ⟨TL, eTL⟩ : ∃ T, textL L = T := ⟨_, rfl⟩
  rw [eTL]
  obtain ⟨b, eb⟩ : ∃ b, w.heap.size = b := ⟨_, rfl⟩
  have hB0 : Below b w (w.alloc (.cells #[.pointer none, .slice none 0 0] 66)) := eb ▸ below_alloc w _
  have hF : Bld (w.alloc (.cells #[.pointer none, .slice none 0 0] 66)) b b [] := eb ▸ Lib.fresh_isBuilder BT U8 w
  have hsz0 : b ≤ (w.alloc (.cells #[.pointer none, .slice none 0 0] 66)).heap.size := by rw [← eb]; simp
  have H := Lib.hid (And.intro hc (And.intro hG (And.intro en (And.intro hS (And.intro hF (And.intro eb (And.intro hB0 (And.intro eTL hsz0))))))))
  clear hc hG en hS hF hB0 eTL hsz0
  go_enter Tryd.func15, Tryd.ntmps15
  go_wp2_with (go_at_call 21; refine (outer_any (H.out.1.below (below_alloc w _)) (H.out.2.1.below (below_alloc w _))).mono ?_; rintro e w1 ⟨rfl, hb1⟩; have HB := Lib.hid (And.intro (Bld.below H.out.2.2.2.2.1 hb1) (H.out.2.2.2.2.2.2.1.trans (hb1.mono H.out.2.2.2.2.2.2.2.2))); clear hb1)
  obtain ⟨p0, ep0⟩ : ∃ p, ptrOf v = p := ⟨_, rfl⟩
  rw [ep0]
  go_loopw [4] (fun f wz => ∃ (i : Nat) (u : Value), i ≤ n ∧ f = ptrOf u ∧ Chain w u (L.drop i) ∧ Bld wz b b (textL (L.take i)) ∧ Below b w wz) (fun _ wz => 6 * n + 1 - cellLen (wz.cell? ⟨b, 1, none⟩))
  case atStart => exact ⟨0, v, by omega, ep0.symm, H.out.1, HB.out.1, HB.out.2⟩
  case round =>
    obtain ⟨i, u, hin, rfl, hch, hbld, hbel⟩ := hrel
    by_cases hlt : i < n
    · obtain ⟨p, r, e1, e2, e3, hm⟩ := cut_list (L := L) (i := i) (by rw [H.out.2.2.1]; exact hlt)
      obtain ⟨c, a, ep, hc100, ha100⟩ := H.out.2.2.2.1 p hm
      rw [e1] at hch
      obtain ⟨g, u2, rfl, hblk, hch2⟩ := hch
      subst ep
      have hgl := hblk.lt
      rw [H.out.2.2.2.2.2.1] at hgl
      have k0 : w.cell? ⟨g, 0, none⟩ = some (.int .i64 (c : Int)) := by rw [hblk.cell]; rfl
      have k1 : w.cell? ⟨g, 1, none⟩ = some (.int .i64 (a : Int)) := by rw [hblk.cell]; rfl
      have k2 : w.cell? ⟨g, 2, none⟩ = some u2 := by rw [hblk.cell]; rfl
      have c0 : ∀ W, Below b w W → W.cell? ⟨g, 0, none⟩ = some (.int .i64 (c : Int)) := fun W h => (h.cell (p := ⟨g, 0, none⟩) hgl).trans k0
      have c1 : ∀ W, Below b w W → W.cell? ⟨g, 1, none⟩ = some (.int .i64 (a : Int)) := fun W h => (h.cell (p := ⟨g, 1, none⟩) hgl).trans k1
      have c2 : ∀ W, Below b w W → W.cell? ⟨g, 2, none⟩ = some u2 := fun W h => (h.cell (p := ⟨g, 2, none⟩) hgl).trans k2
      have htk := textTake H.out.2.2.2.1 i (by rw [H.out.2.2.1]; exact hin)
      obtain ⟨T, eT⟩ : ∃ T, textL (L.take i) = T := ⟨_, rfl⟩
      obtain ⟨dc, edc⟩ : ∃ d, Lib.decDigits c = d := ⟨_, rfl⟩
      obtain ⟨da, eda⟩ : ∃ d, Lib.decDigits a = d := ⟨_, rfl⟩
      have hit : ∀ W, Calls Tryd.prog 25 #[.int .i64 (c : Int)] W fun e w' => e = .returned (.string ⟨dc.toArray⟩) ∧ w' = W := fun W => edc ▸ itoa_small c hc100 W
      have hia : ∀ W, Calls Tryd.prog 25 #[.int .i64 (a : Int)] W fun e w' => e = .returned (.string ⟨da.toArray⟩) ∧ w' = W := fun W => eda ▸ itoa_small a ha100 W
      obtain ⟨sc, esc⟩ : ∃ s : ByteArray, (⟨dc.toArray⟩ : ByteArray) = s := ⟨_, rfl⟩
      obtain ⟨sa, esa⟩ : ∃ s : ByteArray, (⟨da.toArray⟩ : ByteArray) = s := ⟨_, rfl⟩
      rw [esc] at hit
      rw [esa] at hia
      have hdc : dc.length ≤ 2 := edc ▸ small_ok c hc100
      have hda : da.length ≤ 2 := eda ▸ small_ok a ha100
      have hscs : sc.size ≤ 2 := by rw [← esc]; exact hdc
      have hsas : sa.size ≤ 2 := by rw [← esa]; exact hda
      rw [eT] at hbld htk
      have hbw : b ≤ wr.heap.size := by have := hbel.size; rw [H.out.2.2.2.2.2.1] at this; exact this
      have hone : textOne ((c : Int), (a : Int)) = sc.data.toList ++ [64] ++ sa.data.toList := by rw [← esc, ← esa, ← edc, ← eda]; simp [textOne]
      have hT1 : T.length ≤ 6 * i := htk.1
      have hlt6 : 6 * i + 6 ≤ 6 * n := by omega
      have HE := Lib.hid (And.intro e2 (And.intro e3 (And.intro hch2 (And.intro hone (And.intro hbld (And.intro eT (And.intro hit (And.intro hia (And.intro hbw hbel)))))))))
      have HN := Lib.hid (And.intro hT1 (And.intro hlt6 (And.intro hscs hsas)))
      have hpo : ptrOf (.iface 67 (.pointer (some ⟨g, 0, none⟩))) = .pointer (some ⟨g, 0, none⟩) := rfl
      rw [hpo]
      clear e1 e2 e3 hch2 hone hbld eT hit hia hbw k0 k1 k2 hblk hm edc eda esc esa hdc hda hscs hsas hT1 hlt6 hlt hpo
      have bs0 : ∀ {W W' : World}, Below b w W → Below b W W' → Below b w W' := fun h k => h.trans k
      have sz : ∀ {W : World}, Below b w W → b ≤ W.heap.size := fun h => by have := h.size; rw [H.out.2.2.2.2.2.1] at this; exact this
      by_cases hi0 : i = 0
      · have hT0 : (T.length : Int) = 0 := by have := HN.out.1; omega
        have hlen := Lib.hid (bdLen b b T wr HE.out.2.2.2.2.1)
        rw [hT0] at hlen
        clear hT0
        go_wp2_with (first
          | (go_at_call 21; have hguard := hl5; clear hguard; refine (outer_any (HE.out.2.2.1.below (by rw [H.out.2.2.2.2.2.1]; exact hz5)) (H.out.2.1.below (by rw [H.out.2.2.2.2.2.1]; exact hz5))).mono ?_; rintro e w7 ⟨rfl, hb7⟩)
          | (go_at_call 24; have hguard := hl4; clear hguard; refine (bdString b b (T ++ sc.data.toList ++ [64]) sa _ (hl4) (by (try simp only [List.length_append, List.length_singleton]); have := HN.out; have h3 : sc.data.toList.length = sc.size := rfl; omega) (sz hz4)).mono ?_; rintro e w5 ⟨rfl, hl5, hk5⟩; have hz5 := bs0 hz4 hk5; clear hk5)
          | (go_at_call 23; have hguard := hl3; clear hguard; refine (bdByte b b (T ++ sc.data.toList) 64 64 rfl _ (hl3) (by (try simp only [List.length_append, List.length_singleton]); have := HN.out; have h3 : sc.data.toList.length = sc.size := rfl; omega) (sz hz3)).mono ?_; rintro e w4 ⟨rfl, hl4, hk4⟩; have hz4 := bs0 hz3 hk4; clear hk4)
          | (go_at_call 24; have hguard := HE.out.2.2.2.2.1; clear hguard; refine (bdString b b (T) sc _ (HE.out.2.2.2.2.1) (by (try simp only [List.length_append, List.length_singleton]); have := HN.out; have h3 : sc.data.toList.length = sc.size := rfl; omega) (sz HE.out.2.2.2.2.2.2.2.2.2)).mono ?_; rintro e w3 ⟨rfl, hl3, hk3⟩; have hz3 := bs0 HE.out.2.2.2.2.2.2.2.2.2 hk3; clear hk3)
          | (go_at_call 22; refine hlen.out.mono ?_; rintro e w1 ⟨rfl, rfl⟩)
          | (go_at_call 25; refine (HE.out.2.2.2.2.2.2.1 _).mono ?_; rintro e w6 ⟨rfl, rfl⟩)
          | (go_at_call 25; refine (HE.out.2.2.2.2.2.2.2.1 _).mono ?_; rintro e w6 ⟨rfl, rfl⟩)
          | fail)
        obtain ⟨pu, epu⟩ : ∃ x, ptrOf u2 = x := ⟨_, rfl⟩
        rw [epu]
        have hfin : textL (L.take (i + 1)) = T ++ sc.data.toList ++ [64] ++ sa.data.toList := by
          rw [HE.out.2.1, textL_snoc, HE.out.2.2.2.2.2.1, HE.out.2.2.2.1]
          rw [if_pos (by rw [hi0]; rfl)]
          simp
        go_roundw
        case rel => exact ⟨i + 1, u2, by have := HN.out; omega, epu.symm, by rw [HE.out.1]; exact HE.out.2.2.1, by rw [hfin]; exact hl5.below hb7, hz5.trans (hb7.mono (sz hz5))⟩
        case measure =>
          have h1 := (hl5.below hb7).len
          have h2 := HE.out.2.2.2.2.1.len
          rw [h1, h2]
          have := HN.out
          simp only [List.length_append, List.length_singleton]
          have h3 : sc.data.toList.length = sc.size := rfl
          have h4 : sa.data.toList.length = sa.size := rfl
          omega
      · have hT0 : ∃ q : Nat, (T.length : Int) = (q : Int) ∧ (0 : Int) < (q : Int) := ⟨T.length, rfl, by have := htk.2 (by omega); omega⟩
        obtain ⟨q, eq, hq⟩ := hT0
        have hlen := Lib.hid (bdLen b b T wr HE.out.2.2.2.2.1)
        rw [eq] at hlen
        have hq2 : (q : Int) > 0 := hq
        clear eq
        go_wp2_with (first
          | (go_at_call 21; have hguard := hl5; clear hguard; refine (outer_any (HE.out.2.2.1.below (by rw [H.out.2.2.2.2.2.1]; exact hz5)) (H.out.2.1.below (by rw [H.out.2.2.2.2.2.1]; exact hz5))).mono ?_; rintro e w7 ⟨rfl, hb7⟩)
          | (go_at_call 24; have hguard := hl4; clear hguard; refine (bdString b b (T ++ [60] ++ sc.data.toList ++ [64]) sa _ (hl4) (by (try simp only [List.length_append, List.length_singleton]); have := HN.out; have h3 : sc.data.toList.length = sc.size := rfl; omega) (sz hz4)).mono ?_; rintro e w5 ⟨rfl, hl5, hk5⟩; have hz5 := bs0 hz4 hk5; clear hk5)
          | (go_at_call 23; have hguard := hl3; clear hguard; refine (bdByte b b (T ++ [60] ++ sc.data.toList) 64 64 rfl _ (hl3) (by (try simp only [List.length_append, List.length_singleton]); have := HN.out; have h3 : sc.data.toList.length = sc.size := rfl; omega) (sz hz3)).mono ?_; rintro e w4 ⟨rfl, hl4, hk4⟩; have hz4 := bs0 hz3 hk4; clear hk4)
          | (go_at_call 24; have hguard := hl2; clear hguard; refine (bdString b b (T ++ [60]) sc _ (hl2) (by (try simp only [List.length_append, List.length_singleton]); have := HN.out; have h3 : sc.data.toList.length = sc.size := rfl; omega) (sz hz2)).mono ?_; rintro e w3 ⟨rfl, hl3, hk3⟩; have hz3 := bs0 hz2 hk3; clear hk3)
          | (go_at_call 23; have hguard := HE.out.2.2.2.2.1; clear hguard; refine (bdByte b b (T) 60 60 rfl _ (HE.out.2.2.2.2.1) (by (try simp only [List.length_append, List.length_singleton]); have := HN.out; have h3 : sc.data.toList.length = sc.size := rfl; omega) (sz HE.out.2.2.2.2.2.2.2.2.2)).mono ?_; rintro e w2 ⟨rfl, hl2, hk2⟩; have hz2 := bs0 HE.out.2.2.2.2.2.2.2.2.2 hk2; clear hk2)
          | (go_at_call 22; refine hlen.out.mono ?_; rintro e w1 ⟨rfl, rfl⟩)
          | (go_at_call 25; refine (HE.out.2.2.2.2.2.2.1 _).mono ?_; rintro e w6 ⟨rfl, rfl⟩)
          | (go_at_call 25; refine (HE.out.2.2.2.2.2.2.2.1 _).mono ?_; rintro e w6 ⟨rfl, rfl⟩)
          | fail)
        obtain ⟨pu, epu⟩ : ∃ x, ptrOf u2 = x := ⟨_, rfl⟩
        rw [epu]
        have hfin : textL (L.take (i + 1)) = T ++ [60] ++ sc.data.toList ++ [64] ++ sa.data.toList := by
          rw [HE.out.2.1, textL_snoc, HE.out.2.2.2.2.2.1, HE.out.2.2.2.1]
          rw [if_neg (by intro e; have h9 := congrArg List.length e; rw [List.length_take, H.out.2.2.1] at h9; simp at h9; omega)]
          simp
        go_roundw
        case rel => exact ⟨i + 1, u2, by have := HN.out; omega, epu.symm, by rw [HE.out.1]; exact HE.out.2.2.1, by rw [hfin]; exact hl5.below hb7, hz5.trans (hb7.mono (sz hz5))⟩
        case measure =>
          have h1 := (hl5.below hb7).len
          have h2 := HE.out.2.2.2.2.1.len
          rw [h1, h2]
          have := HN.out
          simp only [List.length_append, List.length_singleton]
          have h3 : sc.data.toList.length = sc.size := rfl
          have h4 : sa.data.toList.length = sa.size := rfl
          omega
    · obtain rfl : i = n := by omega
      have hnil : L.drop i = [] := List.drop_eq_nil_of_le (by rw [H.out.2.2.1]; exact Nat.le_refl _)
      rw [hnil] at hch
      have eu : u = .nilIface := hch
      subst eu
      have hpo : ptrOf .nilIface = .pointer none := rfl
      rw [hpo]
      rw [List.take_of_length_le (by rw [H.out.2.2.1]; exact Nat.le_refl _), H.out.2.2.2.2.2.2.2.1] at hbld
      have hst := Lib.hid (bdText b b TL wr hbld (by have := hbel.size; rw [H.out.2.2.2.2.2.1] at this; exact this))
      have HI := Lib.hid hbel
      clear hbel hbld
      go_wp2_with (go_at_call 26; refine hst.out.mono ?_; rintro e w9 ⟨rfl, hb9⟩)
      go_ret
      exact ⟨rfl, by rw [H.out.2.2.2.2.2.1]; exact HI.out.trans hb9⟩
end Go.Proofs.YthfbmihpdkkcjaaDoor
