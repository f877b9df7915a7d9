/-
  Package extent's functions and methods but Apart, by their contracts. Conditions: each theorem's own premises.
-/
import Derived.Test.YtdhaikcmgegfoaaExtRef3
import Derived.Test.YtdhaikcmgegfoaaDiskAwake
namespace Go.Proofs.Ytdhaikcmgegfoaa
open Go.RowKit

def extV (f c : Int) : Value := .agg #[.int .i64 f, .int .i64 c]
def placeN (f c k : Int) : Nat := match placeO f c k with | some _ => 0 | none => 4
theorem placeN_yes {f c k : Int} (h : ¬ (k < 0 ∨ c ≤ k ∨ MaxI < f + k)) : placeN f c k = 0 ∧ placeO f c k = some (f + k) := by unfold placeN placeO; rw [if_neg h]; exact ⟨rfl, rfl⟩
theorem placeN_no {f c k : Int} (h : k < 0 ∨ c ≤ k ∨ MaxI < f + k) : placeN f c k = 4 ∧ placeO f c k = none := by unfold placeN placeO; rw [if_pos h]; exact ⟨rfl, rfl⟩

set_option linter.unusedSimpArgs false in
theorem exLies1 (f c n : Int) (hf : isI f) (hc : isI c) (hn : isI n) (w : World) : Calls Try.prog 12 #[extV f c, .int .i64 n] w fun e w' => e = .returned (.bool (liesB f c n)) ∧ ∃ o, w' = w.alloc o := by
  obtain ⟨hf1, hf2⟩ := hf
  obtain ⟨hc1, hc2⟩ := hc
  obtain ⟨hn1, hn2⟩ := hn
  unfold extV
  go_enter Try.func12, Try.ntmps12
  by_cases h1 : 1 ≤ c
  · have a1 : c ≥ 1 := h1
    by_cases h2 : 0 ≤ f
    · have a2 : f ≥ 0 := h2
      by_cases h3 : f < n
      · have hw : IntKind.i64.wrap (n - f) = n - f := IntWalk.i64_in _ (by omega)
        by_cases h4 : c ≤ n - f
        · go_wp2_with fail
          go_ret
          exact ⟨by rw [liesB, decide_eq_true (by omega)]; rfl, _, rfl⟩
        · go_wp2_with fail
          go_ret
          exact ⟨by rw [liesB, decide_eq_false (by omega)]; rfl, _, rfl⟩
      · go_wp2_with fail
        go_ret
        exact ⟨by rw [liesB, decide_eq_false (by omega)]; rfl, _, rfl⟩
    · have a2 : ¬ f ≥ 0 := h2
      go_wp2_with fail
      go_ret
      exact ⟨by rw [liesB, decide_eq_false (by omega)]; rfl, _, rfl⟩
  · have a1 : ¬ c ≥ 1 := h1
    go_wp2_with fail
    go_ret
    exact ⟨by rw [liesB, decide_eq_false (by omega)]; rfl, _, rfl⟩
theorem exLies (f c n : Int) (hf : isI f) (hc : isI c) (hn : isI n) (w : World) : Calls Try.prog 12 #[extV f c, .int .i64 n] w fun e w' => e = .returned (.bool (liesB f c n)) ∧ Below w.heap.size w w' :=
  (exLies1 f c n hf hc hn w).mono fun _ _ ⟨h, _, e⟩ => ⟨h, e ▸ below_alloc w _⟩

/-- what Place answers -/
def PlPost (w : World) (n : Nat) (o : Option Int) (e : Ending) (w' : World) : Prop := (∃ z, e = .returned (.tuple #[.int .i64 z, .int .i64 (n : Int)]) ∧ ∀ y, o = some y → z = y) ∧ Below w.heap.size w w'
set_option linter.unusedSimpArgs false in
theorem exPlace1 (f c k : Int) (hf : isI f) (hc : isI c) (hk : isI k) (w : World) : Calls Try.prog 11 #[extV f c, .int .i64 k] w (PlPost w (placeN f c k) (placeO f c k)) := by
  obtain ⟨hf1, hf2⟩ := hf
  obtain ⟨hc1, hc2⟩ := hc
  obtain ⟨hk1, hk2⟩ := hk
  unfold extV
  go_enter Try.func11, Try.ntmps11
  by_cases h1 : k < 0
  · obtain ⟨e1, e2⟩ := placeN_no (f := f) (c := c) (.inl h1)
    rw [e1, e2]
    go_wp2_with fail
    go_ret2
    exact ⟨⟨_, rfl, fun y h => by cases h⟩, below_alloc w _⟩
  · by_cases h2 : c ≤ k
    · obtain ⟨e1, e2⟩ := placeN_no (f := f) (.inr (.inl h2))
      rw [e1, e2]
      have a2 : k ≥ c := h2
      go_wp2_with fail
      go_ret2
      exact ⟨⟨_, rfl, fun y h => by cases h⟩, below_alloc w _⟩
    · have a2 : ¬ k ≥ c := h2
      have hw : IntKind.i64.wrap (9223372036854775807 - k) = 9223372036854775807 - k := IntWalk.i64_in _ (by omega)
      by_cases h3 : 9223372036854775807 - k < f
      · obtain ⟨e1, e2⟩ := placeN_no (f := f) (c := c) (k := k) (.inr (.inr (show MaxI < f + k by unfold MaxI; omega)))
        rw [e1, e2]
        have a3 : f > 9223372036854775807 - k := h3
        go_wp2_with fail
        go_ret2
        exact ⟨⟨_, rfl, fun y h => by cases h⟩, below_alloc w _⟩
      · obtain ⟨e1, e2⟩ := placeN_yes (f := f) (c := c) (k := k) (by unfold MaxI; omega)
        rw [e1, e2]
        have a3 : ¬ f > 9223372036854775807 - k := h3
        have hw2 : IntKind.i64.wrap (f + k) = f + k := IntWalk.i64_in _ (by omega)
        go_wp2_with fail
        go_ret2
        exact ⟨⟨_, rfl, fun y h => by cases h; rfl⟩, below_alloc w _⟩
theorem exPlace (f c k : Int) (hf : isI f) (hc : isI c) (hk : isI k) (w : World) : Calls Try.prog 11 #[extV f c, .int .i64 k] w fun e w' => (∃ z, e = .returned (.tuple #[.int .i64 z, .int .i64 (placeN f c k : Nat)]) ∧ ∀ y, placeO f c k = some y → z = y) ∧ Below w.heap.size w w' := exPlace1 f c k hf hc hk w

def partRead (m : Dk) (f c k : Int) : List UInt8 × Nat := match placeO f c k with | some z => m.read z | none => ([], 4)
def partWrite (m : Dk) (f c k : Int) (b : List UInt8) : Dk × Nat := match placeO f c k with | some z => m.write z b | none => (m, 4)
/-- block gp is a part, with From f and Count c, of the disk in block gd -/
def PartIs (w : World) (gp gd : Nat) (f c : Int) : Prop := Blk w gp 87 #[.int .i64 f, .int .i64 c, .pointer (some ⟨gd, 0, none⟩)]
theorem PartIs.lt {w : World} {gp gd : Nat} {f c : Int} (h : PartIs w gp gd f c) : gp < w.heap.size := Blk.lt h
theorem PartIs.keep {w w' : World} {gp gd : Nat} {f c : Int} {G : Nat → Prop} (h : PartIs w gp gd f c) (hk : Kept G w w') (hG : ¬ G gp) : PartIs w' gp gd f c := hk.blk h hG
theorem PartIs.below {w w' : World} {gp gd : Nat} {f c : Int} (h : PartIs w gp gd f c) (hb : Below w.heap.size w w') : PartIs w' gp gd f c := Blk.below h hb h.lt
theorem PartIs.c0 {w : World} {gp gd : Nat} {f c : Int} (h : PartIs w gp gd f c) : w.cell? ⟨gp, 0, none⟩ = some (.int .i64 f) := by rw [Blk.cell h]; rfl
theorem PartIs.c1 {w : World} {gp gd : Nat} {f c : Int} (h : PartIs w gp gd f c) : w.cell? ⟨gp, 1, none⟩ = some (.int .i64 c) := by rw [Blk.cell h]; rfl
theorem PartIs.c2 {w : World} {gp gd : Nat} {f c : Int} (h : PartIs w gp gd f c) : w.cell? ⟨gp, 2, none⟩ = some (.pointer (some ⟨gd, 0, none⟩)) := by rw [Blk.cell h]; rfl
/-- what New, and Part, answer -/
def NewPart (w : World) (gd : Nat) (yes : Bool) (f c : Int) (e : Ending) (w' : World) : Prop :=
  Below w.heap.size w w' ∧ ((yes = true ∧ ∃ gp, e = .returned (.tuple #[.pointer (some ⟨gp, 0, none⟩), .int .i64 0]) ∧ PartIs w' gp gd f c ∧ w.heap.size ≤ gp) ∨ (yes = false ∧ e = .returned (.tuple #[.pointer none, .int .i64 1])))

theorem ptSize1 (w : World) (gp gd : Nat) (f c : Int) (h : PartIs w gp gd f c) : Calls Try.prog 17 #[.pointer (some ⟨gp, 0, none⟩)] w fun e w' => e = .returned (.int .i64 c) ∧ w = w' := by
  have h1 := h.c1
  clear h
  go_enter Try.func17, Try.ntmps17
  go_wp2_with fail
  go_ret
  exact ⟨rfl, rfl⟩
theorem ptSize (w : World) (gp gd : Nat) (f c : Int) (h : PartIs w gp gd f c) : Calls Try.prog 17 #[.pointer (some ⟨gp, 0, none⟩)] w fun e w' => e = .returned (.int .i64 c) ∧ Below w.heap.size w w' :=
  (ptSize1 w gp gd f c h).mono fun _ _ ⟨h, e⟩ => ⟨h, e ▸ Below.refl _ _⟩

theorem blk_new2 (w : World) (o1 o2 : Obj) (t : TypeId) (cs : Array Value) : Blk (((w.alloc o1).alloc o2).alloc (.cells cs t)) (w.heap.size + 1 + 1) t cs := by
  have h := Blk.new ((w.alloc o1).alloc o2) t cs
  rwa [show ((w.alloc o1).alloc o2).heap.size = w.heap.size + 1 + 1 by simp] at h
set_option maxHeartbeats 1000000 in
theorem exNew (w : World) (gd : Nat) (F : Nat → Prop) (m : Dk) (h : CodeIs w gd F m) (f c : Int) (hf : isI f) (hc : isI c) : Calls Try.prog 15 #[.pointer (some ⟨gd, 0, none⟩), extV f c] w (NewPart w gd (liesB f c m.has.length) f c) := by
  have hsz := fun W (hb : Below w.heap.size w W) => dkSize W gd F m (h.below hb)
  have hln := h.ok.small
  obtain ⟨n, en⟩ : ∃ n, m.has.length = n := ⟨_, rfl⟩
  rw [en] at hln
  have hl := fun w => exLies1 f c n hf hc ⟨by omega, by omega⟩ w
  rw [en] at hsz
  rw [en]
  have HS := Lib.hid (And.intro hsz hl)
  clear hsz hl h en hln
  cases hy : liesB f c n
  · rw [hy] at HS
    unfold extV at HS ⊢
    go_enter Try.func15, Try.ntmps15
    go_wp2_with fail
    go_region_with (first
      | (go_at_call 42; refine (HS.out.1 _ (below_alloc w _).drew).mono ?_; rintro e w1 ⟨rfl, rfl⟩)
      | (go_at_call 12; refine (HS.out.2 _).mono ?_; rintro e w1 ⟨rfl, o1, rfl⟩))
    all_goals
      go_wp2_with fail
      go_ret2
      exact ⟨(Below.alloc (below_alloc w _) (by simp) _).drew, .inr ⟨rfl, rfl⟩⟩
  · rw [hy] at HS
    unfold extV at HS ⊢
    go_enter Try.func15, Try.ntmps15
    go_wp2_with fail
    go_region_with (first
      | (go_at_call 42; refine (HS.out.1 _ (below_alloc w _).drew).mono ?_; rintro e w1 ⟨rfl, rfl⟩)
      | (go_at_call 12; refine (HS.out.2 _).mono ?_; rintro e w1 ⟨rfl, o1, rfl⟩))
    all_goals
      go_wp2_with fail
      go_ret2
      exact ⟨(Below.alloc (Below.alloc (below_alloc w _) (by simp) _) (by simp; omega) _).drew, .inl ⟨rfl, _, rfl, (blk_new2 w _ _ _ _).drewN 1, by omega⟩⟩

theorem ptFlush (w : World) (gp gd : Nat) (f c : Int) (F : Nat → Prop) (m : Dk) (hp : PartIs w gp gd f c) (h : CodeIs w gd F m) (hw : m.waits.length ≤ 1000000) :
    Calls Try.prog 25 #[.pointer (some ⟨gp, 0, none⟩)] w (CodePost w gd F m.flush.1 (.int .i64 (m.flush.2 : Nat))) := by
  have h2 := hp.c2
  have hc := Lib.hid (dkFlush w gd F m h (by omega))
  clear hp h hw
  go_enter Try.func25, Try.ntmps25
  go_wp2_with (go_at_call 45; refine hc.out.mono ?_; rintro e w1 ⟨rfl, h1, hk⟩)
  go_ret
  exact ⟨rfl, F, h1, hk, fun g hg => .inl hg⟩

set_option maxHeartbeats 1000000 in
theorem ptRead (w : World) (gp gd : Nat) (f c : Int) (F : Nat → Prop) (m : Dk) (hp : PartIs w gp gd f c) (h : CodeIs w gd F m) (hw : m.waits.length ≤ 1000000) (hf : isI f) (hc : isI c) (k : Int) (hk : isI k) :
    Calls Try.prog 23 #[.pointer (some ⟨gp, 0, none⟩), .int .i64 k] w (DkOwn w (partRead m f c k)) := by
  have h0 := hp.c0
  have h1 := hp.c1
  have HP := Lib.hid (And.intro hp h)
  have hpl := exPlace f c k hf hc hk w
  unfold extV at hpl
  cases hz : placeO f c k
  · have e1 : placeN f c k = 4 := by unfold placeN; rw [hz]
    have e2 : partRead m f c k = ([], 4) := by unfold partRead; rw [hz]
    rw [e1] at hpl
    rw [e2]
    have HL := Lib.hid hpl
    clear hp h hpl e1 e2
    go_enter Try.func23, Try.ntmps23
    go_wp2_with (go_at_call 11; refine HL.out.mono ?_; rintro e w1 ⟨⟨z, rfl, _⟩, hb⟩)
    go_ret2
    exact ⟨_, rfl, Own.nil_ _ _ _, hb⟩
  · rename_i z
    have e1 : placeN f c k = 0 := by unfold placeN; rw [hz]
    have e2 : partRead m f c k = m.read z := by unfold partRead; rw [hz]
    rw [e1, hz] at hpl
    rw [e2]
    have HL := Lib.hid hpl
    clear hp h hpl e1 e2
    go_enter Try.func23, Try.ntmps23
    go_wp2_with (first
      | (go_at_call 11; refine HL.out.mono ?_; rintro e w1 ⟨⟨z1, rfl, hz1⟩, hb⟩; have hz2 := hz1 z rfl; subst hz2; clear hz1; have h2 := (HP.out.1.below hb).c2)
      | (go_at_call 34; refine (dkRead _ gd F m (HP.out.2.below hb) hw _).mono ?_; rintro e w2 ⟨v, rfl, ho, hb2⟩))
    go_ret2
    exact ⟨v, rfl, ho.mono hb.size, hb.trans (hb2.mono hb.size)⟩

set_option maxHeartbeats 1000000 in
theorem ptWrite (w : World) (gp gd : Nat) (f c : Int) (F : Nat → Prop) (m : Dk) (hp : PartIs w gp gd f c) (h : CodeIs w gd F m) (hw : m.waits.length ≤ 1000000) (hf : isI f) (hc : isI c) (k : Int) (hk : isI k) (A : Option Addr) (b : List UInt8) (cb : Nat) (hA : Held w F A b) :
    Calls Try.prog 21 #[.pointer (some ⟨gp, 0, none⟩), .int .i64 k, .slice A b.length cb] w (CodePost w gd F (partWrite m f c k b).1 (.int .i64 ((partWrite m f c k b).2 : Nat))) := by
  have h0 := hp.c0
  have h1 := hp.c1
  have HP := Lib.hid (And.intro hp (And.intro h hA))
  have hpl := exPlace f c k hf hc hk w
  unfold extV at hpl
  cases hz : placeO f c k
  · have e1 : placeN f c k = 4 := by unfold placeN; rw [hz]
    have e2 : partWrite m f c k b = (m, 4) := by unfold partWrite; rw [hz]
    rw [e1] at hpl
    rw [e2]
    have HL := Lib.hid hpl
    clear hp h hA hpl e1 e2
    go_enter Try.func21, Try.ntmps21
    go_wp2_with (go_at_call 11; refine HL.out.mono ?_; rintro e w1 ⟨⟨z, rfl, _⟩, hb⟩)
    go_ret
    exact ⟨rfl, F, HP.out.2.1.below hb, .of_below hb, fun g hg => .inl hg⟩
  · rename_i z
    have e1 : placeN f c k = 0 := by unfold placeN; rw [hz]
    have e2 : partWrite m f c k b = m.write z b := by unfold partWrite; rw [hz]
    rw [e1, hz] at hpl
    rw [e2]
    have HL := Lib.hid hpl
    clear hp h hA hpl e1 e2
    go_enter Try.func21, Try.ntmps21
    go_wp2_with (first
      | (go_at_call 11; refine HL.out.mono ?_; rintro e w1 ⟨⟨z1, rfl, hz1⟩, hb⟩; have hz2 := hz1 z rfl; subst hz2; clear hz1; have h2 := (HP.out.1.below hb).c2)
      | (go_at_call 32; refine (dkWrite _ gd F m (HP.out.2.1.below hb) hw _ A b cb (HP.out.2.2.below hb).1 (HP.out.2.2.below hb).2).mono ?_; rintro e w2 ⟨rfl, F', h', hk', hF'⟩))
    go_ret
    exact ⟨rfl, F', h', (Kept.of_below hb).trans hk' (fun g hg => .inl hg), fun g hg => (hF' g hg).imp id (fun h => Nat.le_trans hb.size h)⟩

set_option maxHeartbeats 1000000 in
theorem ptImage (w : World) (gp gd : Nat) (f c : Nat) (F : Nat → Prop) (m : Dk) (hp : PartIs w gp gd f c) (h : CodeIs w gd F m) (hfc : f + c ≤ m.has.length) :
    Calls Try.prog 27 #[.pointer (some ⟨gp, 0, none⟩)] w (OwnPost w ((m.has.drop f).take c).flatten) := by
  have hok := h.ok
  have hln := hok.small
  have h1 := hp.c1
  obtain ⟨i0, hi0, hz0, hz1, hz2⟩ := info_parts u8info
  have H := Lib.hid (And.intro hp (And.intro h (And.intro hok hfc)))
  clear hp h hok
  go_enter Try.func27, Try.ntmps27
  go_wp2_with fail
  go_loopw [3, 12] (fun v i wz => ∃ k : Nat, k ≤ c ∧ i = .int .i64 (k : Int) ∧ Own wz w.heap.size 5 v ((m.has.drop f).take k).flatten ∧ Below w.heap.size w wz) (fun _ i _ => c - (intOf i).toNat)
  case atStart => exact ⟨0, by omega, rfl, Own.nil_ _ _ _, Below.refl _ _⟩
  case round =>
    obtain ⟨k, hk, rfl, hown, hbel⟩ := hrel
    by_cases hlt : k < c
    · have hki : (k : Int) < (c : Int) := by omega
      have hk0 : (0 : Int) ≤ (k : Int) := by omega
      have hc0 := (H.out.1.below hbel).c0
      have hc2 := (H.out.1.below hbel).c2
      have hin : inside m ((f : Int) + (k : Int)) = true := by simp [inside]; omega
      obtain ⟨L, eL⟩ : ∃ L, m.has.getD (f + k) [] = L := ⟨_, rfl⟩
      have hha : m.hasAt ((f : Int) + (k : Int)) = (L, 0) := by
        unfold Dk.hasAt
        rw [if_pos hin, show ((f : Int) + (k : Int)).toNat = f + k by omega, eL]
      have hL : L.length = 64 := eL ▸ getD_len H.out.2.2.1.len (by omega)
      have hstep : ((m.has.drop f).take (k + 1)).flatten = ((m.has.drop f).take k).flatten ++ L := by
        rw [flat_take _ _ (by rw [List.length_drop]; omega), ← eL]
        simp [List.getD]
      have hlen := flat_take_len (h := m.has.drop f) (fun s hs => H.out.2.2.1.len s (List.mem_of_mem_drop hs)) k
      obtain ⟨M, eM⟩ : ∃ M, ((m.has.drop f).take k).flatten = M := ⟨_, rfl⟩
      rw [eM] at hown hstep hlen
      have hhas := dkHas wr.drew gd F m (H.out.2.1.below hbel.drew) ((f : Int) + (k : Int))
      rw [hha] at hhas
      have hw : IntKind.i64.wrap ((f : Int) + (k : Int)) = (f : Int) + (k : Int) := IntWalk.i64_in _ (by omega)
      have HH := Lib.hid hhas
      have HO := Lib.hid (And.intro hown (And.intro hbel (And.intro hstep (And.intro hL hlen))))
      clear hhas hown hbel hstep hL hlen eM eL hha hin
      go_wp2_with fail
      go_region_with (go_at_call 46; refine HH.out.mono ?_; rintro e w2 ⟨v2, rfl, ho2, hb2⟩; obtain ⟨A2, c2, rfl, hbs2, _⟩ := ho2.slice; have HB := Lib.hid (And.intro hbs2 (below_undr hb2)); clear hbs2 hb2 ho2)
      all_goals
        go_wp2_with (at_builtin; refine wpList_append_bytes _ rfl (.tmp 30) (.tmp 31) 57 rfl w.heap.size 5 i0 (.int .u8 0) Try.underlying57 hi0 hz0 hz1 hz2 rfl _ M rfl (HO.out.1.below HB.out.2) w2.heap.size A2 c2 L rfl HB.out.1 (by have := HO.out.2.2.2; omega) (Nat.le_trans HO.out.2.1.size HB.out.2.size) ?_; intro v3 w3 hown3 hg3 _)
        go_roundw
        case rel => exact ⟨k + 1, by omega, by go_num, by rw [HO.out.2.2.1]; exact hown3, (HO.out.2.1.trans (HB.out.2.mono HO.out.2.1.size)).grown hg3 (Nat.le_trans HO.out.2.1.size HB.out.2.size) (fun g hg => (World.ownsRow.lt (HO.out.1.below HB.out.2) g hg).1)⟩
        case measure => simp [intOf]; omega
    · obtain rfl : k = c := by omega
      have hnl : ¬ (k : Int) < (k : Int) := by omega
      go_wp2_with fail
      go_ret
      exact ⟨_, rfl, hown, hbel⟩

theorem liesB_true {f c n : Int} : liesB f c n = true ↔ 1 ≤ c ∧ 0 ≤ f ∧ f + c ≤ n := by simp [liesB]
/-- New's answer where the extent lies on the disk -/
def MadePart (w : World) (gd : Nat) (f c : Int) (e : Ending) (w' : World) : Prop := ∃ gp, e = .returned (.tuple #[.pointer (some ⟨gp, 0, none⟩), .int .i64 0]) ∧ Below w.heap.size w w' ∧ PartIs w' gp gd f c ∧ w.heap.size ≤ gp
theorem NewPart.made {w w' : World} {gd : Nat} {f c : Int} {e : Ending} (h : NewPart w gd true f c e w') : MadePart w gd f c e w' := by
  obtain ⟨hb, ⟨_, gp, he, hp, hg⟩ | ⟨h, _⟩⟩ := h
  · exact ⟨gp, he, hb, hp, hg⟩
  · cases h
theorem MadePart.new {w0 w w' : World} {gd : Nat} {f c : Int} {e : Ending} (h : MadePart w gd f c e w') (hb : Below w0.heap.size w0 w) : NewPart w0 gd true f c e w' := by
  obtain ⟨gp, he, hb', hp, hg⟩ := h
  exact ⟨hb.trans (hb'.mono hb.size), .inl ⟨rfl, gp, he, hp, Nat.le_trans hb.size hg⟩⟩
theorem keepS {w w' : World} {a b : Nat} {x y z u : Option Value} (h : w.cell? ⟨a, 0, none⟩ = x ∧ w.cell? ⟨a, 2, none⟩ = y ∧ w.cell? ⟨b, 0, none⟩ = z ∧ w.cell? ⟨b, 1, none⟩ = u) (hb : Below w.heap.size w w') (ha : a < w.heap.size) (hb2 : b < w.heap.size) :
    w'.cell? ⟨a, 0, none⟩ = x ∧ w'.cell? ⟨a, 2, none⟩ = y ∧ w'.cell? ⟨b, 0, none⟩ = z ∧ w'.cell? ⟨b, 1, none⟩ = u :=
  ⟨(hb.cell (p := ⟨a, 0, none⟩) ha).trans h.1, (hb.cell (p := ⟨a, 2, none⟩) ha).trans h.2.1, (hb.cell (p := ⟨b, 0, none⟩) hb2).trans h.2.2.1, (hb.cell (p := ⟨b, 1, none⟩) hb2).trans h.2.2.2⟩

set_option maxRecDepth 100000 in
set_option maxHeartbeats 4000000 in
set_option linter.unusedSimpArgs false in
theorem ptPart (w : World) (gp gd : Nat) (f c : Int) (F : Nat → Prop) (m : Dk) (hp : PartIs w gp gd f c) (h : CodeIs w gd F m) (hfc : liesB f c m.has.length = true) (g d : Int) (hg : isI g) (hd : isI d) :
    Calls Try.prog 36 #[.pointer (some ⟨gp, 0, none⟩), extV g d] w (NewPart w gd (liesB g d c) (f + g) d) := by
  have hln := h.ok.small
  obtain ⟨hc1, hf0, hfcn⟩ := liesB_true.1 hfc
  have hci : isI c := ⟨by omega, by omega⟩
  have hsz := fun W (hb : Below w.heap.size w W) => ptSize1 W gp gd f c (hp.below hb)
  have hl := fun W => exLies g d c hg hd hci W
  have hnew : liesB g d c = true → ∀ W, Below w.heap.size w W → Calls Try.prog 15 #[.pointer (some ⟨gd, 0, none⟩), extV (f + g) d] W (MadePart W gd (f + g) d) := fun hy W hb => by
    obtain ⟨hd1, hg0, hgd⟩ := liesB_true.1 hy
    have := exNew W gd F m (h.below hb) (f + g) d ⟨by omega, by omega⟩ hd
    rw [show liesB (f + g) d m.has.length = true from liesB_true.2 ⟨hd1, by omega, by omega⟩] at this
    exact this.mono fun _ _ h => h.made
  have HP := Lib.hid hp
  unfold extV at hl hnew ⊢
  go_enter Try.func36, Try.ntmps36
  go_wp2_with (first | (with_reducible refine st_box 25 ?_; refine stopped ?_) | fail)
  refine go_on ?_
  refine wpList_box rfl 25 (.tmp 1) rfl #[.int .i64 g, .int .i64 d] rfl ?_
  intro w1 hb1 hw1 hz1
  simp only [Act.put, List.setIfInBounds_toArray, List.set_cons_zero, List.set_cons_succ]
  obtain ⟨gx, e1⟩ : ∃ g, w.heap.size = g := ⟨_, rfl⟩
  have hgx : gx < w1.drew.heap.size := e1 ▸ hb1.lt
  have hgp : gp < w1.drew.heap.size := Nat.lt_of_lt_of_le HP.out.lt hw1.size
  rw [e1] at hb1 ⊢
  have hS1 : (fun w' => w'.cell? ⟨gp, 0, none⟩ = some (.int .i64 f) ∧ w'.cell? ⟨gp, 2, none⟩ = some (.pointer (some ⟨gd, 0, none⟩)) ∧ w'.cell? ⟨gx, 0, none⟩ = some (.int .i64 g) ∧ w'.cell? ⟨gx, 1, none⟩ = some (.int .i64 d)) w1.drew := ⟨(HP.out.below hw1).c0, (HP.out.below hw1).c2, (by rw [show w1.drew.cell? = w1.cell? from rfl, hb1.cell]; rfl), (by rw [show w1.drew.cell? = w1.cell? from rfl, hb1.cell]; rfl)⟩
  have H1 := Lib.hid (And.intro hb1 hw1)
  clear hb1 hw1 hz1 hp h
  cases hy : liesB g d c
  · rw [hy] at hl
    have HS := Lib.hid (And.intro hsz (And.intro hl hnew))
    clear hsz hl hnew
    go_wp2_with fail
    refine wp_region_held_drew (S := fun w' => w'.cell? ⟨gp, 0, none⟩ = some (.int .i64 f) ∧ w'.cell? ⟨gp, 2, none⟩ = some (.pointer (some ⟨gd, 0, none⟩)) ∧ w'.cell? ⟨gx, 0, none⟩ = some (.int .i64 g) ∧ w'.cell? ⟨gx, 1, none⟩ = some (.int .i64 d)) (by kernel_rfl) hS1 (fun hHeld => ?_)
    refine wpAnyH_take (i := 0) (v := ?_) (List.getElem?_toArray.trans (List.getElem?_cons_zero)) (by kernel_rfl) (by kernel_rfl) (by kernel_rfl) (fun _ _ _ h => h) (Or.inl ⟨by rfl, ?_⟩) (by assumption) ?_
    rotate_left
    · intro w' hSw; (try dsimp only at hSw); go_simp; try with_reducible rfl
    try simp only [Act.put, List.setIfInBounds_toArray, List.set_cons_zero, List.set_cons_succ]
    refine wpAnyH_take (i := 1) (v := ?_) (List.getElem?_toArray.trans (List.getElem?_cons_succ.trans (List.getElem?_cons_zero))) (by kernel_rfl) (by kernel_rfl) (by kernel_rfl) (fun _ _ _ h => h) (Or.inl ⟨by rfl, ?_⟩) (by assumption) ?_
    rotate_left
    · intro w' hSw; (try dsimp only at hSw); go_simp; try with_reducible rfl
    try simp only [Act.put, List.setIfInBounds_toArray, List.set_cons_zero, List.set_cons_succ]
    refine wpAnyH_ready (rs := [2]) (by kernel_rfl) (by simp) ?_
    refine AllReadyH.cons (List.getElem?_toArray.trans (List.getElem?_cons_succ.trans (List.getElem?_cons_succ.trans (List.getElem?_cons_zero)))) (fun K hK => ?_) AllReadyH.nil
    go_simp
    go_at_call 17
    refine (HS.out.1 _ H1.out.2.drew).mono ?_
    rintro e w2 ⟨rfl, rfl⟩
    refine hK.out _ _ hS1 (fun hHeld => ?_)
    clear hK K
    try simp only [Act.put, List.setIfInBounds_toArray, List.set_cons_zero, List.set_cons_succ]
    refine wpAnyH_ready (rs := [3]) (by kernel_rfl) (by simp) ?_
    refine AllReadyH.cons (List.getElem?_toArray.trans (List.getElem?_cons_succ.trans (List.getElem?_cons_succ.trans (List.getElem?_cons_succ.trans (List.getElem?_cons_zero))))) (fun K hK => ?_) AllReadyH.nil
    go_simp
    go_at_call 12
    refine (HS.out.2.1 _).mono ?_
    rintro e w2 ⟨rfl, hb2⟩
    have hS2 := keepS hS1 hb2 hgp hgx
    refine hK.out _ _ hS2 (fun hHeld => ?_)
    clear hK K
    try simp only [Act.put, List.setIfInBounds_toArray, List.set_cons_zero, List.set_cons_succ]
    refine wpAnyH_take (i := 4) (v := ?_) (List.getElem?_toArray.trans (List.getElem?_cons_succ.trans (List.getElem?_cons_succ.trans (List.getElem?_cons_succ.trans (List.getElem?_cons_succ.trans (List.getElem?_cons_zero)))))) (by kernel_rfl) (by kernel_rfl) (by kernel_rfl) (fun _ _ _ h => h) (Or.inl ⟨by rfl, ?_⟩) (by assumption) ?_
    rotate_left
    · intro w' hSw; (try dsimp only at hSw); go_simp; try with_reducible rfl
    try simp only [Act.put, List.setIfInBounds_toArray, List.set_cons_zero, List.set_cons_succ]
    refine wpAnyH_done (by kernel_rfl) ?_ _
    go_wp2_with fail
    go_ret2
    exact ⟨e1 ▸ H1.out.2.drew.trans (hb2.mono H1.out.2.size), .inr ⟨hy, rfl⟩⟩
  · rw [hy] at hl
    obtain ⟨hd1, hg0, hgd⟩ := liesB_true.1 hy
    have hw : IntKind.i64.wrap (f + g) = f + g := IntWalk.i64_in _ (by omega)
    have HS := Lib.hid (And.intro hsz (And.intro hl (hnew hy)))
    clear hsz hl hnew
    go_wp2_with fail
    refine wp_region_held_drew (S := fun w' => w'.cell? ⟨gp, 0, none⟩ = some (.int .i64 f) ∧ w'.cell? ⟨gp, 2, none⟩ = some (.pointer (some ⟨gd, 0, none⟩)) ∧ w'.cell? ⟨gx, 0, none⟩ = some (.int .i64 g) ∧ w'.cell? ⟨gx, 1, none⟩ = some (.int .i64 d)) (by kernel_rfl) hS1 (fun hHeld => ?_)
    refine wpAnyH_take (i := 0) (v := ?_) (List.getElem?_toArray.trans (List.getElem?_cons_zero)) (by kernel_rfl) (by kernel_rfl) (by kernel_rfl) (fun _ _ _ h => h) (Or.inl ⟨by rfl, ?_⟩) (by assumption) ?_
    rotate_left
    · intro w' hSw; (try dsimp only at hSw); go_simp; try with_reducible rfl
    try simp only [Act.put, List.setIfInBounds_toArray, List.set_cons_zero, List.set_cons_succ]
    refine wpAnyH_take (i := 1) (v := ?_) (List.getElem?_toArray.trans (List.getElem?_cons_succ.trans (List.getElem?_cons_zero))) (by kernel_rfl) (by kernel_rfl) (by kernel_rfl) (fun _ _ _ h => h) (Or.inl ⟨by rfl, ?_⟩) (by assumption) ?_
    rotate_left
    · intro w' hSw; (try dsimp only at hSw); go_simp; try with_reducible rfl
    try simp only [Act.put, List.setIfInBounds_toArray, List.set_cons_zero, List.set_cons_succ]
    refine wpAnyH_ready (rs := [2]) (by kernel_rfl) (by simp) ?_
    refine AllReadyH.cons (List.getElem?_toArray.trans (List.getElem?_cons_succ.trans (List.getElem?_cons_succ.trans (List.getElem?_cons_zero)))) (fun K hK => ?_) AllReadyH.nil
    go_simp
    go_at_call 17
    refine (HS.out.1 _ H1.out.2.drew).mono ?_
    rintro e w2 ⟨rfl, rfl⟩
    refine hK.out _ _ hS1 (fun hHeld => ?_)
    clear hK K
    try simp only [Act.put, List.setIfInBounds_toArray, List.set_cons_zero, List.set_cons_succ]
    refine wpAnyH_ready (rs := [3]) (by kernel_rfl) (by simp) ?_
    refine AllReadyH.cons (List.getElem?_toArray.trans (List.getElem?_cons_succ.trans (List.getElem?_cons_succ.trans (List.getElem?_cons_succ.trans (List.getElem?_cons_zero))))) (fun K hK => ?_) AllReadyH.nil
    go_simp
    go_at_call 12
    refine (HS.out.2.1 _).mono ?_
    rintro e w2 ⟨rfl, hb2⟩
    have hS2 := keepS hS1 hb2 hgp hgx
    refine hK.out _ _ hS2 (fun hHeld => ?_)
    clear hK K
    try simp only [Act.put, List.setIfInBounds_toArray, List.set_cons_zero, List.set_cons_succ]
    refine wpAnyH_take (i := 4) (v := ?_) (List.getElem?_toArray.trans (List.getElem?_cons_succ.trans (List.getElem?_cons_succ.trans (List.getElem?_cons_succ.trans (List.getElem?_cons_succ.trans (List.getElem?_cons_zero)))))) (by kernel_rfl) (by kernel_rfl) (by kernel_rfl) (fun _ _ _ h => h) (Or.inl ⟨by rfl, ?_⟩) (by assumption) ?_
    rotate_left
    · intro w' hSw; (try dsimp only at hSw); go_simp; try with_reducible rfl
    try simp only [Act.put, List.setIfInBounds_toArray, List.set_cons_zero, List.set_cons_succ]
    refine wpAnyH_done (by kernel_rfl) ?_ _
    have hgx2 : gx < w2.drew.heap.size := Nat.lt_of_lt_of_le hgx hb2.size
    have hgp2 : gp < w2.drew.heap.size := Nat.lt_of_lt_of_le hgp hb2.size
    have H2 := Lib.hid (H1.out.2.drew.trans (hb2.mono H1.out.2.size))
    have hS3 : (fun w' => w'.cell? ⟨gp, 0, none⟩ = some (.int .i64 f) ∧ w'.cell? ⟨gp, 2, none⟩ = some (.pointer (some ⟨gd, 0, none⟩)) ∧ w'.cell? ⟨gx, 0, none⟩ = some (.int .i64 g) ∧ w'.cell? ⟨gx, 1, none⟩ = some (.int .i64 d)) w2.drew := hS2
    clear hS1 hS2 hb2 hHeld
    go_wp2_with fail
    refine wp_region_held_drew (S := fun w' => w'.cell? ⟨gp, 0, none⟩ = some (.int .i64 f) ∧ w'.cell? ⟨gp, 2, none⟩ = some (.pointer (some ⟨gd, 0, none⟩)) ∧ w'.cell? ⟨gx, 0, none⟩ = some (.int .i64 g) ∧ w'.cell? ⟨gx, 1, none⟩ = some (.int .i64 d)) (by kernel_rfl) hS3 (fun hHeld => ?_)
    refine wpAnyH_take (i := 0) (v := ?_) (List.getElem?_toArray.trans (List.getElem?_cons_zero)) (by kernel_rfl) (by kernel_rfl) (by kernel_rfl) (fun _ _ _ h => h) (Or.inl ⟨by rfl, ?_⟩) (by assumption) ?_
    rotate_left
    · intro w' hSw; (try dsimp only at hSw); go_simp; try with_reducible rfl
    try simp only [Act.put, List.setIfInBounds_toArray, List.set_cons_zero, List.set_cons_succ]
    refine wpAnyH_take (i := 1) (v := ?_) (List.getElem?_toArray.trans (List.getElem?_cons_succ.trans (List.getElem?_cons_zero))) (by kernel_rfl) (by kernel_rfl) (by kernel_rfl) (fun _ _ _ h => h) (Or.inl ⟨by rfl, ?_⟩) (by assumption) ?_
    rotate_left
    · intro w' hSw; (try dsimp only at hSw); go_simp; try with_reducible rfl
    try simp only [Act.put, List.setIfInBounds_toArray, List.set_cons_zero, List.set_cons_succ]
    refine wpAnyH_take (i := 2) (v := ?_) (List.getElem?_toArray.trans (List.getElem?_cons_succ.trans (List.getElem?_cons_succ.trans (List.getElem?_cons_zero)))) (by kernel_rfl) (by kernel_rfl) (by kernel_rfl) (fun _ _ _ h => h) (Or.inl ⟨by rfl, ?_⟩) (by assumption) ?_
    rotate_left
    · intro w' hSw; (try dsimp only at hSw); go_simp; try with_reducible rfl
    try simp only [Act.put, List.setIfInBounds_toArray, List.set_cons_zero, List.set_cons_succ]
    refine wpAnyH_take (i := 3) (v := ?_) (List.getElem?_toArray.trans (List.getElem?_cons_succ.trans (List.getElem?_cons_succ.trans (List.getElem?_cons_succ.trans (List.getElem?_cons_zero))))) (by kernel_rfl) (by kernel_rfl) (by kernel_rfl) (fun _ _ _ h => h) (Or.inl ⟨by rfl, ?_⟩) (by assumption) ?_
    rotate_left
    · intro w' hSw; (try dsimp only at hSw); go_simp; try with_reducible rfl
    try simp only [Act.put, List.setIfInBounds_toArray, List.set_cons_zero, List.set_cons_succ]
    refine wpAnyH_take (i := 4) (v := ?_) (List.getElem?_toArray.trans (List.getElem?_cons_succ.trans (List.getElem?_cons_succ.trans (List.getElem?_cons_succ.trans (List.getElem?_cons_succ.trans (List.getElem?_cons_zero)))))) (by kernel_rfl) (by kernel_rfl) (by kernel_rfl) (fun _ _ _ h => h) (Or.inl ⟨by rfl, ?_⟩) (by assumption) ?_
    rotate_left
    · intro w' hSw; (try dsimp only at hSw); go_simp; try with_reducible rfl
    try simp only [Act.put, List.setIfInBounds_toArray, List.set_cons_zero, List.set_cons_succ]
    refine wpAnyH_take (i := 5) (v := ?_) (List.getElem?_toArray.trans (List.getElem?_cons_succ.trans (List.getElem?_cons_succ.trans (List.getElem?_cons_succ.trans (List.getElem?_cons_succ.trans (List.getElem?_cons_succ.trans (List.getElem?_cons_zero))))))) (by kernel_rfl) (by kernel_rfl) (by kernel_rfl) (fun _ _ _ h => h) (Or.inl ⟨by rfl, ?_⟩) (by assumption) ?_
    rotate_left
    · intro w' hSw; (try dsimp only at hSw); go_simp; try with_reducible rfl
    try simp only [Act.put, List.setIfInBounds_toArray, List.set_cons_zero, List.set_cons_succ]
    refine wpAnyH_take (i := 6) (v := ?_) (List.getElem?_toArray.trans (List.getElem?_cons_succ.trans (List.getElem?_cons_succ.trans (List.getElem?_cons_succ.trans (List.getElem?_cons_succ.trans (List.getElem?_cons_succ.trans (List.getElem?_cons_succ.trans (List.getElem?_cons_zero)))))))) (by kernel_rfl) (by kernel_rfl) (by kernel_rfl) (fun _ _ _ h => h) (Or.inl ⟨by rfl, ?_⟩) (by assumption) ?_
    rotate_left
    · intro w' hSw; (try dsimp only at hSw); go_simp; try with_reducible rfl
    try simp only [Act.put, List.setIfInBounds_toArray, List.set_cons_zero, List.set_cons_succ]
    refine wpAnyH_take (i := 7) (v := ?_) (List.getElem?_toArray.trans (List.getElem?_cons_succ.trans (List.getElem?_cons_succ.trans (List.getElem?_cons_succ.trans (List.getElem?_cons_succ.trans (List.getElem?_cons_succ.trans (List.getElem?_cons_succ.trans (List.getElem?_cons_succ.trans (List.getElem?_cons_zero))))))))) (by kernel_rfl) (by kernel_rfl) (by kernel_rfl) (fun _ _ _ h => h) (Or.inl ⟨by rfl, ?_⟩) (by assumption) ?_
    rotate_left
    · intro w' hSw; (try dsimp only at hSw); go_simp; try with_reducible rfl
    try simp only [Act.put, List.setIfInBounds_toArray, List.set_cons_zero, List.set_cons_succ]
    refine wpAnyH_take (i := 8) (v := ?_) (List.getElem?_toArray.trans (List.getElem?_cons_succ.trans (List.getElem?_cons_succ.trans (List.getElem?_cons_succ.trans (List.getElem?_cons_succ.trans (List.getElem?_cons_succ.trans (List.getElem?_cons_succ.trans (List.getElem?_cons_succ.trans (List.getElem?_cons_succ.trans (List.getElem?_cons_zero)))))))))) (by kernel_rfl) (by kernel_rfl) (by kernel_rfl) (fun _ _ _ h => h) (Or.inl ⟨by rfl, ?_⟩) (by assumption) ?_
    rotate_left
    · intro w' hSw; (try dsimp only at hSw); go_simp; try with_reducible rfl
    try simp only [Act.put, List.setIfInBounds_toArray, List.set_cons_zero, List.set_cons_succ]
    refine wpAnyH_take (i := 9) (v := ?_) (List.getElem?_toArray.trans (List.getElem?_cons_succ.trans (List.getElem?_cons_succ.trans (List.getElem?_cons_succ.trans (List.getElem?_cons_succ.trans (List.getElem?_cons_succ.trans (List.getElem?_cons_succ.trans (List.getElem?_cons_succ.trans (List.getElem?_cons_succ.trans (List.getElem?_cons_succ.trans (List.getElem?_cons_zero))))))))))) (by kernel_rfl) (by kernel_rfl) (by kernel_rfl) (fun _ _ _ h => h) (Or.inl ⟨by rfl, ?_⟩) (by assumption) ?_
    rotate_left
    · intro w' hSw; (try dsimp only at hSw); go_simp; try with_reducible rfl
    try simp only [Act.put, List.setIfInBounds_toArray, List.set_cons_zero, List.set_cons_succ]
    refine wpAnyH_take (i := 10) (v := ?_) (List.getElem?_toArray.trans (List.getElem?_cons_succ.trans (List.getElem?_cons_succ.trans (List.getElem?_cons_succ.trans (List.getElem?_cons_succ.trans (List.getElem?_cons_succ.trans (List.getElem?_cons_succ.trans (List.getElem?_cons_succ.trans (List.getElem?_cons_succ.trans (List.getElem?_cons_succ.trans (List.getElem?_cons_succ.trans (List.getElem?_cons_zero)))))))))))) (by kernel_rfl) (by kernel_rfl) (by kernel_rfl) (fun _ _ _ h => h) (Or.inl ⟨by rfl, ?_⟩) (by assumption) ?_
    rotate_left
    · intro w' hSw; (try dsimp only at hSw); go_simp; try with_reducible rfl
    try simp only [Act.put, List.setIfInBounds_toArray, List.set_cons_zero, List.set_cons_succ]
    refine wpAnyH_take (i := 11) (v := ?_) (List.getElem?_toArray.trans (List.getElem?_cons_succ.trans (List.getElem?_cons_succ.trans (List.getElem?_cons_succ.trans (List.getElem?_cons_succ.trans (List.getElem?_cons_succ.trans (List.getElem?_cons_succ.trans (List.getElem?_cons_succ.trans (List.getElem?_cons_succ.trans (List.getElem?_cons_succ.trans (List.getElem?_cons_succ.trans (List.getElem?_cons_succ.trans (List.getElem?_cons_zero))))))))))))) (by kernel_rfl) (by kernel_rfl) (by kernel_rfl) (fun _ _ _ h => h) (Or.inl ⟨by rfl, ?_⟩) (by assumption) ?_
    rotate_left
    · intro w' hSw; (try dsimp only at hSw); go_simp; try with_reducible rfl
    try simp only [Act.put, List.setIfInBounds_toArray, List.set_cons_zero, List.set_cons_succ]
    refine wpAnyH_take (i := 12) (v := ?_) (List.getElem?_toArray.trans (List.getElem?_cons_succ.trans (List.getElem?_cons_succ.trans (List.getElem?_cons_succ.trans (List.getElem?_cons_succ.trans (List.getElem?_cons_succ.trans (List.getElem?_cons_succ.trans (List.getElem?_cons_succ.trans (List.getElem?_cons_succ.trans (List.getElem?_cons_succ.trans (List.getElem?_cons_succ.trans (List.getElem?_cons_succ.trans (List.getElem?_cons_succ.trans (List.getElem?_cons_zero)))))))))))))) (by kernel_rfl) (by kernel_rfl) (by kernel_rfl) (fun _ _ _ h => h) (Or.inl ⟨by rfl, ?_⟩) (by assumption) ?_
    rotate_left
    · intro w' hSw; (try dsimp only at hSw); go_simp; try with_reducible rfl
    try simp only [Act.put, List.setIfInBounds_toArray, List.set_cons_zero, List.set_cons_succ]
    refine wpAnyH_take (i := 13) (v := ?_) (List.getElem?_toArray.trans (List.getElem?_cons_succ.trans (List.getElem?_cons_succ.trans (List.getElem?_cons_succ.trans (List.getElem?_cons_succ.trans (List.getElem?_cons_succ.trans (List.getElem?_cons_succ.trans (List.getElem?_cons_succ.trans (List.getElem?_cons_succ.trans (List.getElem?_cons_succ.trans (List.getElem?_cons_succ.trans (List.getElem?_cons_succ.trans (List.getElem?_cons_succ.trans (List.getElem?_cons_succ.trans (List.getElem?_cons_zero))))))))))))))) (by kernel_rfl) (by kernel_rfl) (by kernel_rfl) (fun _ _ _ h => h) (Or.inl ⟨by rfl, ?_⟩) (by assumption) ?_
    rotate_left
    · intro w' hSw; (try dsimp only at hSw); go_simp; try with_reducible rfl
    try simp only [Act.put, List.setIfInBounds_toArray, List.set_cons_zero, List.set_cons_succ]
    refine wpAnyH_take (i := 14) (v := ?_) (List.getElem?_toArray.trans (List.getElem?_cons_succ.trans (List.getElem?_cons_succ.trans (List.getElem?_cons_succ.trans (List.getElem?_cons_succ.trans (List.getElem?_cons_succ.trans (List.getElem?_cons_succ.trans (List.getElem?_cons_succ.trans (List.getElem?_cons_succ.trans (List.getElem?_cons_succ.trans (List.getElem?_cons_succ.trans (List.getElem?_cons_succ.trans (List.getElem?_cons_succ.trans (List.getElem?_cons_succ.trans (List.getElem?_cons_succ.trans (List.getElem?_cons_zero)))))))))))))))) (by kernel_rfl) (by kernel_rfl) (by kernel_rfl) (fun _ _ _ h => h) (Or.inl ⟨by rfl, ?_⟩) (by assumption) ?_
    rotate_left
    · intro w' hSw; (try dsimp only at hSw); go_simp; try with_reducible rfl
    try simp only [Act.put, List.setIfInBounds_toArray, List.set_cons_zero, List.set_cons_succ]
    refine wpAnyH_ready (rs := [15]) (by kernel_rfl) (by simp) ?_
    refine AllReadyH.cons (List.getElem?_toArray.trans (List.getElem?_cons_succ.trans (List.getElem?_cons_succ.trans (List.getElem?_cons_succ.trans (List.getElem?_cons_succ.trans (List.getElem?_cons_succ.trans (List.getElem?_cons_succ.trans (List.getElem?_cons_succ.trans (List.getElem?_cons_succ.trans (List.getElem?_cons_succ.trans (List.getElem?_cons_succ.trans (List.getElem?_cons_succ.trans (List.getElem?_cons_succ.trans (List.getElem?_cons_succ.trans (List.getElem?_cons_succ.trans (List.getElem?_cons_succ.trans (List.getElem?_cons_zero))))))))))))))))) (fun K hK => ?_) AllReadyH.nil
    go_simp
    go_at_call 15
    refine (HS.out.2.2 _ (H2.out.drew)).mono ?_
    rintro e w3 hmade
    have HM := Lib.hid (hmade.new (H2.out.drew))
    obtain ⟨gq, rfl, hb3, _, _⟩ := hmade
    refine hK.out _ _ (keepS hS3 hb3 hgp2 hgx2) (fun hHeld => ?_)
    clear hK K
    try simp only [Act.put, List.setIfInBounds_toArray, List.set_cons_zero, List.set_cons_succ]
    refine wpAnyH_take (i := 16) (v := ?_) (List.getElem?_toArray.trans (List.getElem?_cons_succ.trans (List.getElem?_cons_succ.trans (List.getElem?_cons_succ.trans (List.getElem?_cons_succ.trans (List.getElem?_cons_succ.trans (List.getElem?_cons_succ.trans (List.getElem?_cons_succ.trans (List.getElem?_cons_succ.trans (List.getElem?_cons_succ.trans (List.getElem?_cons_succ.trans (List.getElem?_cons_succ.trans (List.getElem?_cons_succ.trans (List.getElem?_cons_succ.trans (List.getElem?_cons_succ.trans (List.getElem?_cons_succ.trans (List.getElem?_cons_succ.trans (List.getElem?_cons_zero)))))))))))))))))) (by kernel_rfl) (by kernel_rfl) (by kernel_rfl) (fun _ _ _ h => h) (Or.inl ⟨by rfl, ?_⟩) (by assumption) ?_
    rotate_left
    · intro w' hSw; (try dsimp only at hSw); go_simp; try with_reducible rfl
    try simp only [Act.put, List.setIfInBounds_toArray, List.set_cons_zero, List.set_cons_succ]
    refine wpAnyH_take (i := 17) (v := ?_) (List.getElem?_toArray.trans (List.getElem?_cons_succ.trans (List.getElem?_cons_succ.trans (List.getElem?_cons_succ.trans (List.getElem?_cons_succ.trans (List.getElem?_cons_succ.trans (List.getElem?_cons_succ.trans (List.getElem?_cons_succ.trans (List.getElem?_cons_succ.trans (List.getElem?_cons_succ.trans (List.getElem?_cons_succ.trans (List.getElem?_cons_succ.trans (List.getElem?_cons_succ.trans (List.getElem?_cons_succ.trans (List.getElem?_cons_succ.trans (List.getElem?_cons_succ.trans (List.getElem?_cons_succ.trans (List.getElem?_cons_succ.trans (List.getElem?_cons_zero))))))))))))))))))) (by kernel_rfl) (by kernel_rfl) (by kernel_rfl) (fun _ _ _ h => h) (Or.inl ⟨by rfl, ?_⟩) (by assumption) ?_
    rotate_left
    · intro w' hSw; (try dsimp only at hSw); go_simp; try with_reducible rfl
    try simp only [Act.put, List.setIfInBounds_toArray, List.set_cons_zero, List.set_cons_succ]
    refine wpAnyH_take (i := 18) (v := ?_) (List.getElem?_toArray.trans (List.getElem?_cons_succ.trans (List.getElem?_cons_succ.trans (List.getElem?_cons_succ.trans (List.getElem?_cons_succ.trans (List.getElem?_cons_succ.trans (List.getElem?_cons_succ.trans (List.getElem?_cons_succ.trans (List.getElem?_cons_succ.trans (List.getElem?_cons_succ.trans (List.getElem?_cons_succ.trans (List.getElem?_cons_succ.trans (List.getElem?_cons_succ.trans (List.getElem?_cons_succ.trans (List.getElem?_cons_succ.trans (List.getElem?_cons_succ.trans (List.getElem?_cons_succ.trans (List.getElem?_cons_succ.trans (List.getElem?_cons_succ.trans (List.getElem?_cons_zero)))))))))))))))))))) (by kernel_rfl) (by kernel_rfl) (by kernel_rfl) (fun _ _ _ h => h) (Or.inl ⟨by rfl, ?_⟩) (by assumption) ?_
    rotate_left
    · intro w' hSw; (try dsimp only at hSw); go_simp; try with_reducible rfl
    try simp only [Act.put, List.setIfInBounds_toArray, List.set_cons_zero, List.set_cons_succ]
    refine wpAnyH_take (i := 19) (v := ?_) (List.getElem?_toArray.trans (List.getElem?_cons_succ.trans (List.getElem?_cons_succ.trans (List.getElem?_cons_succ.trans (List.getElem?_cons_succ.trans (List.getElem?_cons_succ.trans (List.getElem?_cons_succ.trans (List.getElem?_cons_succ.trans (List.getElem?_cons_succ.trans (List.getElem?_cons_succ.trans (List.getElem?_cons_succ.trans (List.getElem?_cons_succ.trans (List.getElem?_cons_succ.trans (List.getElem?_cons_succ.trans (List.getElem?_cons_succ.trans (List.getElem?_cons_succ.trans (List.getElem?_cons_succ.trans (List.getElem?_cons_succ.trans (List.getElem?_cons_succ.trans (List.getElem?_cons_succ.trans (List.getElem?_cons_zero))))))))))))))))))))) (by kernel_rfl) (by kernel_rfl) (by kernel_rfl) (fun _ _ _ h => h) (Or.inl ⟨by rfl, ?_⟩) (by assumption) ?_
    rotate_left
    · intro w' hSw; (try dsimp only at hSw); go_simp; try with_reducible rfl
    try simp only [Act.put, List.setIfInBounds_toArray, List.set_cons_zero, List.set_cons_succ]
    refine wpAnyH_done (by kernel_rfl) ?_ _
    go_wp2_with fail
    go_ret2
    rw [hy]
    exact HM.out
end Go.Proofs.Ytdhaikcmgegfoaa
