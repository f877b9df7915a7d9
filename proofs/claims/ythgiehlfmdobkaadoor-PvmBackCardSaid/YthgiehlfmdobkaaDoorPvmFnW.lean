/-
  Package pvm's readWords, by its contract. Conditions: the theorem's own premises.
-/
import Derived.Test.YthgiehlfmdobkaaDoorPvmFnV
import Derived.Test.YthgiehlfmdobkaaDoorOctetRd
namespace Go.Proofs.YthgiehlfmdobkaaDoor
open Go.RowKit

theorem cut_mid (a m b : List UInt8) {k s : Nat} (hk : a.length = k) (hs : m.length = s) : ((a ++ m ++ b).take (k + s)).drop k = m := by
  subst hk hs
  rw [List.append_assoc, List.take_append, List.drop_append]
  simp
theorem word_cut {ws : List Int} {k : Nat} (hk : k < ws.length) : ∃ r, wordB ws = wordB (ws.take k) ++ leB (u64N (ws.getD k 0)) 8 ++ r := by
  refine ⟨wordB (ws.drop (k + 1)), ?_⟩
  rw [← wordB_take hk]
  unfold wordB
  rw [← List.flatMap_append, List.take_append_drop]
theorem word_at {l a b : List UInt8} {ws : List Int} {k k0 : Nat} (hl : l = a ++ wordB ws ++ b) (ha : a.length = k0) (hk : k < ws.length) : (l.take (k0 + 8 * k + 8)).drop (k0 + 8 * k) = leB (u64N (ws.getD k 0)) 8 := by
  obtain ⟨r, hr⟩ := word_cut hk
  have e : l = (a ++ wordB (ws.take k)) ++ leB (u64N (ws.getD k 0)) 8 ++ (r ++ b) := by rw [hl, hr]; simp only [List.append_assoc]
  rw [e]
  exact cut_mid _ _ _ (by rw [List.length_append, wordB_len, List.length_take, ha]; omega) (leB_length _ 8)
theorem back64 {x : Int} (h : R64 x) : IntKind.i64.wrap ((u64N x : Nat) : Int) = x := by
  rw [IntWalk.i64_left]
  unfold R64 at h
  unfold u64N wrap64
  omega
theorem leN_u64 (x : Int) : leN (leB (u64N x) 8) = u64N x := by
  rw [leN_leB]
  exact Nat.mod_eq_of_lt (u64N_lt x)
theorem splice_get {L : List Value} {o : Nat} {c : List Value} (h : o + c.length < L.length) : ∃ v, (splice L o c)[o + c.length]? = some v := by
  have hl : (splice L o c).length = L.length := by unfold splice; simp; omega
  exact ⟨_, List.getElem?_eq_getElem (by rw [hl]; exact h)⟩
theorem splice_snoc {L : List Value} {o : Nat} {c : List Value} (h : o + c.length < L.length) (v : Value) : (splice L o c).toArray.setIfInBounds (o + c.length) v = (splice L o (c ++ [v])).toArray := by
  rw [List.setIfInBounds_toArray]
  congr 1
  unfold splice
  have h1 : (L.take o).length = o := by rw [List.length_take]; omega
  rw [List.set_append_right _ _ (by omega), h1, Nat.add_sub_cancel_left, List.set_append_right _ _ (Nat.le_refl _), Nat.sub_self]
  obtain ⟨x, r, e⟩ : ∃ x r, L.drop (o + c.length) = x :: r := by
    cases hd : L.drop (o + c.length) with
    | nil => have := congrArg List.length hd; simp at this; omega
    | cons x r => exact ⟨x, r, rfl⟩
  have e2 : L.drop (o + (c ++ [v]).length) = r := by
    rw [List.length_append, List.length_singleton, ← Nat.add_assoc, ← List.drop_drop, e]
    rfl
  rw [e2, e]
  simp
theorem zv_take_snoc {ws : List Int} {k : Nat} (h : k < ws.length) : zv (ws.take (k + 1)) = zv (ws.take k) ++ [.int .i64 (ws.getD k 0)] := by
  rw [List.take_succ_eq_append_getElem h]
  unfold zv
  rw [List.map_append]
  simp [List.getD, h]
def RWPost (w : World) (gr : Nat) (l : List UInt8) (k : Nat) (b : Nat) (t : TypeId) (L : List Value) (e : Ending) (w' : World) : Prop := e = .returned (.tuple #[]) ∧ Rd w' gr l k .nilIface ∧ Blk w' b t L.toArray ∧ Kept (fun j => j = gr ∨ j = b) w w'

set_option maxRecDepth 100000 in
set_option maxHeartbeats 4000000 in
set_option linter.unusedSimpArgs false in
theorem pvReadWords (w : World) (gr : Nat) (l : List UInt8) (k0 : Nat) (b : Nat) (t : TypeId) (L : List Value) (o : Nat) (ws : List Int) (n c : Nat) (hrd : Rd w gr l k0 .nilIface) (hb : Blk w b t L.toArray) (hgb : gr < b) (hL : o + n ≤ L.length) (hlen : ws.length = n) (hok : ∀ v ∈ ws, R64 v) (hn : n ≤ 64)
    (hk0 : k0 + 8 * n ≤ l.length) (hcut : ∀ k, k < n → (l.take (k0 + 8 * k + 8)).drop (k0 + 8 * k) = leB (u64N (ws.getD k 0)) 8) :
    Calls Tryd.prog 40 #[.pointer (some ⟨gr, 0, none⟩), .slice (some ⟨b, o, none⟩) n c] w (RWPost w gr l (k0 + 8 * n) b t (splice L o (zv ws))) := by
  have H := Lib.hid (And.intro hgb (And.intro hL (And.intro hlen (And.intro hok (And.intro hk0 (And.intro hcut (And.intro hrd hb)))))))
  clear hrd hb hgb hL hlen hok hk0 hcut
  go_enter Tryd.func40, Tryd.ntmps40
  go_wp2_with fail
  go_loopw [7] (fun u wz => ∃ k : Nat, k ≤ n ∧ u = .int .i64 (k : Int) ∧ Rd wz gr l (k0 + 8 * k) .nilIface ∧ Blk wz b t (splice L o (zv (ws.take k))).toArray ∧ Kept (fun j => j = gr ∨ j = b) w wz) (fun u _ => n - (intOf u).toNat)
  case atStart => exact ⟨0, Nat.zero_le _, rfl, H.out.2.2.2.2.2.2.1, by rw [List.take_zero]; simpa [zv, splice] using H.out.2.2.2.2.2.2.2, Kept.refl _ _⟩
  case round =>
    obtain ⟨k, hk, rfl, hrd, hblk, hkp⟩ := hrel
    by_cases hlt : k < n
    · have hki : (k : Int) < (n : Int) := by omega
      have hki0 : (0 : Int) ≤ (k : Int) := by omega
      have hkl : k < ws.length := by rw [H.out.2.2.1]; exact hlt
      have hnum := num_at gr l (k0 + 8 * k) 8 wr hrd (by decide) (by decide) (by have := H.out.2.2.2.2.1; omega)
      unfold NumPost at hnum
      rw [H.out.2.2.2.2.2.1 k hlt, leN_u64] at hnum
      have hr : R64 (ws.getD k 0) := H.out.2.2.2.1 _ (by simp [List.getD, hkl])
      have hzl : (zv (ws.take k)).length = k := by rw [zv_length, List.length_take]; omega
      have hoL : o + (zv (ws.take k)).length < L.length := by rw [hzl]; have := H.out.2.1; omega
      obtain ⟨v, hv⟩ := splice_get hoL
      have hsn := splice_snoc hoL (.int .i64 (ws.getD k 0))
      rw [← zv_take_snoc hkl] at hsn
      rw [hzl] at hv hsn
      have hbk := back64 hr
      obtain ⟨x, ex⟩ : ∃ x, ws.getD k 0 = x := ⟨_, rfl⟩
      rw [ex] at hnum hsn hbk
      obtain ⟨y, ey⟩ : ∃ y, u64N x = y := ⟨_, rfl⟩
      rw [ey] at hnum hbk
      have HI := Lib.hid (And.intro hnum (And.intro hblk (And.intro hkp (And.intro hv hsn))))
      clear hnum hblk hkp hrd hsn hv hoL hzl hr ex ey
      go_wp2_with (first
        | (go_at_call 39; refine HI.out.1.mono ?_; rintro e w6 ⟨rfl, hrd6, hg6⟩; have hb6 := HI.out.2.1.grown hg6 (fun e => by have := H.out.1; simp only [Option.some.injEq] at e; omega); have hc6 : w6.cell? ⟨b, o + k, none⟩ = some v := (by rw [hb6.cell]; simpa using HI.out.2.2.2.1); have hf6 := hb6.frozen (o + k))
        | fail)
      have hrd7 := hrd6.below ((Below.refl b w6).setCell (p := ⟨b, o + k, none⟩) (Nat.le_refl _) (.int .i64 x)) H.out.1
      have hb7 := hb6.set_ (o + k) (.int .i64 x)
      rw [HI.out.2.2.2.2] at hb7
      have hk7 : Kept (fun j => j = gr ∨ j = b) w (w6.setCell ⟨b, o + k, none⟩ (.int .i64 x)) :=
        (HI.out.2.2.1.trans (Kept.of_grown (F := fun j => j = gr ∨ j = b) hg6 (fun j e => by cases e; exact .inl (.inl rfl))) (fun _ => .inl)).trans (Kept.set (fun j => j = gr ∨ j = b) w6 ⟨b, o + k, none⟩ (.int .i64 x) (.inl (.inr rfl))) (fun _ => .inl)
      rw [show k0 + 8 * k + 8 = k0 + 8 * (k + 1) by omega] at hrd7
      exact ⟨⟨k + 1, by omega, by go_num, hrd7, hb7, hk7⟩, by simp only [intOf]; omega⟩
    · obtain rfl : k = n := by omega
      have hkn : ¬ (k : Int) < (k : Int) := by omega
      rw [show ws.take k = ws by rw [List.take_of_length_le]; rw [H.out.2.2.1]; exact Nat.le_refl _] at hblk
      go_wp2_with fail
      exact bodyPost_ret (results_none rfl _ _ _) rfl ⟨rfl, hrd, hblk, hkp⟩
end Go.Proofs.YthgiehlfmdobkaaDoor
