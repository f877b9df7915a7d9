import Derived.Test.YtdhaikcmgegfoaaDiskCode0
namespace Go.Proofs.Ytdhaikcmgegfoaa
open Go.RowKit

theorem dkSector (w : World) (gd gc n : Nat) (k : Nat) (hk : k < n) (hn : n ≤ 256) (h0 : w.cell? ⟨gd, 0, none⟩ = some (.slice (some ⟨gc, 0, none⟩) (64 * n) (64 * n))) :
    Calls Try.prog 56 #[.pointer (some ⟨gd, 0, none⟩), .int .i64 (k : Int)] w fun e w' => e = .returned (.slice (some ⟨gc, 64 * k, none⟩) 64 (64 * n - 64 * k)) ∧ w = w' := by
  obtain ⟨tot, et⟩ : ∃ t, 64 * n = t := ⟨_, rfl⟩
  obtain ⟨a, ea⟩ : ∃ a, 64 * k = a := ⟨_, rfl⟩
  obtain ⟨z, ez⟩ : ∃ z, a + 64 = z := ⟨_, rfl⟩
  have ha : (k : Int) * 64 = (a : Int) := by omega
  have hz : ((k : Int) + 1) * 64 = (z : Int) := by omega
  have hz1 : z ≤ tot := by omega
  have hza : z - a = 64 := by omega
  have ht : tot ≤ 16384 := by omega
  have haz : a ≤ z := by omega
  rw [et] at h0 ⊢
  rw [ea]
  clear et ea ez
  go_enter Try.func56, Try.ntmps56
  go_wp2_with fail
  go_ret
  exact ⟨by simp, rfl⟩

/-- bytes of the call's own, and a number -/
def DkOwn (w : World) (r : List UInt8 × Nat) (e : Ending) (w' : World) : Prop :=
  ∃ v, e = .returned (.tuple #[v, .int .i64 (r.2 : Nat)]) ∧ Own w' w.heap.size 5 v r.1 ∧ Below w.heap.size w w'
def Dk.hasAt (m : Dk) (k : Int) : List UInt8 × Nat := if inside m k = true then (m.has.getD k.toNat [], 0) else ([], 4)

section
variable {w : World} {gd gc cw : Nat} {F : Nat → Prop} {W T : Option Addr} {m : Dk}
/-- a sector as it lies in the content -/
theorem CodeAt.sec (h : CodeAt w gd F m gc W cw T) {k : Nat} (hk : k < m.has.length) : Bs w w.heap.size (some ⟨gc, 64 * k, none⟩) (m.has.getD k []) := by
  have hall : Bs w w.heap.size (some ⟨gc, 0, none⟩) m.has.flatten := fun _ => ⟨gc, 0, rfl, h.lt gc h.ownC, fun j hj => by rw [h.content.cell, Nat.zero_add, List.getElem?_toArray]; exact bv_get hj⟩
  have := hall.cut (64 * k) (64 * k + 64) (by rw [flat_length h.ok.len]; omega)
  rw [flat_cut h.ok.len hk, Nat.zero_add] at this
  exact this
theorem CodeAt.all (h : CodeAt w gd F m gc W cw T) : Bs w w.heap.size (some ⟨gc, 0, none⟩) m.has.flatten :=
  fun _ => ⟨gc, 0, rfl, h.lt gc h.ownC, fun j hj => by rw [h.content.cell, Nat.zero_add, List.getElem?_toArray]; exact bv_get hj⟩
end

set_option maxRecDepth 100000 in
theorem dkHas (w : World) (gd : Nat) (F : Nat → Prop) (m : Dk) (h : CodeIs w gd F m) (k : Int) : Calls Try.prog 46 #[.pointer (some ⟨gd, 0, none⟩), .int .i64 k] w (DkOwn w (m.hasAt k)) := by
  have hex := Lib.hid (dkExists w gd F m h k)
  obtain ⟨gc, W, cw, T, h⟩ := h
  have HC := Lib.hid h
  cases hin : inside m k
  · have hr : m.hasAt k = ([], 4) := by unfold Dk.hasAt; rw [hin]; rfl
    rw [hr]
    rw [hin] at hex
    clear h hr
    go_enter Try.func46, Try.ntmps46
    go_wp2_with (go_at_call 49; refine hex.out.mono ?_; rintro e w' ⟨rfl, rfl⟩)
    go_ret2
    exact ⟨_, rfl, Own.nil_ _ _ _, Below.refl _ _⟩
  · have hr : m.hasAt k = (m.has.getD k.toNat [], 0) := by unfold Dk.hasAt; rw [hin]; rfl
    rw [hr]
    rw [hin] at hex
    have hk0 : 0 ≤ k ∧ k < (m.has.length : Int) := by simpa [inside] using hin
    obtain ⟨p, rfl⟩ : ∃ p : Nat, k = (p : Int) := ⟨k.toNat, by omega⟩
    have hp : p < m.has.length := by omega
    rw [Int.toNat_natCast]
    obtain ⟨L, eL⟩ : ∃ L, m.has.getD p [] = L := ⟨_, rfl⟩
    have hL : L.length = 64 := eL ▸ getD_len h.ok.len hp
    have hsec := Lib.hid (dkSector w gd gc m.has.length p hp h.ok.small h.c0)
    obtain ⟨c, ec⟩ : ∃ c, 64 * m.has.length - 64 * p = c := ⟨_, rfl⟩
    have hcl := clone_any (some ⟨gc, 64 * p, none⟩) L c w.heap.size w (eL ▸ h.sec hp) (Nat.le_refl _) (by omega)
    rw [hL] at hcl
    have hcl := Lib.hid hcl
    rw [ec] at hsec
    obtain ⟨o, eo⟩ : ∃ o, 64 * p = o := ⟨_, rfl⟩
    rw [eL]
    rw [eo] at hsec hcl
    clear h hr hin hk0 hp eL ec eo hL
    go_enter Try.func46, Try.ntmps46
    go_wp2_with (first
      | (go_at_call 49; refine hex.out.mono ?_; rintro e w' ⟨rfl, rfl⟩)
      | (go_at_call 56; refine hsec.out.mono ?_; rintro e w' ⟨rfl, rfl⟩)
      | (go_at_call 51; refine hcl.out.mono ?_; rintro e w' ⟨v, rfl, hown, hbel⟩))
    go_ret2
    exact ⟨_, rfl, hown, hbel⟩

set_option maxRecDepth 100000 in
theorem dkImage (w : World) (gd : Nat) (F : Nat → Prop) (m : Dk) (h : CodeIs w gd F m) : Calls Try.prog 33 #[.pointer (some ⟨gd, 0, none⟩)] w (OwnPost w m.has.flatten) := by
  obtain ⟨gc, W, cw, T, h⟩ := h
  obtain ⟨L, eL⟩ : ∃ L, m.has.flatten = L := ⟨_, rfl⟩
  obtain ⟨c, ec⟩ : ∃ c, 64 * m.has.length = c := ⟨_, rfl⟩
  have hL : L.length = c := by rw [← eL, flat_length h.ok.len, ec]
  have hsm := h.ok.small
  have hcl := clone_any (some ⟨gc, 0, none⟩) L c w.heap.size w (eL ▸ h.all) (Nat.le_refl _) (by omega)
  have h0 := h.c0
  rw [ec] at h0
  rw [hL] at hcl
  have hcl := Lib.hid hcl
  rw [eL]
  clear h eL hL ec hsm
  go_enter Try.func33, Try.ntmps33
  go_wp2_with (go_at_call 51; refine hcl.out.mono ?_; rintro e w' ⟨v, rfl, hown, hbel⟩)
  go_ret
  exact ⟨_, rfl, hown, hbel⟩

/-- a disk whose pending writes and arming are gone -/
def Dk.lose (m : Dk) : Dk := { m with waits := [], left := -1 }
theorem Dk.lose_ok {m : Dk} (h : m.ok) : m.lose.ok := ⟨h.small, h.len, by simp [Dk.lose], by simp [Dk.lose]⟩
section
variable {w w' : World} {gd gc cw : Nat} {F : Nat → Prop} {W T : Option Addr} {m : Dk}
/-- the disk's own cells are written -/
theorem CodeAt.put (h : CodeAt w gd F m gc W cw T) {m' : Dk} {W' T' : Option Addr} {cw' : Nat} (hg : w.grownBy w' (some gd)) (hb : Blk w' gd 85 (dkCells gc (64 * m'.has.length) W' m'.waits.length cw' m'.off T').toArray)
    (ho : m'.ok) (hi : m'.off = true → m'.waits = [] ∧ m'.left < 0) (eh : m'.has = m.has) (hW : (W' = none ∧ cw' = 0 ∧ m'.waits = []) ∨ (W' = W ∧ cw' = cw ∧ m'.waits = m.waits)) (hT : (T' = none ∧ m'.left < 0) ∨ (T' = T ∧ m'.left = m.left ∧ m'.surv = m.surv)) :
    CodeAt w' gd F m' gc W' cw' T' := by
  have hk : Kept (· = gd) w w' := .of_grown hg (fun g e => by cases e; exact .inl rfl)
  refine ⟨ho, hi, fun g hg' => Nat.lt_of_lt_of_le (h.lt g hg') hg.size, h.own, hb, h.ownC, eh ▸ hk.blk h.content (fun e => h.blk.apart h.content (by decide) e.symm), ?_, ?_, ?_⟩
  · rcases hW with ⟨rfl, rfl, e⟩ | ⟨rfl, rfl, e⟩
    · rw [e]
      exact row_nil _ _ _ _
    · rw [e]
      exact row_keep h.pend hk (fun g e2 e3 => row_apart h.pend h.blk (by decide) (e3 ▸ e2))
  · rcases hW with ⟨rfl, rfl, e⟩ | ⟨rfl, rfl, e⟩
    · intro g e2
      cases e2
    · rw [e]
      exact h.ownP
  · rcases hT with ⟨rfl, hl⟩ | ⟨rfl, el, es⟩
    · exact .inl ⟨hl, rfl⟩
    · rw [el, es]
      rcases h.armed with h1 | ⟨h0, ga, S, cs, e, h1, h2, h3, h4⟩
      · exact .inl h1
      · exact .inr ⟨h0, ga, S, cs, e, h1, hk.blk h2 (fun e => h.blk.apart h2 (by decide) e.symm), row_keep h3 hk (fun g e2 e3 => row_apart h3 h.blk (by decide) (e3 ▸ e2)), h4⟩
theorem CodeAt.post (h : CodeAt w' gd F m gc W cw T) (hk : Kept F w w') {v : Value} : CodePost w gd F m v (.returned v) w' := ⟨rfl, F, ⟨gc, W, cw, T, h⟩, hk, fun _ => .inl⟩
end

set_option maxRecDepth 100000 in
theorem dkLose (w : World) (gd : Nat) (F : Nat → Prop) (m : Dk) (gc : Nat) (W : Option Addr) (cw : Nat) (T : Option Addr) (h : CodeAt w gd F m gc W cw T) :
    Calls Try.prog 48 #[.pointer (some ⟨gd, 0, none⟩)] w fun e w' => e = .returned (.tuple #[]) ∧ w.grownBy w' (some gd) ∧ Blk w' gd 85 (dkCells gc (64 * m.has.length) none 0 0 m.off none).toArray := by
  have h1 := h.c1
  have h3 := h.c3
  have hf1 := h.blk.frozen 1
  have hf3 := h.blk.frozen 3
  obtain ⟨X, eX⟩ : ∃ X, dkCells gc (64 * m.has.length) W m.waits.length cw m.off T = X := ⟨_, rfl⟩
  have HX := Lib.hid (And.intro (eX ▸ h.blk) eX)
  obtain ⟨nw, en⟩ : ∃ n, m.waits.length = n := ⟨_, rfl⟩
  rw [en] at h1
  clear h en eX
  go_enter Try.func48, Try.ntmps48
  go_wp2_with fail
  go_end0
  refine ⟨rfl, only_trans (one_set w gd 1 _) (one_set _ gd 3 _), ?_⟩
  have := ((HX.out.1.set_ 1 (.slice none 0 0)).set_ 3 (.pointer none))
  rw [← HX.out.2] at this
  simpa [dkCells] using this
end Go.Proofs.Ytdhaikcmgegfoaa
