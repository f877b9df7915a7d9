/-
  Package disk's powered, Power and Flush, by their contracts. Conditions: each theorem's own premises.
-/
import Derived.Test.YtdhaikcmgegfoaaDiskCode3
namespace Go.Proofs.Ytdhaikcmgegfoaa
open Go.RowKit

theorem far_of_row {w : World} {n size c g : Nat} {t t' : TypeId} {S : Option Addr} {vs : List Value} {cs : Array Value} (h : w.ownsRow 0 t size (.slice S n c) n vs) (hb : Blk w g t' cs) (ht : t ≠ t') : Far S n g := fun _ b o e e2 => by
  subst e
  exact row_apart h hb ht (by rw [← e2]; rfl)

set_option maxRecDepth 100000 in
set_option maxHeartbeats 1000000 in
theorem dkPowered (w : World) (gd : Nat) (F : Nat → Prop) (m : Dk) (h : CodeIs w gd F m) (hw : m.waits.length ≤ 4294967296) :
    Calls Try.prog 50 #[.pointer (some ⟨gd, 0, none⟩)] w fun e w' => e = .returned (.bool m.step.2) ∧ CodeIs w' gd F m.step.1 ∧ Kept F w w' := by
  obtain ⟨gc, W, cw, T, h⟩ := h
  have h2 := h.c2
  have h3 := h.c3
  have HC := Lib.hid h
  rcases h.armed with ⟨hl, rfl⟩ | ⟨hl, ga, S, cs, rfl, hFa, hba, hrow, hown⟩
  · have hst : m.step = (m, !m.off) := by
      unfold Dk.step
      cases m.off
      · rw [if_neg (by decide), if_neg (by omega), if_neg (by omega)]; rfl
      · rw [if_pos rfl]; rfl
    have HS := Lib.hid hst
    clear h hst hl
    go_enter Try.func50, Try.ntmps50
    go_wp2_with fail
    go_ret
    rw [HS.out]
    exact ⟨rfl, ⟨gc, W, cw, none, HC.out⟩, .refl _ _⟩
  · have hoff : m.off = false := by
      cases e : m.off
      · rfl
      · exact absurd (h.idle e).2 (by omega)
    have ha0 : w.cell? ⟨ga, 0, none⟩ = some (.int .i64 m.left) := by rw [hba.cell]; rfl
    by_cases h0 : m.left = 0
    · have hst : m.step = (m.crash m.surv, false) := by
        unfold Dk.step
        rw [hoff, if_neg (by decide), if_pos h0]
      have hcr := dkCrash w gd F m gc W cw _ h hw S m.surv cs
      have hvs : Vs w w.heap.size S (bvs m.surv) := by
        obtain ⟨A9, c9, hv9, _, _, hvs9, _⟩ := vs_of_row hrow
        injection hv9 with hA9 _ _
        subst hA9
        exact hvs9
      have hcr := Lib.hid (hcr hvs (far_of_row hrow h.content (by decide)))
      have ha1 : w.cell? ⟨ga, 1, none⟩ = some (.slice S m.surv.length cs) := by rw [hba.cell]; rfl
      obtain ⟨ns, ens⟩ : ∃ n, m.surv.length = n := ⟨_, rfl⟩
      rw [h0] at ha0
      rw [ens] at ha1 hcr
      have HS := Lib.hid hst
      clear h hst hl hba hrow hown hFa hvs h0 ens hoff hw
      go_enter Try.func50, Try.ntmps50
      go_wp2_with (go_at_call 28; refine hcr.out.mono ?_; rintro e w3 ⟨rfl, hat3, hk3⟩)
      go_ret
      rw [HS.out]
      exact ⟨rfl, ⟨_, _, _, _, hat3⟩, hk3⟩
    · have hst : m.step = ({ m with left := m.left - 1 }, true) := by
        unfold Dk.step
        rw [hoff, if_neg (by decide), if_neg h0, if_pos (by omega)]
      obtain ⟨lf, elf⟩ : ∃ n : Nat, m.left = ((n + 1 : Nat) : Int) := ⟨(m.left - 1).toNat, by omega⟩
      have hlb := h.ok.leftB.2
      rw [elf] at ha0 hlb
      have hlb2 : lf ≤ 9223372036854775807 := by omega
      have hfa := hba.frozen 0
      have hl0 : ¬ ((lf + 1 : Nat) : Int) = 0 := by omega
      have hl1 : ((lf + 1 : Nat) : Int) - 1 = (lf : Int) := by omega
      have HB := Lib.hid (And.intro hba (And.intro hrow (And.intro hown (And.intro hFa (And.intro hoff elf)))))
      have HS := Lib.hid hst
      obtain ⟨l1, el1⟩ : ∃ x : Nat, lf + 1 = x := ⟨_, rfl⟩
      rw [el1] at ha0 hl0 hl1 hlb
      have HE := Lib.hid el1
      clear h hst hl hba hrow hown hFa h0 hoff hw elf el1
      go_enter Try.func50, Try.ntmps50
      go_wp2_with fail
      go_ret
      rw [HS.out]
      have hk : Kept (· = ga) w (w.setCell ⟨ga, 0, none⟩ (.int .i64 (lf : Int))) := .set _ _ _ _ (.inl rfl)
      have hC := HC.out
      have hB := HB.out
      have hle : m.left - 1 = (lf : Int) := by rw [hB.2.2.2.2.2]; omega
      have hset := hB.1.set_ 0 (.int .i64 (lf : Int))
      refine ⟨rfl, ⟨gc, W, cw, some ⟨ga, 0, none⟩, ⟨?_, ?_, fun g hg => Nat.lt_of_lt_of_le (hC.lt g hg) hk.size, hC.own, hk.blk hC.blk (fun e => hC.blk.apart hB.1 (by decide) e), hC.ownC, hk.blk hC.content (fun e => hC.content.apart hB.1 (by decide) e),
        row_keep hC.pend hk (fun g e2 e3 => row_apart hC.pend hB.1 (by decide) (e3 ▸ e2)), hC.ownP, .inr ⟨by simp only; omega, ga, S, cs, rfl, hB.2.2.2.1, ?_, row_keep hB.2.1 hk (fun g e2 e3 => row_apart hB.2.1 hB.1 (by decide) (e3 ▸ e2)), hB.2.2.1⟩⟩⟩, hk.mono (fun g e => by rw [e]; exact hB.2.2.2.1)⟩
      · exact ⟨hC.ok.small, hC.ok.len, hC.ok.at_, by simp only; have := hC.ok.leftB; omega⟩
      · intro e
        simp only [hB.2.2.2.2.1] at e
        cases e
      · simp only [hle]
        simpa using hset

theorem Dk.power_idle (m : Dk) : m.power.off = true → m.power.waits = [] ∧ m.power.left < 0 := fun e => by simp [Dk.power] at e
set_option maxRecDepth 100000 in
theorem dkPower (w : World) (gd : Nat) (F : Nat → Prop) (m : Dk) (h : CodeIs w gd F m) :
    Calls Try.prog 30 #[.pointer (some ⟨gd, 0, none⟩)] w fun e w' => e = .returned (.tuple #[]) ∧ CodeIs w' gd F m.power ∧ Kept F w w' := by
  obtain ⟨gc, W, cw, T, h⟩ := h
  have hlo := Lib.hid (dkLose w gd F m gc W cw T h)
  have HC := Lib.hid h
  clear h
  go_enter Try.func30, Try.ntmps30
  go_wp2_with (first
    | (go_at_call 48; refine hlo.out.mono ?_; rintro e w3 ⟨rfl, hg3, hb3⟩; have hf2 := hb3.frozen 2; have h2 : w3.cell? ⟨gd, 2, none⟩ = some (.bool (!m.off)) := by rw [hb3.cell]; rfl)
    | fail)
  go_end0
  have hg4 := only_trans hg3 (one_set w3 gd 2 (.bool true))
  have hb4 := hb3.set_ 2 (.bool true)
  have hat4 := HC.out.put (m' := m.power) (W' := none) (T' := none) (cw' := 0) hg4 (by simpa [dkCells, Dk.power] using hb4) (Dk.power_ok HC.out.ok) m.power_idle rfl (.inl ⟨rfl, rfl, rfl⟩) (.inl ⟨rfl, by simp [Dk.power]⟩)
  exact ⟨rfl, ⟨_, _, _, _, hat4⟩, Kept.of_grown (F := F) hg4 (fun g e => by cases e; exact .inl HC.out.own)⟩
end Go.Proofs.Ytdhaikcmgegfoaa
