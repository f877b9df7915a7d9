/-
  The chapter's two grammars, as plain data: the first is fit, matches aaa and not aab; the second one clashes. No conditions.
-/
import Derived.Test.YthfbmihpdkkcjaaDoorGramSpec
namespace Go.Proofs.YthfbmihpdkkcjaaDoor
open Go.RowKit

def sA : Sg := ⟨-1, 97, 97⟩
def s0 : Sg := ⟨0, 0, 0⟩
def gA1 : Fm := ⟨0, [sA, s0]⟩
def gB1 : Fm := ⟨0, [s0, sA]⟩
def gE : Fm := ⟨0, []⟩
def gA : Gm := ⟨1, [gA1, gE]⟩
def gB : Gm := ⟨1, [gB1, gE]⟩
theorem gA_mem {f : Fm} (h : f ∈ gA.fs) : f = gA1 ∨ f = gE := by simpa [gA] using h
theorem gB_mem {f : Fm} (h : f ∈ gB.fs) : f = gB1 ∨ f = gE := by simpa [gB] using h
theorem gA_van : Van gA 0 := van_of (g := gA) (f := gE) (by simp [gA]) (vanL_nil _)
theorem gB_van : Van gB 0 := van_of (g := gB) (f := gE) (by simp [gB]) (vanL_nil _)
theorem gA1_van : ¬ VanL gA gA1.b := fun h => by have := (h sA (by simp [gA1])).1; exact absurd this (by decide)
theorem gB1_van : ¬ VanL gB gB1.b := fun h => by have := (h sA (by simp [gB1])).1; exact absurd this (by decide)
theorem gA1_fir {c : Nat} : FirL gA c gA1.b ↔ c = 97 := by
  unfold gA1
  rw [firL_byte (by decide)]
  show 97 ≤ c ∧ c ≤ 97 ↔ c = 97
  omega
theorem gE_fir {g : Gm} {c : Nat} : ¬ FirL g c gE.b := fun h => h.elim
theorem gB1_fir : FirL gB 97 gB1.b := by
  unfold gB1
  rw [firL_name (by decide)]
  exact .inr ⟨gB_van, (firL_byte (by decide)).2 ⟨by decide, by decide⟩⟩
theorem gA_split {a r : List Sg} {s : Sg} (h : gA1.b = a ++ s :: r) (hs : 0 ≤ s.n) : r = [] := by
  match a, h with
  | [], h =>
    simp only [gA1, List.nil_append, List.cons.injEq] at h
    rw [← h.1] at hs
    exact absurd hs (by decide)
  | [x], h =>
    simp only [gA1, List.cons_append, List.nil_append, List.cons.injEq] at h
    exact h.2.2.symm
  | x :: y :: a', h =>
    simp only [gA1, List.cons_append, List.cons.injEq] at h
    simp at h
theorem gA_fol {c : Nat} {X : Int} (h : Fol gA c X) : False := by
  induction h with
  | here hf hb hs h =>
    rcases gA_mem hf with rfl | rfl
    · rw [gA_split hb hs] at h
      exact h.elim
    · simp [gE] at hb
  | up _ _ _ _ _ ih => exact ih
theorem gA_well : WellG gA := by
  refine ⟨fun h => ?_, fun f hf h => ?_⟩
  · rcases h with h | h | h
    · exact absurd h (by decide)
    · exact absurd h (by decide)
    · exact absurd h (by decide)
  · rcases gA_mem hf with rfl | rfl <;> rcases h with h | h | h | ⟨s, hs, h⟩
    · exact absurd h (by decide)
    · exact absurd h (by decide)
    · exact absurd h (by decide)
    · simp only [gA1, List.mem_cons, List.not_mem_nil, or_false] at hs
      rcases hs with rfl | rfl <;> exact absurd h (by decide)
    · exact absurd h (by decide)
    · exact absurd h (by decide)
    · exact absurd h (by decide)
    · simp [gE] at hs
theorem gB_well : WellG gB := by
  refine ⟨fun h => ?_, fun f hf h => ?_⟩
  · rcases h with h | h | h
    · exact absurd h (by decide)
    · exact absurd h (by decide)
    · exact absurd h (by decide)
  · rcases gB_mem hf with rfl | rfl <;> rcases h with h | h | h | ⟨s, hs, h⟩
    · exact absurd h (by decide)
    · exact absurd h (by decide)
    · exact absurd h (by decide)
    · simp only [gB1, List.mem_cons, List.not_mem_nil, or_false] at hs
      rcases hs with rfl | rfl <;> exact absurd h (by decide)
    · exact absurd h (by decide)
    · exact absurd h (by decide)
    · exact absurd h (by decide)
    · simp [gE] at hs
theorem gA_txt : Txt gA 0 := ⟨1, gE, by simp [gA], rfl, fun s hs => by simp [gE] at hs⟩
theorem gB_txt : Txt gB 0 := ⟨1, gE, by simp [gB], rfl, fun s hs => by simp [gE] at hs⟩
theorem only0 {Y : Nat} {k : Int} (hk : k = 1) (h : (Y : Int) < k) : Y = 0 := by omega
theorem gA_noclash : ¬ ClashG gA 0 := fun h => by
  rcases h with ⟨i, j, hij, hj, _, _, h⟩ | ⟨f, _, x, _, _, _, _, c, _, _, h⟩
  · have hj2 : j < 2 := hj
    obtain rfl : i = 0 := by omega
    obtain rfl : j = 1 := by omega
    rcases h with ⟨h, _⟩ | ⟨c, _, _, h⟩
    · exact gA1_van h
    · exact gE_fir h
  · exact gA_fol h
theorem gA_fit : FitG gA := ⟨gA_well, fun Y h => by rw [only0 rfl h]; exact gA_txt, fun Y h => by rw [only0 rfl h]; exact gA_noclash⟩
theorem gB_clash : ClashG gB 0 := .inr ⟨gE, by simp [gB], gB1, by simp [gB], rfl, rfl, vanL_nil _, 97, by decide, gB1_fir,
  Fol.here (f := gB1) (a := []) (r := [sA]) (s := s0) (by simp [gB]) rfl (by decide) ((firL_byte (by decide)).2 ⟨by decide, by decide⟩)⟩
theorem gB_check {r : Nat × Nat} (h : CheckIs gB r) : r = (91, 0) := by
  cases h with
  | big h => exact absurd h gB_well.1
  | @ill i h hi hf hj =>
    rw [List.getD_eq_getElem?_getD, List.getElem?_eq_getElem hi] at hf
    exact absurd hf (gB_well.2 _ (List.getElem_mem hi))
  | @barren X h hX ht hY => exact absurd (by rw [only0 rfl hX]; exact gB_txt) ht
  | @clash X h ht hX hc hY => rw [only0 rfl hX]
  | fit h ht hc => exact absurd gB_clash (hc 0 (by decide))
theorem gA_ok : GmOk gA := ⟨⟨by decide, by decide⟩, fun f hf => by
  rcases gA_mem hf with rfl | rfl
  · refine ⟨⟨by decide, by decide⟩, fun s hs => ?_⟩
    simp only [gA1, List.mem_cons, List.not_mem_nil, or_false] at hs
    rcases hs with rfl | rfl <;> exact ⟨⟨by decide, by decide⟩, by decide, by decide⟩
  · exact ⟨⟨by decide, by decide⟩, fun s hs => by simp [gE] at hs⟩⟩
theorem gA_step {t : List Nat} {r : Nat} {σ : List Sg} (h : RunG gA σ t r) : σ = [s0] → ∀ u, t = 97 :: u → RunG gA [s0] u r := by
  intro e u et
  have hF := gA_fit.fitF gA_ok
  cases h with
  | yes => cases e
  | rest => cases e
  | noByte hs h => cases e; exact absurd hs (by decide)
  | byte hs h1 h2 h => cases e; exact absurd hs (by decide)
  | noName hs h =>
    cases e
    subst et
    exact absurd ⟨by simp [gA], rfl, .inl ⟨97, u, rfl, gA1_fir.2 rfl⟩⟩ (h gA1)
  | deep hs hp hd =>
    cases e
    subst et
    have := pick_fir hF hp (h' := gA1) (by simp [gA]) rfl (gA1_fir.2 rfl)
    subst this
    exact absurd hd (by decide)
  | name hs hp hd h' =>
    cases e
    subst et
    have := pick_fir hF hp (h' := gA1) (by simp [gA]) rfl (gA1_fir.2 rfl)
    subst this
    have e2 : gA1.b ++ [] = [sA, s0] := rfl
    rw [e2] at h'
    cases h' with
    | noByte hs h => exact absurd ⟨by decide, by decide⟩ (h 97 u rfl)
    | byte hs h1 h2 h => exact h
    | noName hs h => exact absurd hs (by decide)
    | deep hs hp hd => exact absurd hs (by decide)
    | name hs hp hd h' => exact absurd hs (by decide)
theorem gA_stop {t : List Nat} {r : Nat} {σ : List Sg} (h : RunG gA σ t r) : σ = [s0] → (∀ u, t ≠ 97 :: u) → r = if t = [] then 1 else 0 := by
  intro e hne
  have hF := gA_fit.fitF gA_ok
  have hno : ∀ c u, t = c :: u → ∀ x ∈ gA.fs, x.n = s0.n → ¬ FirL gA c x.b := fun c u et x hx _ hc => by
    rcases gA_mem hx with rfl | rfl
    · exact hne u (by rw [et, gA1_fir.1 hc])
    · exact gE_fir hc
  cases h with
  | yes => cases e
  | rest => cases e
  | noByte hs h => cases e; exact absurd hs (by decide)
  | byte hs h1 h2 h => cases e; exact absurd hs (by decide)
  | noName hs h =>
    cases e
    exact absurd ⟨by simp [gA], rfl, .inr ⟨vanL_nil _, hno⟩⟩ (h gE)
  | deep hs hp hd =>
    cases e
    have := pick_van hF hp (h' := gE) (by simp [gA]) rfl (vanL_nil _) hno
    subst this
    exact absurd hd (by decide)
  | name hs hp hd h' =>
    cases e
    have := pick_van hF hp (h' := gE) (by simp [gA]) rfl (vanL_nil _) hno
    subst this
    have e2 : gE.b ++ [] = ([] : List Sg) := rfl
    rw [e2] at h'
    cases h' with
    | yes => rfl
    | rest => rfl
theorem gA_aaa {r : Nat} (h : RunG gA [s0] [97, 97, 97] r) : r = 1 :=
  gA_stop (gA_step (gA_step (gA_step h rfl _ rfl) rfl _ rfl) rfl _ rfl) rfl (fun u e => by cases e)
theorem gA_aab {r : Nat} (h : RunG gA [s0] [97, 97, 98] r) : r = 0 :=
  gA_stop (gA_step (gA_step h rfl _ rfl) rfl _ rfl) rfl (fun u e => by cases e)
end Go.Proofs.YthfbmihpdkkcjaaDoor
