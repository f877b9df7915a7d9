/-
  The least sets, as a loop reaches them: what is closed under the forms holds them all; tables of truths that only grow. No conditions.
-/
import Derived.Test.YthfbmihpdkkcjaaDoorGramSpec
namespace Go.Proofs.YthfbmihpdkkcjaaDoor
open Go.RowKit

theorem van_closed {g : Gm} {S : Int → Prop} (hS : ∀ f ∈ g.fs, (∀ s ∈ f.b, 0 ≤ s.n ∧ S s.n) → S f.n) {X : Int} (h : Van g X) : S X := by
  have key : ∀ (k : Nat) (X : Int), VanN g k X → S X := fun k => by
    induction k with
    | zero => exact fun _ h => h.elim
    | succ k ih =>
      rintro X ⟨f, hf, rfl, hb⟩
      exact hS f hf fun s hs => ⟨(hb s hs).1, ih _ (hb s hs).2⟩
  obtain ⟨k, hk⟩ := h
  exact key k X hk
theorem vanL_closed {g : Gm} {S : Int → Prop} (hS : ∀ f ∈ g.fs, (∀ s ∈ f.b, 0 ≤ s.n ∧ S s.n) → S f.n) {l : List Sg} (h : VanL g l) : ∀ s ∈ l, 0 ≤ s.n ∧ S s.n :=
  fun s hs => ⟨(h s hs).1, van_closed hS (h s hs).2⟩
theorem fir_closed {g : Gm} {c : Nat} {S : Int → Prop} (hS : ∀ f ∈ g.fs, FL g c S f.b → S f.n) {X : Int} (h : Fir g c X) : S X := by
  have key : ∀ (k : Nat) (X : Int), FirN g c k X → S X := fun k => by
    induction k with
    | zero => exact fun _ h => h.elim
    | succ k ih =>
      rintro X ⟨f, hf, rfl, hb⟩
      exact hS f hf (FL.mono ih hb)
  obtain ⟨k, hk⟩ := h
  exact key k X hk
/-- a first byte stands at a sign ahead of which all vanishes -/
theorem fl_at {g : Gm} {c : Nat} {S : Int → Prop} : ∀ {l : List Sg}, FL g c S l ↔ ∃ a s r, l = a ++ s :: r ∧ VanL g a ∧ ((s.n < 0 ∧ s.lo ≤ c ∧ c ≤ s.hi) ∨ (0 ≤ s.n ∧ S s.n))
  | [] => ⟨fun h => h.elim, fun ⟨a, s, r, e, _⟩ => by simp at e⟩
  | x :: l => by
    constructor
    · intro h
      rw [FL] at h
      split at h
      · rename_i hx
        exact ⟨[], x, l, rfl, vanL_nil g, .inl ⟨hx, h⟩⟩
      · rename_i hx
        rcases h with h | ⟨h1, h2⟩
        · exact ⟨[], x, l, rfl, vanL_nil g, .inr ⟨by omega, h⟩⟩
        · obtain ⟨a, s, r, e, ha, hs⟩ := fl_at.1 h2
          refine ⟨x :: a, s, r, by rw [e]; rfl, fun y hy => ?_, hs⟩
          rcases List.mem_cons.1 hy with rfl | hy
          · exact ⟨by omega, h1⟩
          · exact ha y hy
    · rintro ⟨a, s, r, e, ha, hs⟩
      rw [FL]
      match a, e, ha with
      | [], e, _ =>
        simp only [List.nil_append, List.cons.injEq] at e
        rw [e.1]
        rcases hs with ⟨h0, h1⟩ | ⟨h0, h1⟩
        · rw [if_pos h0]; exact h1
        · rw [if_neg (by omega)]; exact .inl h1
      | y :: a, e, ha =>
        simp only [List.cons_append, List.cons.injEq] at e
        have hy := ha y (List.mem_cons_self ..)
        rw [e.1, if_neg (by omega)]
        exact .inr ⟨hy.2, fl_at.2 ⟨a, s, r, e.2, fun z hz => ha z (List.mem_cons_of_mem _ hz), hs⟩⟩
theorem fol_closed {g : Gm} {c : Nat} {S : Int → Prop} (h1 : ∀ f ∈ g.fs, ∀ a s r, f.b = a ++ s :: r → 0 ≤ s.n → FirL g c r → S s.n) (h2 : ∀ f ∈ g.fs, ∀ a s r, f.b = a ++ s :: r → 0 ≤ s.n → VanL g r → S f.n → S s.n) {X : Int} (h : Fol g c X) : S X := by
  induction h with
  | here hf hb hs h => exact h1 _ hf _ _ _ hb hs h
  | up hf hb hs h _ ih => exact h2 _ hf _ _ _ hb hs h ih
theorem TxtN.mono {g : Gm} : ∀ {k : Nat} {X : Int}, TxtN g k X → TxtN g (k + 1) X
  | 0, _, h => h.elim
  | _ + 1, _, ⟨f, hf, hn, hb⟩ => ⟨f, hf, hn, fun s hs => (hb s hs).elim .inl fun h => .inr ⟨h.1, h.2.mono⟩⟩
theorem TxtN.le {g : Gm} {k m : Nat} {X : Int} (h : TxtN g k X) (hk : k ≤ m) : TxtN g m X := by
  induction hk with
  | refl => exact h
  | step _ ih => exact ih.mono
def TxtL (g : Gm) (l : List Sg) : Prop := ∀ s ∈ l, (s.n < 0 ∧ s.lo ≤ s.hi) ∨ (0 ≤ s.n ∧ Txt g s.n)
theorem txtL_n {g : Gm} : ∀ {l : List Sg}, TxtL g l → ∃ k, ∀ s ∈ l, (s.n < 0 ∧ s.lo ≤ s.hi) ∨ (0 ≤ s.n ∧ TxtN g k s.n)
  | [], _ => ⟨0, fun _ h => by cases h⟩
  | s :: r, h => by
    obtain ⟨k, hk⟩ := txtL_n (l := r) (fun x hx => h x (List.mem_cons_of_mem _ hx))
    have tail : ∀ m, k ≤ m → ∀ x ∈ r, (x.n < 0 ∧ x.lo ≤ x.hi) ∨ (0 ≤ x.n ∧ TxtN g m x.n) := fun m hm x hx => (hk x hx).elim .inl fun q => .inr ⟨q.1, q.2.le hm⟩
    rcases h s (List.mem_cons_self ..) with h0 | ⟨h0, m, hm⟩
    · refine ⟨k, fun x hx => ?_⟩
      rcases List.mem_cons.1 hx with rfl | hx
      · exact .inl h0
      · exact tail k (Nat.le_refl _) x hx
    · refine ⟨max k m, fun x hx => ?_⟩
      rcases List.mem_cons.1 hx with rfl | hx
      · exact .inr ⟨h0, hm.le (Nat.le_max_right ..)⟩
      · exact tail _ (Nat.le_max_left ..) x hx
theorem txt_of {g : Gm} {f : Fm} (hf : f ∈ g.fs) (h : TxtL g f.b) : Txt g f.n := by
  obtain ⟨k, hk⟩ := txtL_n h
  exact ⟨k + 1, f, hf, rfl, hk⟩
theorem txt_closed {g : Gm} {S : Int → Prop} (hS : ∀ f ∈ g.fs, (∀ s ∈ f.b, (s.n < 0 ∧ s.lo ≤ s.hi) ∨ (0 ≤ s.n ∧ S s.n)) → S f.n) {X : Int} (h : Txt g X) : S X := by
  have key : ∀ (k : Nat) (X : Int), TxtN g k X → S X := fun k => by
    induction k with
    | zero => exact fun _ h => h.elim
    | succ k ih =>
      rintro X ⟨f, hf, rfl, hb⟩
      exact hS f hf fun s hs => (hb s hs).elim .inl fun q => .inr ⟨q.1, ih _ q.2⟩
  obtain ⟨k, hk⟩ := h
  exact key k X hk

/-- tables of truths: how many are set; one more; all of them -/
def cntT : List Bool → Nat
  | [] => 0
  | b :: r => (if b then 1 else 0) + cntT r
theorem cntT_le : ∀ t : List Bool, cntT t ≤ t.length
  | [] => Nat.le_refl _
  | b :: r => by
    have := cntT_le r
    simp only [cntT, List.length_cons]
    split <;> omega
theorem cntT_set : ∀ {t : List Bool} {i : Nat}, i < t.length → t.getD i false = false → cntT (t.set i true) = cntT t + 1
  | b :: r, 0, _, h => by
    obtain rfl : b = false := by simpa using h
    simp only [List.set_cons_zero, cntT]
    simp
    omega
  | b :: r, i + 1, hi, h => by
    have := cntT_set (t := r) (i := i) (by simpa using hi) (by simpa using h)
    simp only [List.set_cons_succ, cntT, this]
    omega
theorem cntT_set_le {t : List Bool} {i : Nat} (hi : i < t.length) : cntT t ≤ cntT (t.set i true) := by
  by_cases h : t.getD i false = false
  · rw [cntT_set hi h]; omega
  · have e : t.set i true = t := by
      apply List.ext_getElem?
      intro j
      by_cases hj : i = j
      · subst hj
        have : t[i]'hi = true := by simpa [List.getD, hi] using h
        simp [hi, this]
      · simp [hj]
    rw [e]
    exact Nat.le_refl _
theorem cntT_all : ∀ {t : List Bool}, cntT t = t.length → ∀ i, i < t.length → t.getD i false = true
  | b :: r, h, i, hi => by
    have h1 := cntT_le r
    simp only [cntT, List.length_cons] at h
    have hb : b = true := by
      cases b with
      | true => rfl
      | false => simp at h; omega
    subst hb
    match i, hi with
    | 0, _ => rfl
    | i + 1, hi => exact cntT_all (t := r) (by simp at h; omega) i (by simpa using hi)
/-- setting one truth -/
theorem getD_setT {t : List Bool} {i j : Nat} (hi : i < t.length) : (t.set i true).getD j false = if j = i then true else t.getD j false := by
  by_cases h : j = i
  · subst h; simp [List.getD, hi]
  · simp [List.getD, Ne.symm h, h]
/-- no more than there is room for -/
theorem pow_of {K a : Nat} {t : List Bool} (h : t.length = K) (ha : K < a) : ¬ a ≤ cntT t := by
  have := cntT_le t
  omega

/-- how many steps the stack's machine still takes, at most: Match's measure -/
theorem least_of {P : Nat → Prop} (h : ∃ n, P n) : ∃ n, P n ∧ ∀ m, m < n → ¬ P m := by
  obtain ⟨n, hn⟩ := h
  induction n using Nat.strongRecOn with
  | ind n ih =>
    by_cases hm : ∃ m, m < n ∧ P m
    · obtain ⟨m, h1, h2⟩ := hm
      exact ih m h1 h2
    · exact ⟨n, hn, fun m h1 h2 => hm ⟨m, h1, h2⟩⟩
open Classical in
noncomputable def muG (g : Gm) (σ : List Sg) (t : List Nat) : Nat := if h : ∃ n, Halts g n σ t then Classical.choose (least_of h) else 0
theorem muG_halts {g : Gm} (hF : FitF g) (σ : List Sg) (t : List Nat) : Halts g (muG g σ t) σ t ∧ ∀ m, m < muG g σ t → ¬ Halts g m σ t := by
  have h := halts hF t σ
  unfold muG
  rw [dif_pos h]
  exact Classical.choose_spec (least_of h)
theorem muG_step {g : Gm} (hF : FitF g) {σ σ' : List Sg} {t t' : List Nat} (hs : StepG g σ t σ' t') : muG g σ' t' < muG g σ t := by
  have h := (muG_halts hF σ t).1
  cases e : muG g σ t with
  | zero =>
    rw [e] at h
    exact absurd hs (h σ' t')
  | succ k =>
    rw [e] at h
    have h' : Halts g k σ' t' := h σ' t' hs
    rcases Nat.lt_or_ge k (muG g σ' t') with hk | hk
    · exact absurd h' ((muG_halts hF σ' t').2 k hk)
    · omega
end Go.Proofs.YthfbmihpdkkcjaaDoor
