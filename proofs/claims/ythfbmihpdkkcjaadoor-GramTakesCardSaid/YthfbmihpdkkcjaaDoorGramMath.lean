/-
  Grammars as plain data: what vanishes, first bytes, what follows, derivations, fit grammars, the stack's machine; that it halts, takes what is derived, and begins by a first byte. No conditions.
-/
import Derived.Test.YthfbmihpdkkcjaaDoorRow
namespace Go.Proofs.YthfbmihpdkkcjaaDoor
open Go.RowKit

structure Sg where
  n : Int
  lo : Nat
  hi : Nat
deriving DecidableEq, Inhabited
structure Fm where
  n : Int
  b : List Sg
deriving DecidableEq, Inhabited
structure Gm where
  k : Int
  fs : List Fm

/-- it vanishes behind k rounds -/
def VanN (g : Gm) : Nat → Int → Prop
  | 0, _ => False
  | k + 1, X => ∃ f ∈ g.fs, f.n = X ∧ ∀ s ∈ f.b, 0 ≤ s.n ∧ VanN g k s.n
def Van (g : Gm) (X : Int) : Prop := ∃ k, VanN g k X
def VanL (g : Gm) (l : List Sg) : Prop := ∀ s ∈ l, 0 ≤ s.n ∧ Van g s.n
theorem VanN.mono {g : Gm} : ∀ {k : Nat} {X : Int}, VanN g k X → VanN g (k + 1) X
  | 0, _, h => h.elim
  | _ + 1, _, ⟨f, hf, hn, hb⟩ => ⟨f, hf, hn, fun s hs => ⟨(hb s hs).1, (hb s hs).2.mono⟩⟩
theorem VanN.le {g : Gm} {k m : Nat} {X : Int} (h : VanN g k X) (hk : k ≤ m) : VanN g m X := by
  induction hk with
  | refl => exact h
  | step _ ih => exact ih.mono
theorem vanL_n {g : Gm} : ∀ {l : List Sg}, VanL g l → ∃ k, ∀ s ∈ l, 0 ≤ s.n ∧ VanN g k s.n
  | [], _ => ⟨0, fun _ h => by cases h⟩
  | s :: r, h => by
    obtain ⟨k, hk⟩ := vanL_n (l := r) (fun x hx => h x (List.mem_cons_of_mem _ hx))
    obtain ⟨h0, m, hm⟩ := h s (List.mem_cons_self ..)
    refine ⟨max k m, fun x hx => ?_⟩
    rcases List.mem_cons.1 hx with rfl | hx
    · exact ⟨h0, hm.le (Nat.le_max_right ..)⟩
    · exact ⟨(hk x hx).1, (hk x hx).2.le (Nat.le_max_left ..)⟩
theorem van_of {g : Gm} {f : Fm} (hf : f ∈ g.fs) (h : VanL g f.b) : Van g f.n := by
  obtain ⟨k, hk⟩ := vanL_n h
  exact ⟨k + 1, f, hf, rfl, hk⟩
theorem van_form {g : Gm} {X : Int} (h : Van g X) : ∃ f ∈ g.fs, f.n = X ∧ VanL g f.b := by
  obtain ⟨k, hk⟩ := h
  cases k with
  | zero => exact hk.elim
  | succ k =>
    obtain ⟨f, hf, hn, hb⟩ := hk
    exact ⟨f, hf, hn, fun s hs => ⟨(hb s hs).1, k, (hb s hs).2⟩⟩
theorem vanL_app {g : Gm} {a b : List Sg} : VanL g (a ++ b) ↔ VanL g a ∧ VanL g b :=
  ⟨fun h => ⟨fun s hs => h s (List.mem_append_left _ hs), fun s hs => h s (List.mem_append_right _ hs)⟩, fun h s hs => (List.mem_append.1 hs).elim (h.1 s) (h.2 s)⟩
theorem vanL_nil (g : Gm) : VanL g [] := fun _ h => by cases h

/-- a list's first bytes, where it is known of names -/
def FL (g : Gm) (c : Nat) (P : Int → Prop) : List Sg → Prop
  | [] => False
  | s :: r => if s.n < 0 then s.lo ≤ c ∧ c ≤ s.hi else (P s.n ∨ (Van g s.n ∧ FL g c P r))
def FirN (g : Gm) (c : Nat) : Nat → Int → Prop
  | 0, _ => False
  | k + 1, X => ∃ f ∈ g.fs, f.n = X ∧ FL g c (FirN g c k) f.b
def Fir (g : Gm) (c : Nat) (X : Int) : Prop := ∃ k, FirN g c k X
def FirL (g : Gm) (c : Nat) (l : List Sg) : Prop := FL g c (Fir g c) l
theorem FL.mono {g : Gm} {c : Nat} {P Q : Int → Prop} (h : ∀ X, P X → Q X) : ∀ {l : List Sg}, FL g c P l → FL g c Q l
  | [], h' => h'
  | s :: r, h' => by
    unfold FL at h' ⊢
    split
    · rename_i hs; rwa [if_pos hs] at h'
    · rename_i hs
      rw [if_neg hs] at h'
      rcases h' with h1 | ⟨h1, h2⟩
      · exact .inl (h _ h1)
      · exact .inr ⟨h1, FL.mono h h2⟩
theorem FirN.mono {g : Gm} {c : Nat} : ∀ {k : Nat} {X : Int}, FirN g c k X → FirN g c (k + 1) X
  | 0, _, h => h.elim
  | _ + 1, _, ⟨f, hf, hn, hb⟩ => ⟨f, hf, hn, FL.mono (fun _ h => FirN.mono h) hb⟩
theorem FirN.le {g : Gm} {c k m : Nat} {X : Int} (h : FirN g c k X) (hk : k ≤ m) : FirN g c m X := by
  induction hk with
  | refl => exact h
  | step _ ih => exact ih.mono
theorem firL_n {g : Gm} {c : Nat} : ∀ {l : List Sg}, FirL g c l → ∃ k, FL g c (FirN g c k) l
  | [], h => h.elim
  | s :: r, h => by
    unfold FirL FL at h
    split at h
    · rename_i hs
      exact ⟨0, by unfold FL; rw [if_pos hs]; exact h⟩
    · rename_i hs
      rcases h with ⟨k, hk⟩ | ⟨h1, h2⟩
      · exact ⟨k, by unfold FL; rw [if_neg hs]; exact .inl hk⟩
      · obtain ⟨k, hk⟩ := firL_n (l := r) h2
        exact ⟨k, by unfold FL; rw [if_neg hs]; exact .inr ⟨h1, hk⟩⟩
theorem fir_of {g : Gm} {c : Nat} {f : Fm} (hf : f ∈ g.fs) (h : FirL g c f.b) : Fir g c f.n := by
  obtain ⟨k, hk⟩ := firL_n h
  exact ⟨k + 1, f, hf, rfl, hk⟩
theorem fir_form {g : Gm} {c : Nat} {X : Int} (h : Fir g c X) : ∃ f ∈ g.fs, f.n = X ∧ FirL g c f.b := by
  obtain ⟨k, hk⟩ := h
  cases k with
  | zero => exact hk.elim
  | succ k =>
    obtain ⟨f, hf, hn, hb⟩ := hk
    exact ⟨f, hf, hn, FL.mono (fun X hX => ⟨k, hX⟩) hb⟩
theorem firL_byte {g : Gm} {c : Nat} {s : Sg} {r : List Sg} (hs : s.n < 0) : FirL g c (s :: r) ↔ s.lo ≤ c ∧ c ≤ s.hi := by
  unfold FirL
  rw [FL, if_pos hs]
theorem firL_name {g : Gm} {c : Nat} {s : Sg} {r : List Sg} (hs : ¬ s.n < 0) : FirL g c (s :: r) ↔ Fir g c s.n ∨ (Van g s.n ∧ FirL g c r) := by
  unfold FirL
  rw [FL, if_neg hs]
theorem firL_app {g : Gm} {c : Nat} : ∀ {a b : List Sg}, FirL g c (a ++ b) ↔ FirL g c a ∨ (VanL g a ∧ FirL g c b)
  | [], b => ⟨fun h => .inr ⟨vanL_nil g, h⟩, fun h => by rcases h with h | h; exact h.elim; exact h.2⟩
  | s :: r, b => by
    rw [List.cons_append]
    by_cases hs : s.n < 0
    · rw [firL_byte hs, firL_byte hs]
      exact ⟨.inl, fun h => by rcases h with h | ⟨h, _⟩; exact h; have := (h s (List.mem_cons_self ..)).1; omega⟩
    · rw [firL_name hs, firL_name hs, firL_app (a := r)]
      constructor
      · rintro (h | ⟨h1, h2 | ⟨h2, h3⟩⟩)
        · exact .inl (.inl h)
        · exact .inl (.inr ⟨h1, h2⟩)
        · exact .inr ⟨fun x hx => by rcases List.mem_cons.1 hx with rfl | hx; exact ⟨by omega, h1⟩; exact h2 x hx, h3⟩
      · rintro ((h | ⟨h1, h2⟩) | ⟨h1, h2⟩)
        · exact .inl h
        · exact .inr ⟨h1, .inl h2⟩
        · exact .inr ⟨(h1 s (List.mem_cons_self ..)).2, .inr ⟨fun x hx => h1 x (List.mem_cons_of_mem _ hx), h2⟩⟩

/-- what follows a name -/
inductive Fol (g : Gm) (c : Nat) : Int → Prop
  | here {f : Fm} {a r : List Sg} {s : Sg} (hf : f ∈ g.fs) (hb : f.b = a ++ s :: r) (hs : 0 ≤ s.n) (h : FirL g c r) : Fol g c s.n
  | up {f : Fm} {a r : List Sg} {s : Sg} (hf : f ∈ g.fs) (hb : f.b = a ++ s :: r) (hs : 0 ≤ s.n) (h : VanL g r) (h' : Fol g c f.n) : Fol g c s.n

/-- the texts of a list of signs -/
inductive Der (g : Gm) : List Sg → List Nat → Prop
  | nil : Der g [] []
  | byte {s : Sg} {r : List Sg} {c : Nat} {t : List Nat} (hs : s.n < 0) (h1 : s.lo ≤ c) (h2 : c ≤ s.hi) (h : Der g r t) : Der g (s :: r) (c :: t)
  | name {s : Sg} {r : List Sg} {f : Fm} {u t : List Nat} (hs : 0 ≤ s.n) (hf : f ∈ g.fs) (hn : f.n = s.n) (hu : Der g f.b u) (h : Der g r t) : Der g (s :: r) (u ++ t)
theorem der_van {g : Gm} {l : List Sg} {t : List Nat} (h : Der g l t) : t = [] → VanL g l := by
  induction h with
  | nil => exact fun _ => vanL_nil g
  | byte => intro e; cases e
  | name hs hf hn hu h ih1 ih2 =>
    intro e
    rw [List.append_eq_nil_iff] at e
    intro x hx
    rcases List.mem_cons.1 hx with rfl | hx
    · exact ⟨hs, hn ▸ van_of hf (ih1 e.1)⟩
    · exact ih2 e.2 x hx
theorem der_fir {g : Gm} {l : List Sg} {t : List Nat} (h : Der g l t) : ∀ {c : Nat} {r : List Nat}, t = c :: r → FirL g c l := by
  induction h with
  | nil => intro c r e; cases e
  | byte hs h1 h2 h _ =>
    intro c r e
    cases e
    exact (firL_byte hs).2 ⟨h1, h2⟩
  | @name s r f u t hs hf hn hu h ih1 ih2 =>
    intro c r' e
    refine (firL_name (by omega)).2 ?_
    cases u with
    | nil => exact .inr ⟨hn ▸ van_of hf (der_van hu rfl), ih2 e⟩
    | cons x u =>
      cases e
      exact .inl (hn ▸ fir_of hf (ih1 rfl))

theorem der_byte {g : Gm} {l : List Sg} {t : List Nat} (h : Der g l t) {s : Sg} {r : List Sg} (hl : l = s :: r) (hs : s.n < 0) : ∃ c u, t = c :: u ∧ s.lo ≤ c ∧ c ≤ s.hi ∧ Der g r u := by
  cases h with
  | nil => cases hl
  | byte _ h1 h2 h => cases hl; exact ⟨_, _, rfl, h1, h2, h⟩
  | name h0 => cases hl; omega
theorem der_name {g : Gm} {l : List Sg} {t : List Nat} (h : Der g l t) {s : Sg} {r : List Sg} (hl : l = s :: r) (hs : 0 ≤ s.n) : ∃ f u v, t = u ++ v ∧ f ∈ g.fs ∧ f.n = s.n ∧ Der g f.b u ∧ Der g r v := by
  cases h with
  | nil => cases hl
  | byte h0 => cases hl; omega
  | name _ hf hn hu h => cases hl; exact ⟨_, _, _, rfl, hf, hn, hu, h⟩
/-- a fit grammar, in so far as the machine leans on it -/
structure FitF (g : Gm) : Prop where
  uv : ∀ f ∈ g.fs, ∀ h ∈ g.fs, f.n = h.n → VanL g f.b → VanL g h.b → f = h
  uf : ∀ c, ∀ f ∈ g.fs, ∀ h ∈ g.fs, f.n = h.n → FirL g c f.b → FirL g c h.b → f = h
  vf : ∀ c, ∀ f ∈ g.fs, ∀ h ∈ g.fs, f.n = h.n → VanL g f.b → FirL g c h.b → ¬ Fol g c f.n

/-- may the form be chosen for a name, where the text is t? -/
def Pick (g : Gm) (t : List Nat) (X : Int) (f : Fm) : Prop :=
  f ∈ g.fs ∧ f.n = X ∧ ((∃ c r, t = c :: r ∧ FirL g c f.b) ∨ (VanL g f.b ∧ ∀ c r, t = c :: r → ∀ h ∈ g.fs, h.n = X → ¬ FirL g c h.b))
/-- the stack's machine: from a stack and a text to an answer -/
inductive RunG (g : Gm) : List Sg → List Nat → Nat → Prop
  | yes : RunG g [] [] 1
  | rest {c : Nat} {t : List Nat} : RunG g [] (c :: t) 0
  | noByte {s : Sg} {σ : List Sg} {t : List Nat} (hs : s.n < 0) (h : ∀ c r, t = c :: r → ¬ (s.lo ≤ c ∧ c ≤ s.hi)) : RunG g (s :: σ) t 0
  | byte {s : Sg} {σ : List Sg} {c : Nat} {t : List Nat} {r : Nat} (hs : s.n < 0) (h1 : s.lo ≤ c) (h2 : c ≤ s.hi) (h : RunG g σ t r) : RunG g (s :: σ) (c :: t) r
  | noName {s : Sg} {σ : List Sg} {t : List Nat} (hs : 0 ≤ s.n) (h : ∀ f, ¬ Pick g t s.n f) : RunG g (s :: σ) t 0
  | deep {s : Sg} {σ : List Sg} {t : List Nat} {f : Fm} (hs : 0 ≤ s.n) (h : Pick g t s.n f) (hd : 32 < (f.b ++ σ).length) : RunG g (s :: σ) t 2
  | name {s : Sg} {σ : List Sg} {t : List Nat} {f : Fm} {r : Nat} (hs : 0 ≤ s.n) (h : Pick g t s.n f) (hd : (f.b ++ σ).length ≤ 32) (h' : RunG g (f.b ++ σ) t r) : RunG g (s :: σ) t r

/-- what is behind each name of a stack follows it -/
def StOk (g : Gm) : List Sg → Prop
  | [] => True
  | s :: r => (0 ≤ s.n → ∀ c, FirL g c r → Fol g c s.n) ∧ StOk g r
theorem stOk_body {g : Gm} {f : Fm} (hf : f ∈ g.fs) {σ : List Sg} (hσ : StOk g σ) (hfol : ∀ c, FirL g c σ → Fol g c f.n) : ∀ {b a : List Sg}, f.b = a ++ b → StOk g (b ++ σ)
  | [], _, _ => hσ
  | s :: r, a, e => by
    refine ⟨fun hs c hc => ?_, stOk_body hf hσ hfol (b := r) (a := a ++ [s]) (by rw [e]; simp)⟩
    rcases firL_app.1 hc with h | ⟨h1, h2⟩
    · exact .here hf e hs h
    · exact .up hf e hs h1 (hfol c h2)
theorem pick_fir {g : Gm} {c : Nat} {r : List Nat} {X : Int} {f : Fm} (hF : FitF g) (h : Pick g (c :: r) X f) {h' : Fm} (hm : h' ∈ g.fs) (hn : h'.n = X) (hc : FirL g c h'.b) : f = h' := by
  obtain ⟨h1, h2, h3 | h3⟩ := h
  · obtain ⟨c', r', e, h3⟩ := h3
    cases e
    exact hF.uf c f h1 h' hm (h2.trans hn.symm) h3 hc
  · exact absurd hc (h3.2 c r rfl h' hm hn)
theorem pick_van {g : Gm} {t : List Nat} {X : Int} {f : Fm} (hF : FitF g) (h : Pick g t X f) {h' : Fm} (hm : h' ∈ g.fs) (hn : h'.n = X) (hv : VanL g h'.b) (hno : ∀ c r, t = c :: r → ∀ x ∈ g.fs, x.n = X → ¬ FirL g c x.b) : f = h' := by
  obtain ⟨h1, h2, h3 | h3⟩ := h
  · obtain ⟨c, r, e, h3⟩ := h3
    exact absurd h3 (hno c r e f h1 h2)
  · exact hF.uv f h1 h' hm (h2.trans hn.symm) h3.1 hv
/-- no first byte of a name that vanishes comes behind it -/
theorem no_fir {g : Gm} (hF : FitF g) {f : Fm} (hf : f ∈ g.fs) (hv : VanL g f.b) {c : Nat} (hc : Fol g c f.n) : ∀ h ∈ g.fs, h.n = f.n → ¬ FirL g c h.b :=
  fun h hm hn hc' => hF.vf c f hf h hm hn.symm hv hc' hc
theorem der_app {g : Gm} {a b : List Sg} {u v : List Nat} (h : Der g a u) (h' : Der g b v) : Der g (a ++ b) (u ++ v) := by
  induction h with
  | nil => exact h'
  | byte hs h1 h2 _ ih => exact .byte hs h1 h2 ih
  | name hs hf hn hu _ _ ih => rw [List.append_assoc]; exact .name hs hf hn hu ih
/-- it takes what is derived -/
theorem run_takes {g : Gm} (hF : FitF g) {σ : List Sg} {t : List Nat} {r : Nat} (h : RunG g σ t r) : StOk g σ → Der g σ t → r = 1 ∨ r = 2 := by
  induction h with
  | yes => exact fun _ _ => .inl rfl
  | rest => intro _ hd; cases hd
  | noByte hs h =>
    intro _ hd
    obtain ⟨c, u, e, h1, h2, _⟩ := der_byte hd rfl hs
    exact absurd ⟨h1, h2⟩ (h c u e)
  | byte hs h1 h2 h ih =>
    intro ho hd
    obtain ⟨c, u, e, _, _, hd⟩ := der_byte hd rfl hs
    cases e
    exact ih ho.2 hd
  | @noName s σ t hs h =>
    intro ho hd
    obtain ⟨f, u, v, rfl, hf, hn, hu, hv⟩ := der_name hd rfl hs
    exfalso
    cases u with
    | cons c u => exact h f ⟨hf, hn, .inl ⟨c, u ++ v, rfl, der_fir hu rfl⟩⟩
    | nil =>
      refine h f ⟨hf, hn, .inr ⟨der_van hu rfl, fun c r e x hx hxn => ?_⟩⟩
      exact no_fir hF hf (der_van hu rfl) (hn ▸ ho.1 hs c (der_fir hv e)) x hx (hxn.trans hn.symm)
  | deep => exact fun _ _ => .inr rfl
  | @name s σ t f r hs h hd _ ih =>
    intro ho hd
    obtain ⟨f', u, v, rfl, hf, hn, hu, hv⟩ := der_name hd rfl hs
    have e : f = f' := by
      cases u with
      | cons c u => exact pick_fir hF h hf hn (der_fir hu rfl)
      | nil =>
        refine pick_van hF h hf hn (der_van hu rfl) (fun c r e x hx hxn => ?_)
        exact no_fir hF hf (der_van hu rfl) (hn ▸ ho.1 hs c (der_fir hv e)) x hx (hxn.trans hn.symm)
    subst e
    exact ih (stOk_body hf ho.2 (fun c hc => hn ▸ ho.1 hs c hc) (a := []) rfl) (der_app hu hv)
/-- a text that is matched begins by a first byte of the stack -/
theorem run_begins {g : Gm} {σ : List Sg} {t : List Nat} {r : Nat} (h : RunG g σ t r) : r = 1 → ∀ c u, t = c :: u → FirL g c σ := by
  induction h with
  | yes => intro _ c u e; cases e
  | rest => intro e; cases e
  | noByte => intro e; cases e
  | byte hs h1 h2 _ _ =>
    intro _ c u e
    cases e
    exact (firL_byte hs).2 ⟨h1, h2⟩
  | noName => intro e; cases e
  | deep => intro e; cases e
  | @name s σ t f r hs h hd _ ih =>
    intro e c u et
    have h1 := ih e c u et
    refine (firL_name (by omega)).2 ?_
    obtain ⟨hf, hn, _⟩ := h
    rcases firL_app.1 h1 with h2 | ⟨h2, h3⟩
    · exact .inl (hn ▸ fir_of hf h2)
    · exact .inr ⟨hn ▸ van_of hf h2, h3⟩
/-- the empty text -/
theorem run_empty {g : Gm} {σ : List Sg} {t : List Nat} {r : Nat} (h : RunG g σ t r) : t = [] → (r = 1 → VanL g σ) ∧ (VanL g σ → r = 1 ∨ r = 2) := by
  induction h with
  | yes => exact fun _ => ⟨fun _ => vanL_nil g, fun _ => .inl rfl⟩
  | rest => intro e; cases e
  | @noByte s σ t hs h => exact fun _ => ⟨(fun e => by cases e), fun hv => by have := (hv s (List.mem_cons_self ..)).1; omega⟩
  | byte => intro e; cases e
  | @noName s σ t hs h =>
    intro e
    subst e
    refine ⟨(fun e => by cases e), fun hv => ?_⟩
    exfalso
    obtain ⟨f, hf, hn, hb⟩ := van_form (hv s (List.mem_cons_self ..)).2
    exact h f ⟨hf, hn, .inr ⟨hb, fun c r e => by cases e⟩⟩
  | deep => exact fun _ => ⟨(fun e => by cases e), fun _ => .inr rfl⟩
  | @name s σ t f r hs h hd _ ih =>
    intro e
    subst e
    have hvb : VanL g f.b := by
      obtain ⟨_, _, h3 | h3⟩ := h
      · obtain ⟨c, r, e, _⟩ := h3; cases e
      · exact h3.1
    refine ⟨fun e x hx => ?_, fun hv => (ih rfl).2 (vanL_app.2 ⟨hvb, fun x hx => hv x (List.mem_cons_of_mem _ hx)⟩)⟩
    have h1 := vanL_app.1 ((ih rfl).1 e)
    rcases List.mem_cons.1 hx with rfl | hx
    · exact ⟨hs, h.2.1 ▸ van_of h.1 h1.1⟩
    · exact h1.2 x hx

/-- a step of the machine -/
inductive StepG (g : Gm) : List Sg → List Nat → List Sg → List Nat → Prop
  | byte {s : Sg} {σ : List Sg} {c : Nat} {t : List Nat} (hs : s.n < 0) : StepG g (s :: σ) (c :: t) σ t
  | name {s : Sg} {σ : List Sg} {t : List Nat} {f : Fm} (hs : 0 ≤ s.n) (h : Pick g t s.n f) : StepG g (s :: σ) t (f.b ++ σ) t
/-- it halts within so many steps -/
def Halts (g : Gm) : Nat → List Sg → List Nat → Prop
  | 0, σ, t => ∀ σ' t', ¬ StepG g σ t σ' t'
  | n + 1, σ, t => ∀ σ' t', StepG g σ t σ' t' → Halts g n σ' t'
theorem Halts.mono {g : Gm} : ∀ {n : Nat} {σ : List Sg} {t : List Nat}, Halts g n σ t → Halts g (n + 1) σ t
  | 0, _, _, h => fun σ' t' hs => absurd hs (h σ' t')
  | _ + 1, _, _, h => fun σ' t' hs => (h σ' t' hs).mono
theorem halts_step {g : Gm} {σ : List Sg} {t : List Nat} (h : ∃ σ' t' n, (∀ σ'' t'', StepG g σ t σ'' t'' → σ'' = σ' ∧ t'' = t') ∧ Halts g n σ' t') : ∃ n, Halts g n σ t := by
  obtain ⟨σ', t', n, h1, h2⟩ := h
  exact ⟨n + 1, fun σ'' t'' hs => by obtain ⟨rfl, rfl⟩ := h1 _ _ hs; exact h2⟩
theorem halts_no {g : Gm} {σ : List Sg} {t : List Nat} (h : ∀ σ' t', ¬ StepG g σ t σ' t') : ∃ n, Halts g n σ t := ⟨0, h⟩
/-- a name that only vanishes: where what is behind it halts, so does it -/
theorem halts_van {g : Gm} (hF : FitF g) {t : List Nat} : ∀ (k : Nat) {s : Sg} {σ : List Sg}, 0 ≤ s.n → VanN g k s.n → (∀ c r, t = c :: r → ¬ Fir g c s.n) → (∃ n, Halts g n σ t) → ∃ n, Halts g n (s :: σ) t
  | 0, _, _, _, hv, _, _ => hv.elim
  | k + 1, s, σ, hs, ⟨f, hf, hn, hb⟩, hno, hσ => by
    have hfv : VanL g f.b := fun x hx => ⟨(hb x hx).1, k, (hb x hx).2⟩
    have hnf : ∀ c r, t = c :: r → ∀ x ∈ g.fs, x.n = s.n → ¬ FirL g c x.b := fun c r e x hx hxn hc => hno c r e (hxn ▸ fir_of hx hc)
    have key : ∀ (b : List Sg), (∀ x ∈ b, 0 ≤ x.n ∧ VanN g k x.n) → (∀ x ∈ b, ∀ c r, t = c :: r → ¬ Fir g c x.n) → ∃ n, Halts g n (b ++ σ) t := by
      intro b
      induction b with
      | nil => exact fun _ _ => hσ
      | cons x r ih =>
        intro h1 h2
        exact halts_van hF k (h1 x (List.mem_cons_self ..)).1 (h1 x (List.mem_cons_self ..)).2 (h2 x (List.mem_cons_self ..)) (ih (fun y hy => h1 y (List.mem_cons_of_mem _ hy)) (fun y hy => h2 y (List.mem_cons_of_mem _ hy)))
    have hbf : ∀ x ∈ f.b, ∀ c r, t = c :: r → ¬ Fir g c x.n := by
      intro x hx c r e hc
      obtain ⟨a, d, ead⟩ := List.append_of_mem hx
      refine hnf c r e f hf hn ?_
      rw [ead] at hfv ⊢
      exact firL_app.2 (.inr ⟨(vanL_app.1 hfv).1, (firL_name (by have := (hb x hx).1; omega)).2 (.inl hc)⟩)
    obtain ⟨n, hn'⟩ := key f.b hb hbf
    refine halts_step ⟨f.b ++ σ, t, n, fun σ'' t'' hst => ?_, hn'⟩
    cases hst with
    | byte h => omega
    | name h hp =>
      have := pick_van hF hp hf hn hfv hnf
      subst this
      exact ⟨rfl, rfl⟩
/-- a name of which the next byte is a first one -/
theorem halts_fir {g : Gm} (hF : FitF g) {c : Nat} {t : List Nat} (hT : ∀ σ, ∃ n, Halts g n σ t) : ∀ (k : Nat) {s : Sg} {σ : List Sg}, 0 ≤ s.n → FirN g c k s.n → ∃ n, Halts g n (s :: σ) (c :: t)
  | 0, _, _, _, h => h.elim
  | k + 1, s, σ, hs, ⟨f, hf, hn, hb⟩ => by
    have key : ∀ (b a : List Sg), f.b = a ++ b → FL g c (FirN g c k) b → ∃ n, Halts g n (b ++ σ) (c :: t) := by
      intro b
      induction b with
      | nil => exact fun _ _ h => h.elim
      | cons x r ih =>
        intro a ea h
        rw [List.cons_append]
        by_cases hx : x.n < 0
        · obtain ⟨n, hn'⟩ := hT (r ++ σ)
          refine halts_step ⟨r ++ σ, t, n, fun σ'' t'' hst => ?_, hn'⟩
          cases hst with
          | byte _ => exact ⟨rfl, rfl⟩
          | name h _ => omega
        · rw [FL, if_neg hx] at h
          rcases h with h | ⟨h1, h2⟩
          · exact halts_fir hF hT k (by omega) h
          · have hrest := ih (a ++ [x]) (by rw [ea]; simp) h2
            have hfol : Fol g c x.n := .here hf ea (by omega) (FL.mono (fun X hX => ⟨k, hX⟩) h2)
            have hnf : ¬ Fir g c x.n := fun hc => by
              obtain ⟨h3, hm3, hn3, hv3⟩ := van_form h1
              obtain ⟨h4, hm4, hn4, hc4⟩ := fir_form hc
              exact hF.vf c h3 hm3 h4 hm4 (hn3.trans hn4.symm) hv3 hc4 (hn3 ▸ hfol)
            obtain ⟨m, hm⟩ := h1
            exact halts_van hF m (by omega) hm (fun c' r' e => by cases e; exact hnf) hrest
    obtain ⟨n, hn'⟩ := key f.b [] rfl hb
    have hfb : FirL g c f.b := FL.mono (fun X hX => ⟨k, hX⟩) hb
    refine halts_step ⟨f.b ++ σ, c :: t, n, fun σ'' t'' hst => ?_, hn'⟩
    cases hst with
    | byte h => omega
    | name h hp =>
      have := pick_fir hF hp hf hn hfb
      subst this
      exact ⟨rfl, rfl⟩
/-- of a fit grammar the machine halts -/
theorem halts {g : Gm} (hF : FitF g) : ∀ (t : List Nat) (σ : List Sg), ∃ n, Halts g n σ t := by
  have key : ∀ (t : List Nat), (∀ c r, t = c :: r → ∀ σ, ∃ n, Halts g n σ r) → ∀ σ, ∃ n, Halts g n σ t := by
    intro t hT σ
    induction σ with
    | nil => exact halts_no (fun σ' t' h => by cases h)
    | cons s σ ih =>
      by_cases hs : s.n < 0
      · cases t with
        | nil => exact halts_no (fun σ' t' h => by cases h; omega)
        | cons c t =>
          obtain ⟨n, hn⟩ := hT c t rfl σ
          refine halts_step ⟨σ, t, n, fun σ'' t'' hst => ?_, hn⟩
          cases hst with
          | byte _ => exact ⟨rfl, rfl⟩
          | name h _ => omega
      · by_cases hf : ∃ c r, t = c :: r ∧ Fir g c s.n
        · obtain ⟨c, r, rfl, k, hk⟩ := hf
          exact halts_fir hF (hT c r rfl) k (by omega) hk
        · by_cases hv : Van g s.n
          · obtain ⟨k, hk⟩ := hv
            exact halts_van hF k (by omega) hk (fun c r e h => hf ⟨c, r, e, h⟩) ih
          · refine halts_no (fun σ' t' h => ?_)
            cases h with
            | byte h => omega
            | name _ hp =>
              obtain ⟨h1, h2, h3 | h3⟩ := hp
              · obtain ⟨c, r, e, h3⟩ := h3
                exact hf ⟨c, r, e, h2 ▸ fir_of h1 h3⟩
              · exact hv (h2 ▸ van_of h1 h3.1)
  intro t
  induction t with
  | nil => exact key [] (fun c r e => by cases e)
  | cons c t ih => exact key (c :: t) (fun c' r e => by cases e; exact ih)
end Go.Proofs.YthfbmihpdkkcjaaDoor
