/-
  What package gram knows of a grammar, against the least sets: what is known is so; what no form adds to is all; each step that adds goes forward; rooms. No conditions.
-/
import Derived.Test.YthfbmihpdkkcjaaDoorGramFc2
namespace Go.Proofs.YthfbmihpdkkcjaaDoor
open Go.RowKit

/-- the room of a name that vanishes -/
def rmx : List Nat → Nat
  | [] => 0
  | m :: r => max (max (r.length + 1) (r.length + m)) (rmx r)
theorem rmx_map (f : Sg → Nat) : ∀ l : List Sg, rmx (l.map f) = rmF f l
  | [] => rfl
  | s :: r => by rw [List.map_cons, rmx, rmF, rmx_map f r, List.length_map]
def DepN (g : Gm) : Nat → Int → Nat → Prop
  | 0, _, _ => False
  | k + 1, X, n => ∃ f ∈ g.fs, f.n = X ∧ ∃ h : Sg → Nat, (∀ s ∈ f.b, 0 ≤ s.n ∧ DepN g k s.n (h s)) ∧ n = rmF h f.b
def Dep (g : Gm) (X : Int) (n : Nat) : Prop := ∃ k, DepN g k X n
theorem DepN.mono {g : Gm} : ∀ {k : Nat} {X : Int} {n : Nat}, DepN g k X n → DepN g (k + 1) X n
  | 0, _, _, h => h.elim
  | _ + 1, _, _, ⟨f, hf, hn, h, hb, e⟩ => ⟨f, hf, hn, h, fun s hs => ⟨(hb s hs).1, (hb s hs).2.mono⟩, e⟩
theorem DepN.le {g : Gm} {k m : Nat} {X : Int} {n : Nat} (h : DepN g k X n) (hk : k ≤ m) : DepN g m X n := by
  induction hk with
  | refl => exact h
  | step _ ih => exact ih.mono
theorem depL_n {g : Gm} {h : Sg → Nat} : ∀ {l : List Sg}, (∀ s ∈ l, 0 ≤ s.n ∧ Dep g s.n (h s)) → ∃ k, ∀ s ∈ l, 0 ≤ s.n ∧ DepN g k s.n (h s)
  | [], _ => ⟨0, fun _ h => by cases h⟩
  | s :: r, hl => by
    obtain ⟨k, hk⟩ := depL_n (l := r) (fun x hx => hl x (List.mem_cons_of_mem _ hx))
    obtain ⟨h0, m, hm⟩ := hl s (List.mem_cons_self ..)
    refine ⟨max k m, fun x hx => ?_⟩
    rcases List.mem_cons.1 hx with rfl | hx
    · exact ⟨h0, hm.le (Nat.le_max_right ..)⟩
    · exact ⟨(hk x hx).1, (hk x hx).2.le (Nat.le_max_left ..)⟩
theorem dep_of {g : Gm} {f : Fm} (hf : f ∈ g.fs) {h : Sg → Nat} (hl : ∀ s ∈ f.b, 0 ≤ s.n ∧ Dep g s.n (h s)) : Dep g f.n (rmF h f.b) := by
  obtain ⟨k, hk⟩ := depL_n hl
  exact ⟨k + 1, f, hf, rfl, h, hk, rfl⟩
theorem depN_van {g : Gm} : ∀ {k : Nat} {X : Int} {n : Nat}, DepN g k X n → VanN g k X
  | 0, _, _, h => h.elim
  | _ + 1, _, _, ⟨f, hf, hn, _, hb, _⟩ => ⟨f, hf, hn, fun s hs => ⟨(hb s hs).1, depN_van (hb s hs).2⟩⟩
/-- the machine runs through a name that only vanishes: into the depths, or as if it had not been there -/
theorem dep_run {g : Gm} (hF : FitF g) {t : List Nat} : ∀ (k : Nat) {s : Sg} {n : Nat}, 0 ≤ s.n → DepN g k s.n n → (∀ c r, t = c :: r → ¬ Fir g c s.n) → ∀ σ : List Sg,
    (σ.length + n ≤ 32 → ∀ r, RunG g σ t r → RunG g (s :: σ) t r) ∧ (32 < σ.length + n → RunG g (s :: σ) t 2) ∧ muG g σ t < muG g (s :: σ) t
  | 0, _, _, _, hd, _ => hd.elim
  | k + 1, s, n, hs, ⟨f, hf, hn, h, hb, en⟩, hno => fun σ => by
    have hfv : VanL g f.b := fun x hx => ⟨(hb x hx).1, k, depN_van (hb x hx).2⟩
    have hnf : ∀ c r, t = c :: r → ∀ x ∈ g.fs, x.n = s.n → ¬ FirL g c x.b := fun c r e x hx hxn hc => hno c r e (hxn ▸ fir_of hx hc)
    have hp : Pick g t s.n f := ⟨hf, hn, .inr ⟨hfv, hnf⟩⟩
    have hbf : ∀ x ∈ f.b, ∀ c r, t = c :: r → ¬ Fir g c x.n := by
      intro x hx c r e hc
      obtain ⟨a, d, ead⟩ := List.append_of_mem hx
      refine hnf c r e f hf hn ?_
      rw [ead] at hfv ⊢
      exact firL_app.2 (.inr ⟨(vanL_app.1 hfv).1, (firL_name (by have := (hb x hx).1; omega)).2 (.inl hc)⟩)
    have key : ∀ b : List Sg, (∀ x ∈ b, 0 ≤ x.n ∧ DepN g k x.n (h x)) → (∀ x ∈ b, ∀ c r, t = c :: r → ¬ Fir g c x.n) →
        (σ.length + rmF h b ≤ 32 → ∀ r, RunG g σ t r → RunG g (b ++ σ) t r) ∧ (32 < σ.length + rmF h b → (b ++ σ).length ≤ 32 → RunG g (b ++ σ) t 2) ∧ muG g σ t ≤ muG g (b ++ σ) t := by
      intro b
      induction b with
      | nil => exact fun _ _ => ⟨fun _ r hr => hr, fun h1 h2 => by simp [rmF] at h1 h2; omega, Nat.le_refl _⟩
      | cons x r ih =>
        intro h1 h2
        obtain ⟨i1, i2, i3⟩ := ih (fun y hy => h1 y (List.mem_cons_of_mem _ hy)) (fun y hy => h2 y (List.mem_cons_of_mem _ hy))
        obtain ⟨d1, d2, d3⟩ := dep_run hF k (h1 x (List.mem_cons_self ..)).1 (h1 x (List.mem_cons_self ..)).2 (h2 x (List.mem_cons_self ..)) (r ++ σ)
        rw [List.length_append] at d1 d2
        refine ⟨fun hle r' hr => ?_, fun hlt hsz => ?_, by rw [List.cons_append]; omega⟩
        · rw [rmF] at hle
          exact d1 (by omega) r' (i1 (by omega) r' hr)
        · rw [rmF] at hlt
          rw [List.length_append, List.length_cons] at hsz
          rcases Nat.lt_or_ge 32 (r.length + σ.length + h x) with h5 | h5
          · exact d2 (by omega)
          · exact d1 (by omega) 2 (i2 (by omega) (by rw [List.length_append]; omega))
    obtain ⟨k1, k2, k3⟩ := key f.b hb hbf
    have hlen : f.b.length ≤ rmF h f.b := by
      cases f.b with
      | nil => exact Nat.zero_le _
      | cons x r => rw [rmF, List.length_cons]; omega
    refine ⟨fun hle r hr => ?_, fun hlt => ?_, ?_⟩
    · exact .name hs hp (by rw [List.length_append]; omega) (k1 (by omega) r hr)
    · rcases Nat.lt_or_ge 32 ((f.b ++ σ).length) with h5 | h5
      · exact .deep hs hp h5
      · exact .name hs hp h5 (k2 (by omega) h5)
    · exact Nat.lt_of_le_of_lt k3 (muG_step hF (.name hs hp))

/-- what is known is so -/
structure Snd (G : Gm) (F : Fc) : Prop where
  t : ∀ X, X < 16 → (F.at 0).has X = true → Txt G (X : Int)
  v : ∀ X, X < 16 → (F.at 1).has X = true → Van G (X : Int)
  f : ∀ X c, X < 16 → c < 256 → (F.at (2 + X)).has c = true → Fir G c (X : Int)
  o : ∀ X c, X < 16 → c < 256 → (F.at (18 + X)).has c = true → Fol G c (X : Int)
  l : ∀ i c, i < G.fs.length → c < 256 → (F.at (34 + i)).has c = true → FirL G c (G.fs.getD i f0).b
  d : ∀ X, X < 16 → (F.at 1).has X = true → Dep G (X : Int) (F.room X).toNat
/-- a well-formed grammar, in so far as the walk leans on it -/
structure GrOk (G : Gm) : Prop where
  k : 1 ≤ G.k ∧ G.k ≤ 16
  n : G.fs.length ≤ 48
  f : ∀ f ∈ G.fs, 0 ≤ f.n ∧ f.n < G.k
  b : ∀ f ∈ G.fs, BodyOk f.b ∧ f.b.length ≤ 8 ∧ ∀ s ∈ f.b, s.n < G.k
theorem grOk_of {G : Gm} (h : WellG G) (hg : GmOk G) : GrOk G := by
  obtain ⟨h1, h2⟩ := h
  unfold BigG at h1
  refine ⟨by omega, by omega, fun f hf => ?_, fun f hf => ?_⟩
  · have := h2 f hf
    unfold IllF at this
    omega
  · have h3 := h2 f hf
    have h4 : ∀ s ∈ f.b, s.n < G.k := fun s hs => Int.not_le.1 (fun hc => h3 (.inr (.inr (.inr ⟨s, hs, hc⟩))))
    have h5 : f.b.length ≤ 8 := Nat.not_lt.1 (fun hc => h3 (.inr (.inr (.inl hc))))
    exact ⟨⟨fun s hs => by have := h4 s hs; omega, (hg.fs f hf).2, by omega⟩, h5, h4⟩
section
variable {G : Gm} {F : Fc}
theorem txtS_sound (h : Snd G F) {s : Sg} (h16 : s.n < 16) (hs : F.txtS s = true) : (s.n < 0 ∧ s.lo ≤ s.hi) ∨ (0 ≤ s.n ∧ Txt G s.n) := by
  unfold Fc.txtS at hs
  split at hs
  · rename_i h0; exact .inl ⟨h0, of_decide_eq_true hs⟩
  · rename_i h0
    have := h.t s.n.toNat (by omega) hs
    rw [Int.toNat_of_nonneg (by omega)] at this
    exact .inr ⟨by omega, this⟩
theorem vanS_sound (h : Snd G F) {s : Sg} (h16 : s.n < 16) (hs : F.vanS s = true) : 0 ≤ s.n ∧ Van G s.n := by
  unfold Fc.vanS at hs
  split at hs
  · cases hs
  · rename_i h0
    have := h.v s.n.toNat (by omega) hs
    rw [Int.toNat_of_nonneg (by omega)] at this
    exact ⟨by omega, this⟩
theorem txtL_sound (h : Snd G F) {l : List Sg} (hb : BodyOk l) (hl : F.txtL l = true) : TxtL G l := fun s hs =>
  txtS_sound h (hb.n s hs) (List.all_eq_true.1 hl s hs)
theorem vanL_sound (h : Snd G F) {l : List Sg} (hb : BodyOk l) (hl : F.vanL l = true) : VanL G l := fun s hs =>
  vanS_sound h (hb.n s hs) (List.all_eq_true.1 hl s hs)
theorem vanL_nonneg {l : List Sg} (hl : F.vanL l = true) : ∀ s ∈ l, 0 ≤ s.n ∧ (F.at 1).has s.n.toNat = true := fun s hs => by
  have h := List.all_eq_true.1 hl s hs
  unfold Fc.vanS at h
  split at h
  · cases h
  · exact ⟨by omega, h⟩
theorem stL_sound (h : Snd G F) {c : Nat} (hc : c < 256) : ∀ (l : List Sg) (acc : S4), BodyOk l → (F.stL acc l).has c = true → acc.has c = true ∨ FirL G c l
  | [], _, _, hh => .inl hh
  | s :: r, acc, hb, hh => by
    have h16 := hb.n s (List.mem_cons_self ..)
    have hbr : BodyOk r := hb.drop 1
    unfold Fc.stL at hh
    split at hh
    · rename_i h0
      rw [S4.has_or, S4.has_btw hc, Bool.or_eq_true, decide_eq_true_iff] at hh
      exact hh.imp id fun h1 => (firL_byte h0).2 h1
    · rename_i h0
      have hf : (F.at (2 + s.n.toNat)).has c = true → Fir G c s.n := fun h1 => by
        have := h.f s.n.toNat c (by omega) hc h1
        rwa [Int.toNat_of_nonneg (by omega)] at this
      split at hh
      · rename_i hv
        have hv' : Van G s.n := by
          have := h.v s.n.toNat (by omega) hv
          rwa [Int.toNat_of_nonneg (by omega)] at this
        rcases stL_sound h hc r _ hbr hh with h1 | h1
        · rw [S4.has_or, Bool.or_eq_true] at h1
          exact h1.imp id fun h2 => (firL_name h0).2 (.inl (hf h2))
        · exact .inr ((firL_name h0).2 (.inr ⟨hv', h1⟩))
      · rw [S4.has_or, Bool.or_eq_true] at hh
        exact hh.imp id fun h2 => (firL_name h0).2 (.inl (hf h2))
theorem stL_sound0 (h : Snd G F) {c : Nat} (hc : c < 256) {l : List Sg} (hb : BodyOk l) (hh : (F.stL S4.z l).has c = true) : FirL G c l := by
  rcases stL_sound h hc l _ hb hh with h1 | h1
  · rw [S4.has_z] at h1; cases h1
  · exact h1
theorem aft_sound (h : Snd G F) {c : Nat} (hc : c < 256) {f : Fm} (hf : f ∈ G.fs) (hfn : 0 ≤ f.n ∧ f.n < 16) {a r : List Sg} {s : Sg} (hb : BodyOk r) (e : f.b = a ++ s :: r) (hs : 0 ≤ s.n) (hh : (F.aft f.n r).has c = true) : Fol G c s.n := by
  unfold Fc.aft at hh
  split at hh
  · rename_i hv
    rw [S4.has_or, Bool.or_eq_true] at hh
    rcases hh with h1 | h1
    · exact .here hf e hs (stL_sound0 h hc hb h1)
    · have := h.o f.n.toNat c (by omega) hc h1
      rw [Int.toNat_of_nonneg hfn.1] at this
      exact .up hf e hs (vanL_sound h hb hv) this
  · exact .here hf e hs (stL_sound0 h hc hb hh)
/-- a set that grows by what is so -/
theorem Snd.setS (h : Snd G F) (hF : F.Ok) {i : Nat} (hi : i < 82) {s : S4} (ht : i = 0 → ∀ X, X < 16 → s.has X = true → Txt G (X : Int)) (hv : i = 1 → ∀ X, X < 16 → s.has X = true → Van G (X : Int) ∧ Dep G (X : Int) (F.room X).toNat)
    (hf : ∀ X, X < 16 → i = 2 + X → ∀ c, c < 256 → s.has c = true → Fir G c (X : Int)) (ho : ∀ X, X < 16 → i = 18 + X → ∀ c, c < 256 → s.has c = true → Fol G c (X : Int))
    (hl : ∀ j, j < G.fs.length → i = 34 + j → ∀ c, c < 256 → s.has c = true → FirL G c (G.fs.getD j f0).b) : Snd G (F.setS i ((F.at i).or s)) := by
  have key : ∀ j c, ((F.setS i ((F.at i).or s)).at j).has c = true → (F.at j).has c = true ∨ (i = j ∧ s.has c = true) := fun j c hh => by
    rw [Fc.at_setS hF hi] at hh
    split at hh
    · rename_i e
      subst e
      rw [S4.has_or, Bool.or_eq_true] at hh
      exact hh.imp id fun h1 => ⟨rfl, h1⟩
    · exact .inl hh
  refine ⟨fun X hX hh => ?_, fun X hX hh => ?_, fun X c hX hc hh => ?_, fun X c hX hc hh => ?_, fun j c hj hc hh => ?_, fun X hX hh => ?_⟩
  · rcases key _ _ hh with h1 | ⟨e, h1⟩
    · exact h.t X hX h1
    · exact ht e X hX h1
  · rcases key _ _ hh with h1 | ⟨e, h1⟩
    · exact h.v X hX h1
    · exact (hv e X hX h1).1
  · rcases key _ _ hh with h1 | ⟨e, h1⟩
    · exact h.f X c hX hc h1
    · exact hf X hX e c hc h1
  · rcases key _ _ hh with h1 | ⟨e, h1⟩
    · exact h.o X c hX hc h1
    · exact ho X hX e c hc h1
  · rcases key _ _ hh with h1 | ⟨e, h1⟩
    · exact h.l j c hj hc h1
    · exact hl j hj e c hc h1
  · rcases key _ _ hh with h1 | ⟨e, h1⟩
    · exact h.d X hX h1
    · exact (hv e X hX h1).2
theorem Snd.setR (h : Snd G F) (hF : F.Ok) {i : Nat} (hi : i < 16) {r : Int} (hr : Dep G (i : Int) r.toNat) : Snd G (F.setR i r) :=
  ⟨h.t, h.v, h.f, h.o, h.l, fun X hX hh => by
    rw [Fc.room_setR hF hi]
    split
    · rename_i e; subst e; exact hr
    · exact h.d X hX hh⟩
/-- no form adds to what is known: form number i -/
structure Cls (G : Gm) (F : Fc) (i : Nat) : Prop where
  t : F.txtL (G.fs.getD i f0).b = true → (F.at 0).has (G.fs.getD i f0).n.toNat = true
  v : F.vanL (G.fs.getD i f0).b = true → (F.at 1).has (G.fs.getD i f0).n.toNat = true
  s : ∀ c, c < 256 → (F.stL S4.z (G.fs.getD i f0).b).has c = true → (F.at (34 + i)).has c = true
  f : ∀ c, c < 256 → (F.at (34 + i)).has c = true → (F.at (2 + (G.fs.getD i f0).n.toNat)).has c = true
  o : ∀ p, p < (G.fs.getD i f0).b.length → 0 ≤ ((G.fs.getD i f0).b.getD p ⟨0, 0, 0⟩).n → ∀ c, c < 256 → (F.aft (G.fs.getD i f0).n ((G.fs.getD i f0).b.drop (p + 1))).has c = true → (F.at (18 + ((G.fs.getD i f0).b.getD p ⟨0, 0, 0⟩).n.toNat)).has c = true
structure Know (G : Gm) (F : Fc) : Prop where
  t : ∀ X, X < 16 → ((F.at 0).has X = true ↔ Txt G (X : Int))
  v : ∀ X, X < 16 → ((F.at 1).has X = true ↔ Van G (X : Int))
  f : ∀ X c, X < 16 → c < 256 → ((F.at (2 + X)).has c = true ↔ Fir G c (X : Int))
  o : ∀ X c, X < 16 → c < 256 → ((F.at (18 + X)).has c = true ↔ Fol G c (X : Int))
  l : ∀ i c, i < G.fs.length → c < 256 → ((F.at (34 + i)).has c = true ↔ FirL G c (G.fs.getD i f0).b)
  d : ∀ X, X < 16 → (F.at 1).has X = true → Dep G (X : Int) (F.room X).toNat
theorem stL_acc {c : Nat} : ∀ (l : List Sg) (acc : S4), acc.has c = true → (F.stL acc l).has c = true
  | [], _, h => h
  | s :: r, acc, h => by
    unfold Fc.stL
    split
    · rw [S4.has_or, h, Bool.true_or]
    · split
      · exact stL_acc r _ (by rw [S4.has_or, h, Bool.true_or])
      · rw [S4.has_or, h, Bool.true_or]
theorem stL_all {c : Nat} (hc : c < 256) (hv : ∀ X : Nat, X < 16 → Van G (X : Int) → (F.at 1).has X = true) : ∀ (l : List Sg) (acc : S4), BodyOk l → FL G c (fun Y => 0 ≤ Y ∧ (F.at (2 + Y.toNat)).has c = true) l → (F.stL acc l).has c = true
  | [], _, _, h => h.elim
  | s :: r, acc, hb, h => by
    have h16 := hb.n s (List.mem_cons_self ..)
    rw [FL] at h
    unfold Fc.stL
    split at h
    · rename_i h0
      rw [if_pos h0, S4.has_or, S4.has_btw hc, decide_eq_true h, Bool.or_true]
    · rename_i h0
      rw [if_neg h0]
      rcases h with h | ⟨h1, h2⟩
      · split
        · exact stL_acc r _ (by rw [S4.has_or, h.2, Bool.or_true])
        · rw [S4.has_or, h.2, Bool.or_true]
      · have := hv s.n.toNat (by omega) (by rw [Int.toNat_of_nonneg (by omega)]; exact h1)
        rw [if_pos this]
        exact stL_all hc hv r _ (hb.drop 1) h2
theorem getD_mem {l : List Fm} {i : Nat} (h : i < l.length) : l.getD i f0 ∈ l := by
  rw [List.getD_eq_getElem?_getD, List.getElem?_eq_getElem h]; exact List.getElem_mem h
theorem know_of (hG : GrOk G) (h : Snd G F) (hC : ∀ i, i < G.fs.length → Cls G F i) : Know G F := by
  have ev : ∀ X : Nat, X < 16 → Van G (X : Int) → (F.at 1).has X = true := fun X hX hv => by
    have := van_closed (S := fun Y => 0 ≤ Y ∧ (F.at 1).has Y.toNat = true) (fun f hf hb => by
      obtain ⟨i, hi, e⟩ := mem_getD hf
      have h1 := (hC i hi).v
      rw [e] at h1
      exact ⟨(hG.f f hf).1, h1 (List.all_eq_true.2 fun s hs => by
        have := hb s hs
        unfold Fc.vanS
        rw [if_neg (by omega)]
        exact this.2.2)⟩) hv
    simpa using this.2
  have et : ∀ X : Nat, X < 16 → Txt G (X : Int) → (F.at 0).has X = true := fun X hX hv => by
    have := txt_closed (S := fun Y => 0 ≤ Y ∧ (F.at 0).has Y.toNat = true) (fun f hf hb => by
      obtain ⟨i, hi, e⟩ := mem_getD hf
      have h1 := (hC i hi).t
      rw [e] at h1
      exact ⟨(hG.f f hf).1, h1 (List.all_eq_true.2 fun s hs => by
        unfold Fc.txtS
        rcases hb s hs with h2 | h2
        · rw [if_pos h2.1]; exact decide_eq_true h2.2
        · rw [if_neg (by omega)]; exact h2.2.2)⟩) hv
    simpa using this.2
  have ef : ∀ X c : Nat, X < 16 → c < 256 → Fir G c (X : Int) → (F.at (2 + X)).has c = true := fun X c hX hc hv => by
    have := fir_closed (S := fun Y => 0 ≤ Y ∧ (F.at (2 + Y.toNat)).has c = true) (fun f hf hb => by
      obtain ⟨i, hi, e⟩ := mem_getD hf
      have h1 := (hC i hi).f c hc ((hC i hi).s c hc (stL_all hc ev _ _ (by rw [e]; exact (hG.b f hf).1) (by rw [e]; exact hb)))
      rw [e] at h1
      exact ⟨(hG.f f hf).1, h1⟩) hv
    simpa using this.2
  have efl : ∀ (l : List Sg) (c : Nat), BodyOk l → c < 256 → FirL G c l → (F.stL S4.z l).has c = true := fun l c hb hc hl => by
    refine stL_all hc ev _ _ hb ?_
    obtain ⟨a, s, r, e, ha, hs⟩ := fl_at.1 hl
    refine fl_at.2 ⟨a, s, r, e, ha, hs.imp id fun h2 => ⟨h2.1, h2.1, ?_⟩⟩
    have h16 := hb.n s (by rw [e]; simp)
    exact ef s.n.toNat c (by omega) hc (by rw [Int.toNat_of_nonneg h2.1]; exact h2.2)
  have evl : ∀ l : List Sg, BodyOk l → VanL G l → F.vanL l = true := fun l hb hl => List.all_eq_true.2 fun s hs => by
    unfold Fc.vanS
    have h2 := hl s hs
    have h16 := hb.n s hs
    rw [if_neg (by omega)]
    exact ev s.n.toNat (by omega) (by rw [Int.toNat_of_nonneg h2.1]; exact h2.2)
  have at_pos : ∀ {b a r : List Sg} {s : Sg}, b = a ++ s :: r → a.length < b.length ∧ b.getD a.length ⟨0, 0, 0⟩ = s ∧ b.drop (a.length + 1) = r := fun e => by
    subst e
    exact ⟨by simp, by simp [List.getD], by rw [← List.drop_drop, List.drop_left]; rfl⟩
  have eo : ∀ X c : Nat, X < 16 → c < 256 → Fol G c (X : Int) → (F.at (18 + X)).has c = true := fun X c hX hc hv => by
    have := fol_closed (S := fun Y => 0 ≤ Y → (F.at (18 + Y.toNat)).has c = true) (fun f hf a s r e hs hfr _ => by
      obtain ⟨i, hi, ei⟩ := mem_getD hf
      obtain ⟨p1, p2, p3⟩ := at_pos e
      have h1 := (hC i hi).o a.length (by rw [ei]; exact p1) (by rw [ei, p2]; exact hs) c hc
      rw [ei, p2, p3] at h1
      have hbr : BodyOk r := by rw [← p3]; exact (hG.b f hf).1.drop _
      refine h1 ?_
      unfold Fc.aft
      split
      · rw [S4.has_or, efl r c hbr hc hfr, Bool.true_or]
      · exact efl r c hbr hc hfr) (fun f hf a s r e hs hvr hup _ => by
      obtain ⟨i, hi, ei⟩ := mem_getD hf
      obtain ⟨p1, p2, p3⟩ := at_pos e
      have h1 := (hC i hi).o a.length (by rw [ei]; exact p1) (by rw [ei, p2]; exact hs) c hc
      rw [ei, p2, p3] at h1
      have hbr : BodyOk r := by rw [← p3]; exact (hG.b f hf).1.drop _
      refine h1 ?_
      unfold Fc.aft
      rw [if_pos (evl r hbr hvr), S4.has_or, hup (hG.f f hf).1, Bool.or_true]) hv
    simpa using this (by omega)
  exact ⟨fun X hX => ⟨h.t X hX, et X hX⟩, fun X hX => ⟨h.v X hX, ev X hX⟩, fun X c hX hc => ⟨h.f X c hX hc, ef X c hX hc⟩, fun X c hX hc => ⟨h.o X c hX hc, eo X c hX hc⟩,
    fun i c hi hc => ⟨h.l i c hi hc, fun hl => (hC i hi).s c hc (efl _ c (hG.b _ (getD_mem hi)).1 hc hl)⟩, h.d⟩
theorem know_vanL (hk : Know G F) {l : List Sg} (hb : BodyOk l) : F.vanL l = true ↔ VanL G l := by
  constructor
  · exact fun h s hs => by
      have := vanL_nonneg h s hs
      have h16 := hb.n s hs
      have h2 := (hk.v s.n.toNat (by omega)).1 this.2
      rw [Int.toNat_of_nonneg this.1] at h2
      exact ⟨this.1, h2⟩
  · exact fun h => List.all_eq_true.2 fun s hs => by
      have h2 := h s hs
      have h16 := hb.n s hs
      unfold Fc.vanS
      rw [if_neg (by omega)]
      exact (hk.v s.n.toNat (by omega)).2 (by rw [Int.toNat_of_nonneg h2.1]; exact h2.2)
end

/-- how much is known -/
def Fc.cnt (F : Fc) : Nat := (List.range 20992).countP fun k => (F.at (k / 256)).has (k % 256)
theorem countP_le {α : Type} {p q : α → Bool} : ∀ {l : List α}, (∀ x ∈ l, p x = true → q x = true) → l.countP p ≤ l.countP q
  | [], _ => Nat.le_refl _
  | x :: r, h => by
    have ih := countP_le (l := r) (fun y hy => h y (List.mem_cons_of_mem _ hy))
    have hx := h x (List.mem_cons_self ..)
    rw [List.countP_cons, List.countP_cons]
    by_cases hp : p x = true
    · rw [if_pos hp, if_pos (hx hp)]; omega
    · rw [if_neg hp]; omega
theorem countP_lt {α : Type} {p q : α → Bool} : ∀ {l : List α}, (∀ x ∈ l, p x = true → q x = true) → (∃ x ∈ l, p x = false ∧ q x = true) → l.countP p < l.countP q
  | [], _, ⟨_, h, _⟩ => by cases h
  | x :: r, h, ⟨y, hy, h1, h2⟩ => by
    rw [List.countP_cons, List.countP_cons]
    rcases List.mem_cons.1 hy with rfl | hy
    · have ih := countP_le (l := r) (fun z hz => h z (List.mem_cons_of_mem _ hz))
      rw [if_neg (by rw [h1]; decide), if_pos h2]; omega
    · have ih := countP_lt (l := r) (fun z hz => h z (List.mem_cons_of_mem _ hz)) ⟨y, hy, h1, h2⟩
      have hx := h x (List.mem_cons_self ..)
      by_cases hp : p x = true
      · rw [if_pos hp, if_pos (hx hp)]; omega
      · rw [if_neg hp]; omega
theorem Fc.cnt_le (F : Fc) : F.cnt ≤ 20992 := by
  unfold Fc.cnt
  exact Nat.le_trans List.countP_le_length (by rw [List.length_range]; exact Nat.le_refl _)
theorem Fc.cnt_setS {F : Fc} (hF : F.Ok) {i : Nat} (hi : i < 82) {s : S4} (hs : s.Ok) (hne : (F.at i).or s ≠ F.at i) : F.cnt < (F.setS i ((F.at i).or s)).cnt := by
  unfold Fc.cnt
  refine countP_lt (fun k _ h => ?_) ?_
  · rw [Fc.at_setS hF hi]
    split
    · rename_i e; rw [S4.has_or, ← e, h, Bool.true_or]
    · exact h
  · have hx : ∃ c, c < 256 ∧ (F.at i).has c = false ∧ ((F.at i).or s).has c = true := by
      apply Classical.byContradiction
      intro hn
      refine hne (S4.ext_ (S4.or_ok (hF.at i) hs) (hF.at i) fun c hc => ?_)
      cases h1 : (F.at i).has c with
      | true => rw [S4.has_or, h1, Bool.true_or]
      | false =>
        cases h2 : ((F.at i).or s).has c with
        | false => rfl
        | true => exact absurd ⟨c, hc, h1, h2⟩ hn
    obtain ⟨c, hc, h1, h2⟩ := hx
    refine ⟨i * 256 + c, List.mem_range.2 (by omega), ?_, ?_⟩
    · rw [show (i * 256 + c) / 256 = i by omega, show (i * 256 + c) % 256 = c by omega]; exact h1
    · rw [show (i * 256 + c) / 256 = i by omega, show (i * 256 + c) % 256 = c by omega, Fc.at_setS hF hi, if_pos rfl]; exact h2
/-- where nothing grows, what was to be added is there -/
theorem or_same {s t : S4} (h : s.or t = s) {c : Nat} (hc : t.has c = true) : s.has c = true := by
  rw [← h, S4.has_or, hc, Bool.or_true]
end Go.Proofs.YthfbmihpdkkcjaaDoor
