/-
  Grammars as plain data: what Check comes to; grammars in memory; what package gram's functions answer. No conditions.
-/
import Derived.Test.YthfbmihpdkkcjaaDoorGramMath
import Derived.Test.YthfbmihpdkkcjaaDoorKept
import Derived.Test.YthfbmihpdkkcjaaDoorChain
namespace Go.Proofs.YthfbmihpdkkcjaaDoor
open Go.RowKit

def f0 : Fm := ⟨0, []⟩
/-- it has a text behind k rounds -/
def TxtN (g : Gm) : Nat → Int → Prop
  | 0, _ => False
  | k + 1, X => ∃ f ∈ g.fs, f.n = X ∧ ∀ s ∈ f.b, (s.n < 0 ∧ s.lo ≤ s.hi) ∨ (0 ≤ s.n ∧ TxtN g k s.n)
def Txt (g : Gm) (X : Int) : Prop := ∃ k, TxtN g k X
def BigG (g : Gm) : Prop := g.k < 1 ∨ 16 < g.k ∨ 48 < g.fs.length
def IllF (g : Gm) (f : Fm) : Prop := f.n < 0 ∨ g.k ≤ f.n ∨ 8 < f.b.length ∨ ∃ s ∈ f.b, g.k ≤ s.n
def WellG (g : Gm) : Prop := ¬ BigG g ∧ ∀ f ∈ g.fs, ¬ IllF g f
/-- do the bodies of a name's forms clash? -/
def ClashG (g : Gm) (X : Int) : Prop :=
  (∃ i j, i < j ∧ j < g.fs.length ∧ (g.fs.getD i f0).n = X ∧ (g.fs.getD j f0).n = X ∧ ((VanL g (g.fs.getD i f0).b ∧ VanL g (g.fs.getD j f0).b) ∨ ∃ c, c < 256 ∧ FirL g c (g.fs.getD i f0).b ∧ FirL g c (g.fs.getD j f0).b)) ∨
  ∃ f ∈ g.fs, ∃ h ∈ g.fs, f.n = X ∧ h.n = X ∧ VanL g f.b ∧ ∃ c, c < 256 ∧ FirL g c h.b ∧ Fol g c X
/-- what Check comes to: the fault's code (0: it is fit) and its place -/
inductive CheckIs (g : Gm) : Nat × Nat → Prop
  | big (h : BigG g) : CheckIs g (1, 0)
  | ill {i : Nat} (h : ¬ BigG g) (hi : i < g.fs.length) (hf : IllF g (g.fs.getD i f0)) (hj : ∀ j, j < i → ¬ IllF g (g.fs.getD j f0)) : CheckIs g (1, i)
  | barren {X : Nat} (h : WellG g) (hX : (X : Int) < g.k) (ht : ¬ Txt g X) (hY : ∀ Y : Nat, Y < X → Txt g Y) : CheckIs g (90, X)
  | clash {X : Nat} (h : WellG g) (ht : ∀ Y : Nat, (Y : Int) < g.k → Txt g Y) (hX : (X : Int) < g.k) (hc : ClashG g X) (hY : ∀ Y : Nat, Y < X → ¬ ClashG g Y) : CheckIs g (91, X)
  | fit (h : WellG g) (ht : ∀ Y : Nat, (Y : Int) < g.k → Txt g Y) (hc : ∀ Y : Nat, (Y : Int) < g.k → ¬ ClashG g Y) : CheckIs g (0, 0)
def FitG (g : Gm) : Prop := WellG g ∧ (∀ Y : Nat, (Y : Int) < g.k → Txt g Y) ∧ ∀ Y : Nat, (Y : Int) < g.k → ¬ ClashG g Y
theorem checkIs_fit {g : Gm} {r : Nat × Nat} (h : CheckIs g r) : r.1 = 0 ↔ FitG g := by
  cases h with
  | big h => exact ⟨(fun e => by cases e), fun hf => absurd h hf.1.1⟩
  | ill h hi hf hj =>
    refine ⟨(fun e => by cases e), fun hF => ?_⟩
    rw [List.getD_eq_getElem?_getD, List.getElem?_eq_getElem hi] at hf
    exact absurd hf (hF.1.2 _ (List.getElem_mem hi))
  | barren h hX ht hY => exact ⟨(fun e => by cases e), fun hF => absurd (hF.2.1 _ hX) ht⟩
  | clash h ht hX hc hY => exact ⟨(fun e => by cases e), fun hF => absurd hc (hF.2.2 _ hX)⟩
  | fit h ht hc => exact ⟨fun _ => ⟨h, ht, hc⟩, fun _ => rfl⟩
theorem checkIs_zero {g : Gm} {r : Nat × Nat} (h : CheckIs g r) (h0 : FitG g) : r = (0, 0) := by
  have h1 := (checkIs_fit h).2 h0
  cases h with
  | big h => cases h1
  | ill h hi hf hj => cases h1
  | barren h hX ht hY => cases h1
  | clash h ht hX hc hY => cases h1
  | fit h ht hc => rfl
/-- bytes are bytes -/
def SgOk (s : Sg) : Prop := (-9223372036854775808 ≤ s.n ∧ s.n ≤ 9223372036854775807) ∧ s.lo < 256 ∧ s.hi < 256
def FmOk (f : Fm) : Prop := (-9223372036854775808 ≤ f.n ∧ f.n ≤ 9223372036854775807) ∧ ∀ s ∈ f.b, SgOk s
structure GmOk (g : Gm) : Prop where
  k : -9223372036854775808 ≤ g.k ∧ g.k ≤ 9223372036854775807
  fs : ∀ f ∈ g.fs, FmOk f
theorem FL.lt {g : Gm} {c : Nat} {P : Int → Prop} (hP : ∀ X, P X → c < 256) : ∀ {l : List Sg}, (∀ s ∈ l, SgOk s) → FL g c P l → c < 256
  | [], _, h => h.elim
  | s :: r, hl, h => by
    rw [FL] at h
    split at h
    · have := (hl s (List.mem_cons_self ..)).2.2; omega
    · rcases h with h | ⟨_, h⟩
      · exact hP _ h
      · exact FL.lt hP (fun x hx => hl x (List.mem_cons_of_mem _ hx)) h
theorem firN_lt {g : Gm} (hg : GmOk g) {c : Nat} : ∀ {k : Nat} {X : Int}, FirN g c k X → c < 256
  | 0, _, h => h.elim
  | _ + 1, _, ⟨f, hf, _, hb⟩ => FL.lt (fun _ h => firN_lt hg h) (hg.fs f hf).2 hb
theorem firL_lt {g : Gm} (hg : GmOk g) {c : Nat} {f : Fm} (hf : f ∈ g.fs) (h : FirL g c f.b) : c < 256 :=
  FL.lt (fun _ ⟨_, hk⟩ => firN_lt hg hk) (hg.fs f hf).2 h
theorem mem_getD {l : List Fm} {f : Fm} (h : f ∈ l) : ∃ i, i < l.length ∧ l.getD i f0 = f := by
  obtain ⟨i, hi, e⟩ := List.getElem_of_mem h
  exact ⟨i, hi, by rw [List.getD_eq_getElem?_getD, List.getElem?_eq_getElem hi]; exact e⟩
theorem FitG.fitF {g : Gm} (h : FitG g) (hg : GmOk g) : FitF g := by
  have hn : ∀ f ∈ g.fs, ∃ X : Nat, f.n = (X : Int) ∧ (X : Int) < g.k := fun f hf => by
    have h1 := h.1.2 f hf
    have h2 : ¬ f.n < 0 ∧ ¬ g.k ≤ f.n := ⟨fun e => h1 (.inl e), fun e => h1 (.inr (.inl e))⟩
    exact ⟨f.n.toNat, by omega, by omega⟩
  have two : ∀ f ∈ g.fs, ∀ x ∈ g.fs, f.n = x.n → ((VanL g f.b ∧ VanL g x.b) ∨ ∃ c, c < 256 ∧ FirL g c f.b ∧ FirL g c x.b) → f = x := fun f hf x hx e hc => by
    obtain ⟨i, hi, ei⟩ := mem_getD hf
    obtain ⟨j, hj, ej⟩ := mem_getD hx
    obtain ⟨X, eX, hX⟩ := hn f hf
    rcases Nat.lt_trichotomy i j with hij | hij | hij
    · exact absurd (.inl ⟨i, j, hij, hj, by rw [ei]; exact eX, by rw [ej, ← e]; exact eX, by rw [ei, ej]; exact hc⟩) (h.2.2 X hX)
    · rw [← ei, ← ej, hij]
    · refine absurd (.inl ⟨j, i, hij, hi, by rw [ej, ← e]; exact eX, by rw [ei]; exact eX, ?_⟩) (h.2.2 X hX)
      rw [ei, ej]
      rcases hc with hc | ⟨c, h1, h2, h3⟩
      · exact .inl ⟨hc.2, hc.1⟩
      · exact .inr ⟨c, h1, h3, h2⟩
  refine ⟨fun f hf x hx e h1 h2 => two f hf x hx e (.inl ⟨h1, h2⟩), fun c f hf x hx e h1 h2 => two f hf x hx e (.inr ⟨c, firL_lt hg hf h1, h1, h2⟩), fun c f hf x hx e h1 h2 h3 => ?_⟩
  obtain ⟨X, eX, hX⟩ := hn f hf
  exact h.2.2 X hX (.inr ⟨f, hf, x, hx, eX, by rw [← e]; exact eX, h1, c, firL_lt hg hx h2, h2, by rw [← eX]; exact h3⟩)

/-- a sign's cells -/
def Sg.cells (s : Sg) : List Value := [.int .i64 s.n, .int .u8 (s.lo : Int), .int .u8 (s.hi : Int)]
def svs : List Sg → List Value
  | [] => []
  | s :: r => s.cells ++ svs r
theorem svs_length : ∀ l : List Sg, (svs l).length = l.length * 3
  | [] => rfl
  | s :: r => by simp only [svs, Sg.cells, List.length_append, List.length_cons, List.length_nil, svs_length r]; omega
theorem svs_get : ∀ {l : List Sg} {j t : Nat} {v : Value}, j < l.length → (l.getD j ⟨0, 0, 0⟩).cells[t]? = some v → (svs l)[j * 3 + t]? = some v
  | s :: r, 0, t, v, _, h => by
    rw [List.getD_cons_zero] at h
    rw [svs, Nat.zero_mul, Nat.zero_add, List.getElem?_append_left (List.getElem?_eq_some_iff.1 h).1]
    exact h
  | s :: r, j + 1, t, v, hl, h => by
    rw [List.getD_cons_succ] at h
    have := svs_get (l := r) (j := j) (by simpa using hl) h
    rw [svs, List.getElem?_append_right (by simp [Sg.cells]; omega), ← this]
    congr 1
    simp [Sg.cells]
    omega
theorem svs_take : ∀ (l : List Sg) (k : Nat), svs (l.take k) = (svs l).take (k * 3)
  | [], k => by simp [svs]
  | s :: r, 0 => by simp [svs]
  | s :: r, k + 1 => by
    rw [List.take_succ_cons, svs, svs, svs_take r k, List.take_append]
    simp [Sg.cells, Nat.add_mul]
/-- a form in memory: where its body lies -/
structure FmV where
  f : Fm
  A : Option Addr
  c : Nat
def FmV.cells (x : FmV) : List Value := [.int .i64 x.f.n, .slice x.A x.f.b.length x.c]
def fvs : List FmV → List Value
  | [] => []
  | x :: r => x.cells ++ fvs r
theorem fvs_length : ∀ l : List FmV, (fvs l).length = l.length * 2
  | [] => rfl
  | x :: r => by simp only [fvs, FmV.cells, List.length_append, List.length_cons, List.length_nil, fvs_length r]; omega
theorem fvs_append : ∀ a b : List FmV, fvs (a ++ b) = fvs a ++ fvs b
  | [], _ => rfl
  | x :: r, b => by simp only [List.cons_append, fvs, fvs_append r b, List.append_assoc]
theorem fvs_one : ∀ l : List FmV, ∀ u ∈ fvs l, u.oneCell' = true
  | [], u, h => by cases h
  | x :: r, u, h => by
    rw [fvs, List.mem_append] at h
    rcases h with h | h
    · simp only [FmV.cells, List.mem_cons, List.not_mem_nil, or_false] at h
      rcases h with rfl | rfl <;> rfl
    · exact fvs_one r u h
theorem fvs_get : ∀ {l : List FmV} {j t : Nat} {x : FmV} {v : Value}, l[j]? = some x → x.cells[t]? = some v → (fvs l)[j * 2 + t]? = some v
  | x :: r, 0, t, y, v, hx, h => by
    obtain rfl : x = y := by simpa using hx
    rw [fvs, Nat.zero_mul, Nat.zero_add, List.getElem?_append_left (List.getElem?_eq_some_iff.1 h).1]
    exact h
  | x :: r, j + 1, t, y, v, hx, h => by
    have := fvs_get (l := r) (j := j) (by simpa using hx) h
    rw [fvs, List.getElem?_append_right (by simp [FmV.cells]; omega), ← this]
    congr 1
    simp [FmV.cells]
    omega
/-- a body in memory, below B -/
structure BodyAt (w : World) (B : Nat) (x : FmV) : Prop where
  vs : Vs w B x.A (svs x.f.b)
  cap : x.f.b.length ≤ x.c
  ok : FmOk x.f
theorem BodyAt.below {w w' : World} {B : Nat} {x : FmV} (h : BodyAt w B x) (hb : Below B w w') : BodyAt w' B x := ⟨h.vs.below hb, h.cap, h.ok⟩
theorem BodyAt.more {w : World} {B B' : Nat} {x : FmV} (h : BodyAt w B x) (hb : B ≤ B') : BodyAt w B' x := ⟨h.vs.more hb, h.cap, h.ok⟩
/-- a grammar's forms in memory, below B -/
structure GmAt (w : World) (B : Nat) (A : Option Addr) (L : List FmV) (G : Gm) : Prop where
  fs : L.map (·.f) = G.fs
  vs : Vs w B A (fvs L)
  bs : ∀ x ∈ L, BodyAt w B x
  k : -9223372036854775808 ≤ G.k ∧ G.k ≤ 9223372036854775807
theorem GmAt.below {w w' : World} {B : Nat} {A : Option Addr} {L : List FmV} {G : Gm} (h : GmAt w B A L G) (hb : Below B w w') : GmAt w' B A L G := ⟨h.fs, h.vs.below hb, fun x hx => (h.bs x hx).below hb, h.k⟩
theorem GmAt.more {w : World} {B B' : Nat} {A : Option Addr} {L : List FmV} {G : Gm} (h : GmAt w B A L G) (hb : B ≤ B') : GmAt w B' A L G := ⟨h.fs, h.vs.more hb, fun x hx => (h.bs x hx).more hb, h.k⟩
theorem GmAt.ok {w : World} {B : Nat} {A : Option Addr} {L : List FmV} {G : Gm} (h : GmAt w B A L G) : GmOk G := ⟨h.k, fun f hf => by
  rw [← h.fs] at hf
  obtain ⟨x, hx, rfl⟩ := List.mem_map.1 hf
  exact (h.bs x hx).ok⟩
theorem GmAt.len {w : World} {B : Nat} {A : Option Addr} {L : List FmV} {G : Gm} (h : GmAt w B A L G) : G.fs.length = L.length := by rw [← h.fs, List.length_map]
/-- few forms, and few signs each -/
def SmallG (G : Gm) : Prop := G.fs.length ≤ 50 ∧ ∀ f ∈ G.fs, f.b.length ≤ 9
def gmv (k : Int) (A : Option Addr) (n c : Nat) : Value := .agg #[.int .i64 k, .slice A n c]
def toN (l : List UInt8) : List Nat := l.map (·.toNat)

def GSays (w : World) (v : Value) (e : Ending) (w' : World) : Prop := e = .returned v ∧ Below w.heap.size w w'
def GCheckPost (w : World) (G : Gm) (e : Ending) (w' : World) : Prop := ∃ r v, e = .returned v ∧ CheckIs G r ∧ Chain w' v (if r.1 = 0 then [] else [((r.1 : Int), (r.2 : Int))]) ∧ Below w.heap.size w w'
def GMatchPost (w : World) (G : Gm) (s : List UInt8) (e : Ending) (w' : World) : Prop := ∃ r q : Nat, e = .returned (.tuple #[.int .i64 (r : Int), .int .i64 (q : Int)]) ∧ ((FitG G ∧ q = 0 ∧ RunG G [⟨0, 0, 0⟩] (toN s) r) ∨ (¬ FitG G ∧ q = 3 ∧ r = 0)) ∧ Below w.heap.size w w'
def GVanPost (w : World) (G : Gm) (e : Ending) (w' : World) : Prop := ∃ b, e = .returned (.bool b) ∧ (FitG G → (b = true ↔ Van G 0)) ∧ Below w.heap.size w w'
def GFirPost (w : World) (G : Gm) (e : Ending) (w' : World) : Prop := ∃ l : List Bool, l.length = 256 ∧ e = .returned (.agg (l.map .bool).toArray) ∧ (FitG G → ∀ c, c < 256 → (l.getD c false = true ↔ Fir G c 0)) ∧ Below w.heap.size w w'
end Go.Proofs.YthfbmihpdkkcjaaDoor
