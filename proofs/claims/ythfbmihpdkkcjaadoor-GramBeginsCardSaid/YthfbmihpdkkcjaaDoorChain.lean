/-
  Package fault's New, Under, In, Code, Path and Text on an error whose chain is known, by their contracts. Conditions: errors.errorType holds the handle of the type error; Text: codes and positions below 100.
-/
import Derived.Test.YthfbmihpdkkcjaaDoorFaultFns
import Derived.Test.YthfbmihpdkkcjaaDoorRow
namespace Go.Proofs.YthfbmihpdkkcjaaDoor
open Go.RowKit Go.Extern.Stop Go.Stop Go.Extern

/-- v is an error of the package whose chain has these codes and positions (none: it is nil) -/
def Chain (w : World) : Value → List (Int × Int) → Prop
  | v, [] => v = .nilIface
  | v, p :: r => ∃ g u, v = .iface 67 (.pointer (some ⟨g, 0, none⟩)) ∧ Blk w g 70 #[.int .i64 p.1, .int .i64 p.2, u] ∧ Chain w u r
theorem Chain.below {w w' : World} : ∀ {L : List (Int × Int)} {v : Value}, Chain w v L → Below w.heap.size w w' → Chain w' v L
  | [], _, h, _ => h
  | _ :: _, _, ⟨g, u, e, hb, hc⟩, hw => ⟨g, u, e, hb.below hw hb.lt, Chain.below hc hw⟩
/-- errors.errorType lies in the world as it is laid -/
def HasErr (w : World) : Prop := w.cell? gErr = some hErr
theorem HasErr.below {w w' : World} (h : HasErr w) (hb : Below w.heap.size w w') : HasErr w' := (hb.cell (cell_size h)).trans h
def ptrOf : Value → Value
  | .iface _ p => p
  | _ => .pointer none
def codeOf : List (Int × Int) → Int
  | [] => 0
  | p :: _ => p.1
theorem outer_any {w : World} {v : Value} {L : List (Int × Int)} (hc : Chain w v L) (hG : HasErr w) : Calls Tryd.prog 21 #[v] w fun e w' => e = .returned (ptrOf v) ∧ Below w.heap.size w w' := by
  cases L with
  | nil =>
    have e : v = .nilIface := hc
    subst e
    exact outermost_nil w
  | cons p r =>
    obtain ⟨g, u, e, _, _⟩ := hc
    subst e
    exact outermost_hit _ w hG
theorem fNew (c at_ : Int) (w : World) (hc : c ≠ 0) : Calls Tryd.prog 29 #[.int .i64 c, .int .i64 at_] w fun e w' => ∃ v, e = .returned v ∧ Chain w' v [(c, at_)] ∧ Below w.heap.size w w' := by
  refine (new_some c at_ w (by simpa using hc)).mono ?_
  rintro e w' ⟨rfl, rfl⟩
  exact ⟨_, rfl, ⟨_, _, rfl, Blk.new w _ _, rfl⟩, below_alloc w _⟩
def InPost (w : World) (L : List (Int × Int)) (c at_ : Int) (e : Ending) (w' : World) : Prop := ∃ v, e = .returned v ∧ Chain w' v (if L = [] then [] else (c, at_) :: L) ∧ Below w.heap.size w w'
/-- ints as cells -/
def zv (l : List Int) : List Value := l.map (.int .i64 ·)
theorem zv_length (l : List Int) : (zv l).length = l.length := by simp [zv]
theorem zv_one (l : List Int) : ∀ u ∈ zv l, u.oneCell' = true := by
  intro u hu
  obtain ⟨x, _, rfl⟩ := List.mem_map.1 hu
  rfl
theorem zv_get {l : List Int} {j : Nat} (h : j < l.length) : (zv l)[j]? = some (.int .i64 (l.getD j 0)) := by simp [zv, List.getD, h]
def sliceLen : Value → Nat
  | .slice _ n _ => n
  | _ => 0
def chAt (L : List (Int × Int)) : List Int := L.map (·.2)
theorem i_info : (Tryd.prog.info? 3).map (fun i => (i.zero, i.size, i.bytes)) = some (some (.int .i64 0), 1, 8) := by kernel_rfl
theorem row_type {w : World} {base n size : Nat} {e : TypeId} {v : Value} {vs : List Value} (h : w.ownsRow base e size v n vs) : ∀ g, v.ownBlock = some g → ∃ cs, w.heap[g]? = some (.cells cs e (0, 0)) := by
  intro g hg
  rcases h.2 with ⟨rfl, _⟩ | ⟨g', cap, cur, rfl, _, hh, _⟩
  · simp [Value.ownBlock] at hg
  · simp only [Value.ownBlock, Option.some.injEq] at hg
    subst hg
    exact ⟨cur, hh⟩
theorem Chain.grown {w w' : World} {row : Option Nat} (hw : w.grownBy w' row) (hr : ∀ g, row = some g → ∃ cs, w.heap[g]? = some (.cells cs 3 (0, 0))) : ∀ {L : List (Int × Int)} {v : Value}, Chain w v L → Chain w' v L
  | [], _, h => h
  | _ :: _, _, ⟨g, u, e, hb, hc⟩ => ⟨g, u, e, hb.grown hw (fun e => by
      obtain ⟨cs, h2⟩ := hr g e.symm
      rw [hb] at h2
      simp at h2), Chain.grown hw hr hc⟩
def PathPost (w : World) (L : List (Int × Int)) (e : Ending) (w' : World) : Prop := ∃ A c, e = .returned (.slice A L.length c) ∧ Vs w' w'.heap.size A (zv (chAt L)) ∧ Below w.heap.size w w'
end Go.Proofs.YthfbmihpdkkcjaaDoor
