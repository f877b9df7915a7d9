/-
  Arrays and structs by value in a walk: made, boxed, loaded, stored, compared with themselves, read by an index; each as one operation. Conditions: each theorem's own premises.
-/
import Derived.Test.YthfbmihpdkkcjaaDoorMem
import Derived.Deep.WholeRow
import Derived.Laws.CopyOwn
import Derived.StillTailTactics
import Derived.ChangeKeysEq
namespace Go.Proofs.YthfbmihpdkkcjaaDoor
open Go.RowKit

theorem some_neq {a b : Nat} (h : a ≠ b) : some a ≠ some b := fun e => h (Option.some.inj e)

/-- where a walk is to stop -/
def Stop (p : Prop) : Prop := p
theorem stopped {p : Prop} (h : Stop p) : p := h
theorem go_on {p : Prop} (h : p) : Stop p := h

/-- from place o of block g on there are the cells cs -/
def Cells (w : World) (g o : Nat) (cs : Array Value) : Prop := ∀ j v, cs[j]? = some v → w.cell? ⟨g, o + j, none⟩ = some v
def agg? (d : TypeDesc) : Bool := match d with | .struct _ | .array _ _ => true | _ => false

section
variable {P : Program} {w : World}
theorem Blk.cells {g : Nat} {t : TypeId} {cs : Array Value} (h : Blk w g t cs) : Cells w g 0 cs := fun j v hv => by rw [Nat.zero_add, h.cell]; exact hv
theorem Blk.part {g o : Nat} {t : TypeId} {L M : List Value} (h : Blk w g t L.toArray) (hm : (L.drop o).take M.length = M) : Cells w g o M.toArray := fun j v hv => by
  rw [h.cell]
  rw [List.getElem?_toArray] at hv ⊢
  rw [← hm, List.getElem?_take] at hv
  split at hv
  · rwa [List.getElem?_drop] at hv
  · cases hv

theorem run_loadVar_at (g o : Nat) (ty : TypeId) (cs : Array Value) (d : TypeDesc) (hc : Cells w g o cs) (hu : P.underlying ty = some d) (hd : agg? d = true) (hi : (P.info? ty).map (·.size) = some cs.size) :
    (loadVar ty ⟨g, o, none⟩).run P w = .ok (.agg cs) w := by
  have hl : (loadCells ⟨g, o, none⟩ cs.toList.length).run P w = .ok cs.toList.toArray w :=
    run_loadCells_list (P := P) w ⟨g, o, none⟩ cs.toList (fun j v hv => by
      rw [Addr.add_lit]
      exact hc j v (by simpa using hv))
  cases hq : P.info? ty with
  | none => simp [hq] at hi
  | some i =>
    have hs : i.size = cs.size := by simpa [hq] using hi
    have hagg : (isAgg ty).run P w = .ok true w := by
      unfold isAgg
      rw [Sem.run_bind, run_underlying hu w]
      cases d <;> simp_all [agg?]
    simp only [Array.length_toList, Array.toArray_toList] at hl
    simp [loadVar, Sem.run_bind, hagg, sizeOf, typeInfo, hq, hs, hl]

theorem wpList_load_at {ops : Array Oper} {rest : List Oper} {o : Oper} {a : Act} {Q : Exit → Act → World → Prop} (hgd : o.guard = none) (ty : TypeId) (x : Operand) (ho : o.op = .load ty x)
    (g off : Nat) (hx : a.eval x = .pointer (some ⟨g, off, none⟩)) (cs : Array Value) (d : TypeDesc) (hc : Cells w g off cs)
    (hu : P.underlying ty = some d) (hd : agg? d = true) (hi : (P.info? ty).map (·.size) = some cs.size)
    (h : wpList P ops Q rest (a.put o.dst (.agg cs)) w) : wpList P ops Q (o :: rest) a w := by
  refine wpList_plain hgd fun _ hK => ?_
  unfold Oper.wp execOp
  simp only [ho, hx, Instr.loadAt, Instr.sureAddr, Sem.run_bind, Sem.run_pure, Result.andThen_ok, run_loadVar_at g off ty cs d hc hu hd hi]
  exact hK _ _ h

theorem still_load_at {ops : Array Oper} {rest : List Oper} {o : Oper} {a : Act} {Q : Act → Prop} (hgd : o.guard = none) (ty : TypeId) (x : Operand) (ho : o.op = .load ty x)
    (g off : Nat) (hx : a.eval x = .pointer (some ⟨g, off, none⟩)) (cs : Array Value) (d : TypeDesc) (hc : Cells w g off cs)
    (hu : P.underlying ty = some d) (hd : agg? d = true) (hi : (P.info? ty).map (·.size) = some cs.size)
    (h : wpStill P ops w Q rest (a.put o.dst (.agg cs))) : wpStill P ops w Q (o :: rest) a := by
  refine wpStill_step fun K hK => ?_
  rw [if_pos (by simp [Region.wanted, hgd])]
  unfold Oper.still execOp
  simp only [ho, hx, Instr.loadAt, Instr.sureAddr, Sem.run_bind, Sem.run_pure, Result.andThen_ok, run_loadVar_at g off ty cs d hc hu hd hi]
  exact ⟨rfl, hK _ h⟩

theorem run_storeCells_at (g o : Nat) (t : TypeId) : ∀ (vs : List Value) (i : Nat) (cur : List Value) (w : World), Blk w g t cur.toArray → o + i + vs.length ≤ cur.length → (∀ v ∈ vs, v.oneCell' = true) →
    ∃ w', (storeCells ⟨g, o, none⟩ vs i).run P w = .ok () w' ∧ Blk w' g t (splice cur (o + i) vs).toArray ∧ w.grownBy w' (some g)
  | [], i, cur, w, hg, hl, _ => ⟨w, rfl, by simpa [splice] using hg, only_refl _ _⟩
  | v :: rest, i, cur, w, hg, hl, h1 => by
    simp only [List.length_cons] at hl
    have hadd : (⟨g, o, none⟩ : Addr).add i = ⟨g, o + i, none⟩ := Addr.add_lit ..
    have hcell : w.cell? ⟨g, o + i, none⟩ = some (cur[o + i]'(by omega)) := by rw [hg.cell]; simp
    have hfro := hg.frozen (o + i)
    have hst : (store ((⟨g, o, none⟩ : Addr).add i) v).run P w = .ok () (w.setCell ⟨g, o + i, none⟩ v) := by
      rw [hadd, run_store P w _ v _ (h1 v (by simp)), hcell]
      simp [hfro]
    have hg1 : Blk (w.setCell ⟨g, o + i, none⟩ v) g t (cur.set (o + i) v).toArray := by
      have := hg.set_ (o + i) v
      simpa using this
    obtain ⟨w', hrun, hg2, hgr⟩ := run_storeCells_at g o t rest (i + 1) (cur.set (o + i) v) _ hg1 (by simp; omega) (fun x hx => h1 x (by simp [hx]))
    refine ⟨w', ?_, ?_, only_trans (only_setCell (only_refl _ _) (.inl rfl) _) hgr⟩
    · simp only [storeCells, Sem.run_bind, hst, Result.andThen_ok, hrun]
    · have e : splice (cur.set (o + i) v) (o + (i + 1)) rest = splice cur (o + i) (v :: rest) := by
        unfold splice
        apply List.ext_getElem?
        intro k
        simp only [List.getElem?_append, List.length_take, List.length_set, List.length_cons, List.getElem?_take, List.getElem?_set, List.getElem?_drop]
        by_cases hk : k < o + i
        · simp [show min (o + (i + 1)) cur.length = o + (i + 1) by omega, show k < o + (i + 1) by omega, show min (o + i) cur.length = o + i by omega, hk, show o + i ≠ k by omega]
        · by_cases hk2 : k = o + i
          · subst hk2
            simp [show min (o + (i + 1)) cur.length = o + (i + 1) by omega, show o + i < o + (i + 1) by omega, show min (o + i) cur.length = o + i by omega, show o + i < cur.length by omega]
          · by_cases hk3 : k - (o + (i + 1)) < rest.length
            · simp [show min (o + (i + 1)) cur.length = o + (i + 1) by omega, show ¬ k < o + (i + 1) by omega, show min (o + i) cur.length = o + i by omega, hk, hk3, show k - (o + i) = (k - (o + (i + 1))) + 1 by omega]
            · simp [show min (o + (i + 1)) cur.length = o + (i + 1) by omega, show ¬ k < o + (i + 1) by omega, show min (o + i) cur.length = o + i by omega, hk, hk3, show k - (o + i) = (k - (o + (i + 1))) + 1 by omega, show ¬ (o + i = o + (i + 1) + rest.length + (k - (o + (i + 1)) - rest.length)) by omega]
              congr 1
              omega
      rw [e] at hg2
      exact hg2

theorem run_storeVar_at (g off : Nat) (ty t : TypeId) (old cells : List Value) (hg : Blk w g t old.toArray) (hi : (P.info? ty).map (·.size) = some cells.length)
    (hfit : off + cells.length ≤ old.length) (h1 : ∀ v ∈ cells, v.oneCell' = true) :
    ∃ w', (storeVar ty ⟨g, off, none⟩ (.agg cells.toArray)).run P w = .ok () w' ∧ Blk w' g t (splice old off cells).toArray ∧ w.grownBy w' (some g) := by
  obtain ⟨w', hrun, h2, h3⟩ := run_storeCells_at (P := P) g off t cells 0 old w hg (by simpa using hfit) h1
  refine ⟨w', ?_, by simpa using h2, h3⟩
  cases hq : P.info? ty with
  | none => simp [hq] at hi
  | some i =>
    have hs : i.size = cells.length := by simpa [hq] using hi
    simp [storeVar, sizeOf, typeInfo, hq, Value.cells, hs, hrun]

theorem wpList_store_at {ops : Array Oper} {rest : List Oper} {o : Oper} {a : Act} {Q : Exit → Act → World → Prop} (hgd : o.guard = none) (ty : TypeId) (x y : Operand) (ho : o.op = .store ty x y)
    (g off : Nat) (cells : List Value) (hx : a.eval x = .pointer (some ⟨g, off, none⟩)) (hy : a.eval y = .agg cells.toArray)
    (t : TypeId) (old : List Value) (hg : Blk w g t old.toArray) (hi : (P.info? ty).map (·.size) = some cells.length) (hfit : off + cells.length ≤ old.length) (h1 : ∀ v ∈ cells, v.oneCell' = true)
    (h : ∀ w', Blk w' g t (splice old off cells).toArray → w.grownBy w' (some g) → wpList P ops Q rest (a.put o.dst undef) w') : wpList P ops Q (o :: rest) a w := by
  refine wpList_plain hgd fun _ hK => ?_
  obtain ⟨w', hrun, h2, h3⟩ := run_storeVar_at (P := P) g off ty t old cells hg hi hfit h1
  unfold Oper.wp execOp
  simp only [ho, hx, hy, Instr.storeAt, Instr.sureAddr, Sem.run_bind, Sem.run_pure, Result.andThen_ok, hrun]
  exact hK _ _ (h w' h2 h3)

theorem splice_whole {α : Type} (old cells : List α) (h : old.length = cells.length) : splice old 0 cells = cells := by
  simp [splice, ← h]

/-- a whole row -/
theorem wpList_store_whole {ops : Array Oper} {rest : List Oper} {o : Oper} {a : Act} {Q : Exit → Act → World → Prop} (hgd : o.guard = none) (ty : TypeId) (x y : Operand) (ho : o.op = .store ty x y)
    (g : Nat) (cells : List Value) (hx : a.eval x = .pointer (some ⟨g, 0, none⟩)) (hy : a.eval y = .agg cells.toArray)
    (t : TypeId) (old : List Value) (hg : Blk w g t old.toArray) (hi : (P.info? ty).map (·.size) = some cells.length) (hfit : old.length = cells.length) (h1 : ∀ v ∈ cells, v.oneCell' = true)
    (h : ∀ w', Blk w' g t cells.toArray → w.grownBy w' (some g) → wpList P ops Q rest (a.put o.dst undef) w') : wpList P ops Q (o :: rest) a w :=
  wpList_store_at hgd ty x y ho g 0 cells hx hy t old hg hi (by omega) h1 (fun w' h2 h3 => h w' (by rwa [splice_whole _ _ hfit] at h2) h3)

/-- a call whose result is an array variable of its own -/
theorem bodyPost_row {fn : Func} {R : Ending → World → Prop} {a : Act} {p : Tmp} {ty : TypeId} (hr : fn.results = #[.cell p ty]) (g : Nat) (hp : a.tmps.getD p undef = .pointer (some ⟨g, 0, none⟩)) (t : TypeId) (cs : Array Value) (d : TypeDesc)
    (hg : Blk w g t cs) (hu : P.underlying ty = some d) (hd : agg? d = true) (hi : (P.info? ty).map (·.size) = some cs.size) (hdef : a.defers = []) (hR : R (.returned (.agg cs)) w) : bodyPost P fn R .ret a w := by
  refine bodyPost_ret ?_ hdef hR
  have hp' : a.tmps[p]?.getD undef = .pointer (some ⟨g, 0, none⟩) := by simpa using hp
  simp [results, hr, hp', asAddr, run_loadVar_at g 0 ty cs d hg.cells hu hd hi]

theorem region_tail {id : Nat} {Q : Exit → Act → World → Prop} {a : Act} {l : List Oper} (n : Nat) (hm : P.follows .mixedOrders = true) (hB : Region.lexTailB .any l.toArray n = true)
    (h : wpStill P l.toArray w.drew (fun a' => wpList P l.toArray Q (l.drop n) a' w.drew) (l.take n) a) : (Code.region id l.toArray true).wp P Q a w := wp_region_still_tail n hm hB h

theorem below_alloc (w : World) (ob : Obj) : Below w.heap.size w (w.alloc ob) := (Below.refl _ _).alloc (Nat.le_refl _) _

theorem wpList_box {ops : Array Oper} {rest : List Oper} {o : Oper} {a : Act} {Q : Exit → Act → World → Prop} (hgd : o.guard = none) (ty : TypeId) (x : Operand) (ho : o.op = .box ty x)
    (cs : Array Value) (hx : a.eval x = .agg cs)
    (h : ∀ w', Blk w' w.heap.size ty cs → Below w.heap.size w w' → w'.heap.size = w.heap.size + 1 → wpList P ops Q rest (a.put o.dst (.pointer (some ⟨w.heap.size, 0, none⟩))) w') : wpList P ops Q (o :: rest) a w := by
  refine wpList_plain hgd fun _ hK => ?_
  unfold Oper.wp execOp
  have e : (Instr.box ty (.agg cs)).run P w = .ok (.pointer (some ⟨w.heap.size, 0, none⟩)) (w.alloc (.cells cs ty)) := by
    simp [Instr.box, newVar, newRow, Value.cells]
  simp only [ho, hx, Sem.run_bind, Sem.run_pure, Result.andThen_ok, e]
  exact hK _ _ (h _ (Blk.new w ty cs) (below_alloc w _) (by simp))

theorem wpList_alloc {ops : Array Oper} {rest : List Oper} {o : Oper} {a : Act} {Q : Exit → Act → World → Prop} (hgd : o.guard = none) (ty : TypeId) (ho : o.op = .alloc ty)
    (cs : Array Value) (hz : (P.info? ty).map (·.zero) = some (some (.agg cs)))
    (h : ∀ w', Blk w' w.heap.size ty cs → Below w.heap.size w w' → w'.heap.size = w.heap.size + 1 → wpList P ops Q rest (a.put o.dst (.pointer (some ⟨w.heap.size, 0, none⟩))) w') : wpList P ops Q (o :: rest) a w := by
  refine wpList_plain hgd fun _ hK => ?_
  unfold Oper.wp execOp
  have e : (Instr.alloc ty true (.tuple #[])).run P w = .ok (.pointer (some ⟨w.heap.size, 0, none⟩)) (w.alloc (.cells cs ty)) := by
    cases hq : P.info? ty with
    | none => simp [hq] at hz
    | some i =>
      have hs : i.zero = some (.agg cs) := by simpa [hq] using hz
      simp [Instr.alloc, zeroValue, typeInfo, hq, hs, newVar, newRow, Value.cells]
  simp only [ho, Sem.run_bind, Sem.run_pure, Result.andThen_ok, e]
  exact hK _ _ (h _ (Blk.new w ty cs) (below_alloc w _) (by simp))

/-- an element of an array by value -/
theorem run_index_agg (t e : TypeId) (n : Nat) (cs : Array Value) (k : IntKind) (i : Nat) (v : Value) (h : P.underlying t = some (.array n e)) (he : P.plainKey e = true) (h1 : (P.info? e).map (·.size) = some 1) (hi : i < n) (hv : cs[i]? = some v) :
    (Instr.index t (.agg cs) (.int k (i : Int))).run P w = .ok v w := by
  cases hq : P.info? e with
  | none => simp [hq] at h1
  | some ie =>
    have hs : ie.size = 1 := by simpa [hq] using h1
    have hc : (0 : Int) ≤ (i : Int) ∧ (i : Int) < (n : Int) := by omega
    simp [Instr.index, run_underlying h, asIntOf, hc, sizeOf, typeInfo, hq, hs, run_part_plain w he hv]
    exact fun h => absurd hi (by omega)

/-- an array of integers equals itself -/
theorem run_eqItems_self (d : Nat) (e : TypeId) (k : IntKind) (xs : Array Value) (he : P.underlying e = some (.int k)) (hp : P.plainKey e = true) : ∀ (is : List Nat) (w : World), (∀ i ∈ is, ∃ z, xs[i]? = some (.int k z)) →
    (Op.eqItems (d + 1) e 1 xs xs is).run P w = .ok true w
  | [], w, _ => by simp [Op.eqItems]
  | i :: is, w, h => by
    obtain ⟨z, hz⟩ := h i (by simp)
    have p1 := run_part_plain w hp (off := i) hz
    simp only [Op.eqItems, Sem.run_bind, Nat.mul_one, p1, Result.andThen_ok, run_equalIn_int w d e k k z z he, beq_self_eq_true, Bool.not_true, Bool.false_eq_true, if_false]
    exact run_eqItems_self d e k xs he hp is w (fun j hj => h j (by simp [hj]))
theorem run_equalIn_self (d n : Nat) (t e : TypeId) (k : IntKind) (i : TypeInfo) (xs : Array Value) (ht : P.underlying t = some (.array n e)) (hi : P.info? e = some i) (h1 : P.cellsOf e = 1) (he : P.underlying e = some (.int k)) (hp : P.plainKey e = true)
    (hx : ∀ i, i < n → ∃ z, xs[i]? = some (.int k z)) (w : World) : (Op.equalIn (d + 2) t (.agg xs) (.agg xs)).run P w = .ok true w := by
  rw [run_equalIn_array w (d + 1) xs xs ht hi, h1]
  exact run_eqItems_self d e k xs he hp _ w (fun i hi => hx i (List.mem_range.1 hi))
end
end Go.Proofs.YthfbmihpdkkcjaaDoor
