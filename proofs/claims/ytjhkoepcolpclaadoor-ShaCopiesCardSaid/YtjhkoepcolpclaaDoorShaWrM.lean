/-
  What a Hash has received when some bytes more come; slices from a place on; copy into a row. No conditions but each theorem's premises.
-/
import Derived.Test.YtjhkoepcolpclaaDoorShaH0
namespace Go.Proofs.YtjhkoepcolpclaaDoor
open Go.RowKit

/-- t bytes more: the block that is begun holds them too -/
theorem begun_more (l b blk : List UInt8) (t : Nat) (hb : blk.length = 64) (hk : blk.take (l.length % 64) = l.drop (64 * (l.length / 64))) (ht : t ≤ 64 - l.length % 64) (htb : t ≤ b.length) :
    (splice blk (l.length % 64) (b.take t)).length = 64 ∧ (splice blk (l.length % 64) (b.take t)).take (l.length % 64 + t) = (l ++ b.take t).drop (64 * (l.length / 64)) := by
  have hl : (b.take t).length = t := by simp; omega
  constructor
  · rw [length_splice _ _ _ (by rw [hl]; omega), hb]
  · unfold splice
    rw [List.drop_append_of_le_length (by omega), ← hk, ← List.append_assoc, List.take_append_of_le_length (by simp; omega)]
    exact List.take_of_length_le (by simp; omega)
theorem step_short (l m : List UInt8) (h : l.length % 64 + m.length < 64) : (l ++ m).length / 64 = l.length / 64 ∧ (l ++ m).length % 64 = l.length % 64 + m.length ∧ shaH.take ((l ++ m).length / 64) (l ++ m) = shaH.take (l.length / 64) l := by
  have e : (l ++ m).length / 64 = l.length / 64 := by rw [List.length_append]; omega
  refine ⟨e, by rw [List.length_append]; omega, ?_⟩
  rw [e, St.take_append _ _ _ _ (by omega)]
theorem step_full (l m : List UInt8) (blk : List UInt8) (h : l.length % 64 + m.length = 64) (hb : blk.length = 64) (hk : blk = (l ++ m).drop (64 * (l.length / 64))) :
    (l ++ m).length / 64 = l.length / 64 + 1 ∧ (l ++ m).length % 64 = 0 ∧ shaH.take ((l ++ m).length / 64) (l ++ m) = (shaH.take (l.length / 64) l).block blk := by
  have e : (l ++ m).length / 64 = l.length / 64 + 1 := by rw [List.length_append]; omega
  refine ⟨e, by rw [List.length_append]; omega, ?_⟩
  rw [e, St.take, St.take_append _ _ _ _ (by omega), ← hk]
  congr 1
  exact List.take_of_length_le (by omega)

theorem run_from {P : Program} {w : World} (t e : TypeId) (A : Option Addr) (n c k : Nat) (ht : P.underlying t = some (.slice e)) (hte : P.elem t = e) (h1 : (P.info? e).map (·.size) = some 1) (hk : k ≤ n) :
    (Instr.sliceAt t (.slice A n c) (some (.int .i64 (k : Int))) none none).run P w = .ok (.slice (if c = k then A else A.map (·.add k)) (n - k) (c - k)) w := by
  cases hq : P.info? e with
  | none => simp [hq] at h1
  | some i =>
    have hs : i.size = 1 := by simpa [hq] using h1
    rw [run_sliceAt_slice (h := by rw [hte]; exact ht), run_slice_l (ht := by rw [hte]; exact ht) (h0 := by omega) (h1 := by omega)]
    simp [hte, sizeOf, typeInfo, hq, hs, sliced, Result.andThen]
theorem bs_from {w : World} {B : Nat} {A : Option Addr} {l : List UInt8} {c k : Nat} (h : Bs w B A l) (hc : l.length ≤ c) : Bs w B (if c = k then A else A.map (·.add k)) (l.drop k) := by
  by_cases e : c = k
  · rw [if_pos e, List.drop_eq_nil_of_le (by omega)]
    exact Bs.nil_
  · rw [if_neg e]
    intro hn
    have hk : k < l.length := by rw [List.length_drop] at hn; omega
    obtain ⟨b, o, rfl, hb, _⟩ := h.at_ hk
    have := Bs.cut h k l.length (Nat.le_refl _)
    rw [List.take_length] at this
    have e2 : (some (⟨b, o, none⟩ : Addr)).map (·.add k) = some ⟨b, o + k, none⟩ := by simp [Addr.add_lit]
    rw [e2]
    exact this hn

theorem wpList_copy_row {P : Program} {w : World} {ops : Array Oper} {rest : List Oper} {o : Oper} {a : Act} {Q : Exit → Act → World → Prop} (hgd : o.guard = none) (d s : Operand) (dT sT : TypeId)
    (ho : o.op = .call { callee := .builtin .copy, args := #[d, s], argTypes := #[dT, sT] }) (elem : TypeId) (hu : P.underlying dT = some (.slice elem)) (hsz : (P.info? elem).map (·.size) = some 1)
    (g off dLen dCap sLen sCap : Nat) (sp : Option Addr) (hd : a.eval d = .slice (some ⟨g, off, none⟩) dLen dCap) (hs : a.eval s = .slice sp sLen sCap)
    (cur : List Value) (t : TypeId) (hg : Blk w g t cur.toArray) (cs : List Value) (n : Nat) (hn : n = Nat.min sLen dLen) (hl : cs.length = n)
    (hpos : 0 < n → ∃ ad, sp = some ad ∧ ∀ j v, cs[j]? = some v → w.cell? (ad.add j) = some v)
    (hfit : off + n ≤ cur.length) (h1 : ∀ v ∈ cs, v.oneCell' = true)
    (h : ∀ w', Blk w' g t (splice cur off cs).toArray → w.grownBy w' (some g) → wpList P ops Q rest (a.put o.dst (.int .i64 (n : Int))) w') : wpList P ops Q (o :: rest) a w := by
  subst hl
  by_cases h0 : cs.length = 0
  · obtain rfl : cs = [] := List.eq_nil_of_length_eq_zero h0
    refine wpList_copy_nothing hgd d s dT sT ho elem hu hsz _ sp dLen dCap sLen sCap hd hs (by simpa using hn.symm) ?_
    exact h w (by simpa [splice] using hg) (only_refl _ _)
  · obtain ⟨ad, rfl, hsrc⟩ := hpos (by omega)
    refine wpList_copy_own hgd d s dT sT ho elem hu hsz g off dLen dCap ad sLen sCap hd hs cur.toArray t hg cs hn hsrc (by simpa using hfit) h1 ?_
    refine h _ ?_ ⟨rfl, rfl, rfl, by simp [World.setRow], fun k hk hne => setRow_other w g k _ (fun e => hne (by rw [e]))⟩
    have := setRow_heap w g cur.toArray (cur.toArray.toList.take off ++ (cs ++ cur.toArray.toList.drop (off + cs.length))).toArray t (0, 0) hg
    simpa [splice, Blk] using this
theorem wp_load_at {P : Program} {w : World} {o : Oper} {a : Act} {K : Act → World → Prop} {Q : Exit → Act → World → Prop} (ty : TypeId) (x : Operand) (ho : o.op = .load ty x)
    (g off : Nat) (hx : a.eval x = .pointer (some ⟨g, off, none⟩)) (cs : Array Value) (d : TypeDesc) (hc : Cells w g off cs)
    (hu : P.underlying ty = some d) (hd : agg? d = true) (hi : (P.info? ty).map (·.size) = some cs.size) (h : K (a.put o.dst (.agg cs)) w) : o.wp P a w K Q := by
  unfold Oper.wp execOp
  simp only [ho, hx, Instr.loadAt, Instr.sureAddr, Sem.run_bind, Sem.run_pure, Result.andThen_ok, run_loadVar_at g off ty cs d hc hu hd hi]
  exact h
theorem wp_store_at {P : Program} {w : World} {o : Oper} {a : Act} {K : Act → World → Prop} {Q : Exit → Act → World → Prop} (ty : TypeId) (x y : Operand) (ho : o.op = .store ty x y)
    (g off : Nat) (cells : List Value) (hx : a.eval x = .pointer (some ⟨g, off, none⟩)) (hy : a.eval y = .agg cells.toArray)
    (t : TypeId) (old : List Value) (hg : Blk w g t old.toArray) (hi : (P.info? ty).map (·.size) = some cells.length) (hfit : off + cells.length ≤ old.length) (h1 : ∀ v ∈ cells, v.oneCell' = true)
    (h : ∀ w', Blk w' g t (splice old off cells).toArray → w.grownBy w' (some g) → K (a.put o.dst undef) w') : o.wp P a w K Q := by
  obtain ⟨w', hrun, h2, h3⟩ := run_storeVar_at (P := P) g off ty t old cells hg hi hfit h1
  unfold Oper.wp execOp
  simp only [ho, hx, hy, Instr.storeAt, Instr.sureAddr, Sem.run_bind, Sem.run_pure, Result.andThen_ok, hrun]
  exact h w' h2 h3
theorem wpList_slice_from {P : Program} {w : World} {ops : Array Oper} {rest : List Oper} {o : Oper} {a : Act} {Q : Exit → Act → World → Prop} (hgd : o.guard = none) (t : TypeId) (x lo : Operand) (ho : o.op = .slice t x (some lo) none none)
    (e : TypeId) (ht : P.underlying t = some (.slice e)) (hte : P.elem t = e) (h1 : (P.info? e).map (·.size) = some 1) (A : Option Addr) (l : List UInt8) (n c k : Nat) (hx : a.eval x = .slice A n c) (hlo : a.eval lo = .int .i64 (k : Int)) (hl : l.length = n) (hk : k ≤ n) (hc : n ≤ c)
    (h : ∀ A2 m2 c2, m2 + k = n → m2 ≤ c2 → (∀ w' B, Bs w' B A l → Bs w' B A2 (l.drop k)) → wpList P ops Q rest (a.put o.dst (.slice A2 m2 c2)) w) : wpList P ops Q (o :: rest) a w := by
  refine wpList_plain hgd fun _ hK => ?_
  unfold Oper.wp execOp
  have hr := run_from (P := P) (w := w) t e A n c k ht hte h1 hk
  simp only [ho, hx, hlo, Option.map_some, Option.map_none, Sem.run_bind, Sem.run_pure, hr, Result.andThen_ok]
  exact hK _ _ (h _ _ _ (by omega) (by omega) (fun w' B hb => bs_from hb (by omega)))
theorem at_slice {P : Program} {w : World} {ops : Array Oper} {rest : List Oper} {d : Option Tmp} {ty : TypeId} {x : Operand} {lo hi mx : Option Operand} {t : TypeId} {p : String} {af : Array Edge} {g : Option (Nat × Bool)} {a : Act} {Q : Exit → Act → World → Prop}
    (h : wpList P ops Q (⟨d, .slice ty x lo hi mx, t, p, af, g⟩ :: rest) a w) : wpList P ops Q (⟨d, .slice ty x lo hi mx, t, p, af, g⟩ :: rest) a w := h
theorem at_store {P : Program} {w : World} {ops : Array Oper} {rest : List Oper} {d : Option Tmp} (ty : TypeId) {x y : Operand} {t : TypeId} {p : String} {af : Array Edge} {g : Option (Nat × Bool)} {a : Act} {Q : Exit → Act → World → Prop}
    (h : wpList P ops Q (⟨d, .store ty x y, t, p, af, g⟩ :: rest) a w) : wpList P ops Q (⟨d, .store ty x y, t, p, af, g⟩ :: rest) a w := h
end Go.Proofs.YtjhkoepcolpclaaDoor
