/-
  Package disk's apply, by its contract; copy into a row, at a place, as one operation. Conditions: each theorem's own premises.
-/
import Derived.Test.YtdhaikcmgegfoaaDiskCode1
namespace Go.Proofs.Ytdhaikcmgegfoaa
open Go.RowKit

theorem run_copy_to {P : Program} {w : World} (dT sT ty elem : TypeId) (hu : P.underlying dT = some (.slice elem)) (hsz : (P.info? elem).map (·.size) = some 1)
    (g off dLen dCap sLen sCap : Nat) (sp : Option Addr) (cur : List Value) (t : TypeId) (hg : Blk w g t cur.toArray) (cs : List Value) (hn : cs.length = Nat.min sLen dLen)
    (hpos : 0 < cs.length → ∃ ad, sp = some ad ∧ ∀ j v, cs[j]? = some v → w.cell? (ad.add j) = some v) (hfit : off + cs.length ≤ cur.length) (h1 : ∀ v ∈ cs, v.oneCell' = true) :
    ∃ w', (Builtin.copy_ #[dT, sT] ty #[.slice (some ⟨g, off, none⟩) dLen dCap, .slice sp sLen sCap]).run P w = .ok (goInt cs.length) w' ∧ Blk w' g t (splice cur off cs).toArray ∧ w.grownBy w' (some g) := by
  by_cases h0 : cs.length = 0
  · obtain rfl : cs = [] := List.eq_nil_of_length_eq_zero h0
    exact ⟨w, run_copy_none (P := P) w dT sT ty elem _ sp dLen dCap sLen sCap hu hsz (by simpa using hn.symm), by simpa [splice] using hg, only_refl _ _⟩
  · obtain ⟨ad, rfl, hsrc⟩ := hpos (by omega)
    refine ⟨_, run_copy_row (P := P) w dT sT ty elem g off dLen dCap ad sLen sCap cur.toArray t cs hu hsz hg hn hsrc (by simpa using hfit) h1, ?_, ⟨rfl, rfl, rfl, by simp [World.setRow], fun k hk hne => setRow_other w g k _ (fun e => hne (by rw [e]))⟩⟩
    have := setRow_heap w g cur.toArray (cur.toArray.toList.take off ++ (cs ++ cur.toArray.toList.drop (off + cs.length))).toArray t (0, 0) hg
    simpa [splice, Blk] using this

theorem wp_copy_to {P : Program} {w : World} {o : Oper} {a : Act} {K : Act → World → Prop} {Q : Exit → Act → World → Prop} (d s : Operand) (dT sT : TypeId)
    (ho : o.op = .call { callee := .builtin .copy, args := #[d, s], argTypes := #[dT, sT] }) (elem : TypeId) (hu : P.underlying dT = some (.slice elem)) (hsz : (P.info? elem).map (·.size) = some 1)
    (g off dLen dCap sLen sCap : Nat) (sp : Option Addr) (hd : a.eval d = .slice (some ⟨g, off, none⟩) dLen dCap) (hs : a.eval s = .slice sp sLen sCap)
    (cur : List Value) (t : TypeId) (hg : Blk w g t cur.toArray) (cs : List Value) (hn : cs.length = Nat.min sLen dLen)
    (hpos : 0 < cs.length → ∃ ad, sp = some ad ∧ ∀ j v, cs[j]? = some v → w.cell? (ad.add j) = some v)
    (hfit : off + cs.length ≤ cur.length) (h1 : ∀ v ∈ cs, v.oneCell' = true)
    (h : ∀ w', Blk w' g t (splice cur off cs).toArray → w.grownBy w' (some g) → K (a.put o.dst (goInt cs.length)) w') : o.wp P a w K Q := by
  obtain ⟨w', hrun, h2, h3⟩ := run_copy_to (P := P) (w := w) dT sT o.type elem hu hsz g off dLen dCap sLen sCap sp cur t hg cs hn hpos hfit h1
  unfold Oper.wp
  simp [execOp, ho, resolve, invoke, builtin, hd, hs, hrun, Result.andThen]
  exact h w' h2 h3

theorem wpList_copy_to {P : Program} {w : World} {ops : Array Oper} {rest : List Oper} {o : Oper} {a : Act} {Q : Exit → Act → World → Prop} (hgd : o.guard = none) (d s : Operand) (dT sT : TypeId)
    (ho : o.op = .call { callee := .builtin .copy, args := #[d, s], argTypes := #[dT, sT] }) (elem : TypeId) (hu : P.underlying dT = some (.slice elem)) (hsz : (P.info? elem).map (·.size) = some 1)
    (g off dLen dCap sLen sCap : Nat) (sp : Option Addr) (hd : a.eval d = .slice (some ⟨g, off, none⟩) dLen dCap) (hs : a.eval s = .slice sp sLen sCap)
    (cur : List Value) (t : TypeId) (hg : Blk w g t cur.toArray) (cs : List Value) (hn : cs.length = Nat.min sLen dLen)
    (hpos : 0 < cs.length → ∃ ad, sp = some ad ∧ ∀ j v, cs[j]? = some v → w.cell? (ad.add j) = some v)
    (hfit : off + cs.length ≤ cur.length) (h1 : ∀ v ∈ cs, v.oneCell' = true)
    (h : ∀ w', Blk w' g t (splice cur off cs).toArray → w.grownBy w' (some g) → wpList P ops Q rest (a.put o.dst (goInt cs.length)) w') : wpList P ops Q (o :: rest) a w := by
  refine wpList_plain hgd fun _ hK => ?_
  exact wp_copy_to d s dT sT ho elem hu hsz g off dLen dCap sLen sCap sp hd hs cur t hg cs hn hpos hfit h1 (fun w' h2 h3 => hK _ _ (h w' h2 h3))

section
variable {w w' : World} {gd gc cw : Nat} {F : Nat → Prop} {W T : Option Addr} {m : Dk}
theorem set_ok (h : m.ok) {k : Nat} {s : List UInt8} (hs : s.length = 64) : ({ m with has := m.has.set k s } : Dk).ok :=
  ⟨by simpa using h.small, fun x hx => by
    rcases List.mem_or_eq_of_mem_set hx with h1 | rfl
    · exact h.len x h1
    · exact hs, by simpa using h.at_, h.leftB⟩
/-- the content is written -/
theorem CodeAt.fill (h : CodeAt w gd F m gc W cw T) {has' : List (List UInt8)} (hk : Kept (· = gc) w w') (hb : Blk w' gc 5 (bv has'.flatten).toArray) (hl : has'.length = m.has.length) (ho : ({ m with has := has' } : Dk).ok) : CodeAt w' gd F { m with has := has' } gc W cw T := by
  refine ⟨ho, h.idle, fun g hg => Nat.lt_of_lt_of_le (h.lt g hg) hk.size, h.own, ?_, h.ownC, hb, row_keep h.pend hk (fun g e2 e3 => row_apart h.pend h.content (by decide) (e3 ▸ e2)), h.ownP, ?_⟩
  · simp only [hl]
    exact hk.blk h.blk (fun e => h.blk.apart h.content (by decide) e)
  · rcases h.armed with h1 | ⟨h0, ga, S, cs, e, h1, h2, h3, h4⟩
    · exact .inl h1
    · exact .inr ⟨h0, ga, S, cs, e, h1, hk.blk h2 (fun e => h2.apart h.content (by decide) e), row_keep h3 hk (fun g e2 e3 => row_apart h3 h.content (by decide) (e3 ▸ e2)), h4⟩
end
theorem u8_size : (Try.prog.info? 5).map (·.size) = some 1 := by kernel_rfl
theorem wr1_part (p : Nat × List UInt8) : ((wr1 p).drop 1).take (bv p.2).length = bv p.2 := by simp [wr1]

set_option maxRecDepth 100000 in
set_option maxHeartbeats 1000000 in
theorem dkApply (w : World) (gd : Nat) (F : Nat → Prop) (m : Dk) (gc : Nat) (W : Option Addr) (cw : Nat) (T : Option Addr) (h : CodeAt w gd F m gc W cw T) (k : Nat) (s : List UInt8) (hk : k < m.has.length) (hs : s.length = 64) :
    Calls Try.prog 47 #[.pointer (some ⟨gd, 0, none⟩), .agg (wr1 (k, s)).toArray] w fun e w' => e = .returned (.tuple #[]) ∧ CodeAt w' gd F { m with has := m.has.set k s } gc W cw T ∧ Kept (· = gc) w w' := by
  have HC := Lib.hid (And.intro h (And.intro hk hs))
  obtain ⟨X, eX⟩ : ∃ X, (wr1 (k, s)).toArray = X := ⟨_, rfl⟩
  have HX := Lib.hid eX
  rw [eX]
  clear h eX hk hs
  go_enter Try.func47, Try.ntmps47
  go_wp2_with (first
    | (refine wpList_box rfl 94 (.tmp 1) rfl X rfl ?_; intro w1 hb1 hw1 hz1)
    | fail)
  obtain ⟨g1, e1⟩ : ∃ g, w.heap.size = g := ⟨_, rfl⟩
  rw [e1] at hb1 hw1 ⊢
  have hc0 : w1.cell? ⟨g1, 0, none⟩ = some (.int .i64 (k : Int)) := by rw [hb1.cell, ← HX.out]; rfl
  have h1 := HC.out.1.below (e1.symm ▸ hw1)
  have hsec := Lib.hid (dkSector w1.drew gd gc m.has.length k HC.out.2.1 h1.ok.small h1.c0)
  have HW := Lib.hid (And.intro h1 (And.intro hb1 (And.intro hw1 e1)))
  obtain ⟨c7, ec⟩ : ∃ c, 64 * m.has.length - 64 * k = c := ⟨_, rfl⟩
  obtain ⟨o7, eo⟩ : ∃ o, 64 * k = o := ⟨_, rfl⟩
  rw [ec, eo] at hsec
  have HO := Lib.hid eo
  clear h1 hb1 hw1 hz1 e1 ec eo
  have hS0 : (fun w' : World => w'.cell? ⟨g1, 0, none⟩ = some (.int .i64 (k : Int))) w1.drew := hc0
  refine wp_region_held_drew (S := fun w' => w'.cell? ⟨g1, 0, none⟩ = some (.int .i64 (k : Int))) (by kernel_rfl) hS0 (fun hHeld => ?_)
  refine wpAnyH_take (i := 0) (v := ?_) (List.getElem?_toArray.trans (List.getElem?_cons_zero)) (by kernel_rfl) (by kernel_rfl) (by kernel_rfl) (fun _ _ _ h => h) (Or.inl ⟨by rfl, ?_⟩) (by assumption) ?_
  rotate_left
  · intro w' hSw; (try dsimp only at hSw); go_simp; try with_reducible rfl
  try simp only [Act.put, List.setIfInBounds_toArray, List.set_cons_zero, List.set_cons_succ]
  refine wpAnyH_take (i := 1) (v := ?_) (List.getElem?_toArray.trans (List.getElem?_cons_succ.trans (List.getElem?_cons_zero))) (by kernel_rfl) (by kernel_rfl) (by kernel_rfl) (fun _ _ _ h => h) (Or.inl ⟨by rfl, ?_⟩) (by assumption) ?_
  rotate_left
  · intro w' hSw; (try dsimp only at hSw); go_simp; try with_reducible rfl
  try simp only [Act.put, List.setIfInBounds_toArray, List.set_cons_zero, List.set_cons_succ]
  refine wpAnyH_take (i := 2) (v := ?_) (List.getElem?_toArray.trans (List.getElem?_cons_succ.trans (List.getElem?_cons_succ.trans (List.getElem?_cons_zero)))) (by kernel_rfl) (by kernel_rfl) (by kernel_rfl) (fun _ _ _ h => h) (Or.inl ⟨by rfl, ?_⟩) (by assumption) ?_
  rotate_left
  · intro w' hSw; (try dsimp only at hSw); go_simp; try with_reducible rfl
  try simp only [Act.put, List.setIfInBounds_toArray, List.set_cons_zero, List.set_cons_succ]
  refine wpAnyH_take (i := 4) (v := ?_) (List.getElem?_toArray.trans (List.getElem?_cons_succ.trans (List.getElem?_cons_succ.trans (List.getElem?_cons_succ.trans (List.getElem?_cons_succ.trans (List.getElem?_cons_zero)))))) (by kernel_rfl) (by kernel_rfl) (by kernel_rfl) (fun _ _ _ h => h) (Or.inl ⟨by rfl, ?_⟩) (by assumption) ?_
  rotate_left
  · intro w' hSw; (try dsimp only at hSw); go_simp; try with_reducible rfl
  try simp only [Act.put, List.setIfInBounds_toArray, List.set_cons_zero, List.set_cons_succ]
  refine wpAnyH_take (i := 5) (v := ?_) (List.getElem?_toArray.trans (List.getElem?_cons_succ.trans (List.getElem?_cons_succ.trans (List.getElem?_cons_succ.trans (List.getElem?_cons_succ.trans (List.getElem?_cons_succ.trans (List.getElem?_cons_zero))))))) (by kernel_rfl) (by kernel_rfl) (by kernel_rfl) (fun _ _ _ h => h) (Or.inl ⟨by rfl, ?_⟩) (by assumption) ?_
  rotate_left
  · intro w' hSw; (try dsimp only at hSw); go_simp; try with_reducible rfl
  try simp only [Act.put, List.setIfInBounds_toArray, List.set_cons_zero, List.set_cons_succ]
  refine wpAnyH_ready (rs := [3]) (by kernel_rfl) (by simp) ?_
  refine AllReadyH.cons (List.getElem?_toArray.trans (List.getElem?_cons_succ.trans (List.getElem?_cons_succ.trans (List.getElem?_cons_succ.trans (List.getElem?_cons_zero))))) (fun K hK => ?_) AllReadyH.nil
  go_simp
  refine hsec.out.mono ?_
  rintro e w' ⟨rfl, rfl⟩
  refine hK.out _ _ hS0 (fun hHeld => ?_)
  clear hK K
  try simp only [Act.put, List.setIfInBounds_toArray, List.set_cons_zero, List.set_cons_succ]
  refine wpAnyH_ready (rs := [6]) (by kernel_rfl) (by simp) ?_
  refine AllReadyH.cons (List.getElem?_toArray.trans (List.getElem?_cons_succ.trans (List.getElem?_cons_succ.trans (List.getElem?_cons_succ.trans (List.getElem?_cons_succ.trans (List.getElem?_cons_succ.trans (List.getElem?_cons_succ.trans (List.getElem?_cons_zero)))))))) (fun K hK => ?_) AllReadyH.nil
  have hbX : Blk w1.drew g1 94 (wr1 (k, s)).toArray := HX.out ▸ HW.out.2.1
  have hcells := Blk.part hbX (wr1_part (k, s))
  have hl64 : (bv s).length = 64 := by rw [bv_length]; exact HC.out.2.2
  refine wp_copy_to (.tmp 7) (.tmp 9) 57 57 rfl 5 Try.underlying57 u8_size gc o7 64 c7 64 64 (some ⟨g1, 1, none⟩) rfl rfl (bv m.has.flatten) 5 HW.out.1.content (bv s) (by rw [hl64]; rfl) (fun _ => ⟨_, rfl, fun j v hv => by rw [Addr.add_lit]; exact hcells j v (by simpa using hv)⟩) (by rw [hl64, bv_length, flat_length HC.out.1.ok.len, ← HO.out]; have := HC.out.2.1; omega) (bv_one _) ?_
  intro w3 hb3 hg3
  refine hK.out _ _ (show w3.cell? ⟨g1, 0, none⟩ = some (.int .i64 (k : Int)) from ?_) (fun _ => ?_)
  · have hne := HW.out.2.1.apart HW.out.1.content (by decide)
    rw [← hc0]
    exact World.cell?_of_block (hg3.block g1 HW.out.2.1.lt (some_neq hne))
  clear hK K
  refine wpAnyH_done (by kernel_rfl) ?_ _
  rw [bv_splice, ← HO.out, flat_set HC.out.1.ok.len HC.out.2.1 HC.out.2.2] at hb3
  go_end0
  have hk3 : Kept (· = gc) w1 w3 := (Kept.of_grown (F := (· = gc)) (w := w1.drew) hg3 (fun g e => .inl (Option.some.inj e).symm)).undr
  refine ⟨rfl, HW.out.1.fill hk3 hb3 (by simp) (set_ok HW.out.1.ok HC.out.2.2), ?_⟩
  exact (Kept.of_below (HW.out.2.2.2.symm ▸ HW.out.2.2.1)).trans hk3 (fun g hg => .inl hg)
end Go.Proofs.Ytdhaikcmgegfoaa
