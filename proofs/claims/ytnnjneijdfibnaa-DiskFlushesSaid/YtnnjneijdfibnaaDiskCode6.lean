/-
  slices.Clone of flags, and package disk's Arm, by their contracts. Conditions: each theorem's own premises.
-/
import Derived.Test.YtnnjneijdfibnaaDiskCode5
namespace Go.Proofs.Ytnnjneijdfibnaa
open Go.RowKit

theorem bool_info : (Try.prog.info? 4).map (fun i => (i.zero, i.size, i.bytes)) = some (some (.bool false), 1, 1) := by kernel_rfl
def RowPost (w : World) (t : TypeId) (n : Nat) (vs : List Value) (e : Ending) (w' : World) : Prop :=
  ∃ A c, e = .returned (.slice A n c) ∧ w'.ownsRow w.heap.size t 1 (.slice A n c) n vs ∧ Below w.heap.size w w'

set_option maxRecDepth 100000 in
theorem boolClone (w : World) (S : Option Addr) (l : List Bool) (c n : Nat) (hn : l.length = n) (hS : Vs w w.heap.size S (bvs l)) (hl : n ≤ 140737488355328) :
    Calls Try.prog 26 #[.slice S n c] w (RowPost w 4 n (bvs l)) := by
  have h0 := fun (w : World) => Lib.run_eql_slice_nil (P := Try.prog) w 35 4
  obtain ⟨i0, hi0, hz0, hz1, hz2⟩ := info_parts bool_info
  rcases S with _ | a
  · have hl0 : l = [] := by
      rcases Nat.eq_zero_or_pos l.length with h | h
      · exact List.eq_nil_of_length_eq_zero h
      · obtain ⟨_, _, e, _⟩ := hS (by rw [bvs_length]; exact h)
        cases e
    subst hl0
    obtain rfl : n = 0 := hn.symm
    clear hS hn hl
    go_enter Try.func26, Try.ntmps26
    go_wp2_with fail
    go_ret
    exact ⟨none, 0, rfl, row_nil _ _ _ _, Below.refl _ _⟩
  · have HS := Lib.hid (And.intro hS (And.intro hn hl))
    clear hS hn hl
    go_enter Try.func26, Try.ntmps26
    go_wp2_with (first
      | (at_builtin
         refine wpList_append_row _ rfl (.tmp 5) (.tmp 6) 35 rfl w.heap.size 4 i0 _ 1 1 Try.underlying35 hi0 hz0 hz1 hz2 rfl (by decide) _ 0 [] rfl (row_empty w w.heap.size 1 4 (Nat.le_refl _)) w.heap.size (some a) c n (bvs l) rfl (HS.out.1.below (below_alloc w _)) (by rw [bvs_length, HS.out.2.1, Nat.mul_one]) (bvs_one l) (by have := HS.out.2.2; omega) (by have := HS.out.2.2; simp only [maxLen]; omega) (by simp) ?_
         intro v1 w1 hown1 hg1 hb1)
      | fail)
    go_ret
    rw [Nat.zero_add, List.nil_append] at hown1
    obtain ⟨A, c1, rfl, _, _, _, _⟩ := vs_of_row hown1
    exact ⟨A, c1, rfl, hown1, (below_alloc w _).trans (only_below hg1 (by simp) (fun g' e => by cases e; exact Nat.le_refl _))⟩

theorem at_build_ {P : Program} {w : World} {ops : Array Oper} {rest : List Oper} {d : Option Tmp} (ty : TypeId) {fs : Array (Nat × Operand)} {t : TypeId} {p : String} {af : Array Edge} {g : Option (Nat × Bool)} {a : Act} {Q : Exit → Act → World → Prop}
    (h : wpList P ops Q (⟨d, .build ty fs, t, p, af, g⟩ :: rest) a w) : wpList P ops Q (⟨d, .build ty fs, t, p, af, g⟩ :: rest) a w := h
theorem wpList_build_got {P : Program} {w : World} {ops : Array Oper} {rest : List Oper} {o : Oper} {a : Act} {Q : Exit → Act → World → Prop} (hg : o.guard = none) (t : TypeId) (parts : Array (Nat × Operand)) (ho : o.op = .build t parts) (cells : Array Value)
    (hf : P.built t (parts.map fun (i, x) => (i, a.eval x)).toList = some cells) (h : wpList P ops Q rest (a.put o.dst (.agg cells)) w) : wpList P ops Q (o :: rest) a w := by
  refine wpList_build hg t parts ho (by rw [hf]; rfl) ?_
  rw [hf]
  exact h
theorem failure_built (n : Int) (S : Option Addr) (k c : Nat) : Try.prog.built 63 [(0, .int .i64 n), (1, .slice S k c)] = some #[.int .i64 n, .slice S k c] := by kernel_rfl

theorem failure_new (a : Act) (x y : Operand) (n : Int) (S : Option Addr) (k c : Nat) (hx : a.eval x = .int .i64 n) (hy : a.eval y = .slice S k c) : Try.prog.built 63 ((#[(0, x), (1, y)] : Array (Nat × Operand)).map fun (i, x) => (i, a.eval x)).toList = some #[.int .i64 n, .slice S k c] := by
  have e : ((#[(0, x), (1, y)] : Array (Nat × Operand)).map fun (i, x) => (i, a.eval x)).toList = [(0, .int .i64 n), (1, .slice S k c)] := by simp [hx, hy]
  rw [e]
  exact failure_built n S k c
theorem row_base {w : World} {base n size : Nat} {e : TypeId} {v : Value} {vs : List Value} (h : w.ownsRow base e size v n vs) : w.ownsRow 0 e size v n vs := by
  refine ⟨h.1, ?_⟩
  rcases h.2 with h2 | ⟨g, cap, cur, hv, hg, hr⟩
  · exact .inl h2
  · exact .inr ⟨g, cap, cur, hv, Nat.zero_le _, hr⟩
section
variable {w w1 w2 : World} {gd gc cw : Nat} {F G : Nat → Prop} {W T : Option Addr} {m : Dk}
theorem CodeAt.wider (h : CodeAt w gd F m gc W cw T) (hG : ∀ g, F g → G g) (hl : ∀ g, G g → g < w.heap.size) : CodeAt w gd G m gc W cw T := by
  refine ⟨h.ok, h.idle, hl, hG _ h.own, h.blk, hG _ h.ownC, h.content, h.pend, fun g e => hG g (h.ownP g e), ?_⟩
  rcases h.armed with h1 | ⟨h0, ga, S, cs, e, h1, h2, h3, h4⟩
  · exact .inl h1
  · exact .inr ⟨h0, ga, S, cs, e, hG _ h1, h2, h3, fun g e => hG g (h4 g e)⟩
/-- armed anew: the failure lies in a new block, and so do its survivors -/
theorem CodeAt.rearm (h : CodeAt w gd F m gc W cw T) (hb : Blk w gd 51 (dkCells gc (64 * m.has.length) W m.waits.length cw m.off T).toArray) {left : Int} {surv : List Bool} {ga : Nat} {S : Option Addr} {cs : Nat} (hl0 : 0 ≤ left) (hl1 : left ≤ 9223372036854775807) (hoff : m.off = false)
    (hba : Blk w ga 63 #[.int .i64 left, .slice S surv.length cs]) (hrow : w.ownsRow 0 4 1 (.slice S surv.length cs) surv.length (bvs surv)) (hg : w.grownBy w2 (some gd))
    (hb2 : Blk w2 gd 51 (dkCells gc (64 * m.has.length) W m.waits.length cw m.off (some ⟨ga, 0, none⟩)).toArray) :
    CodeAt w2 gd (fun g => F g ∨ g = ga ∨ (Value.slice S surv.length cs).ownBlock = some g) { m with left := left, surv := surv } gc W cw (some ⟨ga, 0, none⟩) := by
  have hk : Kept (· = gd) w w2 := .of_grown hg (fun g e => by cases e; exact .inl rfl)
  refine ⟨⟨h.ok.small, h.ok.len, h.ok.at_, by simp only; omega⟩, fun e => (by simp only [hoff] at e; cases e), ?_, .inl h.own, hb2, .inl h.ownC, hk.blk h.content (fun e => h.content.apart hb (by decide) e),
    row_keep h.pend hk (fun g e2 e3 => row_apart h.pend hb (by decide) (e3 ▸ e2)), fun g e => .inl (h.ownP g e), .inr ⟨hl0, ga, S, cs, rfl, .inr (.inl rfl), hk.blk hba (fun e => hba.apart hb (by decide) e), row_keep hrow hk (fun g e2 e3 => row_apart hrow hb (by decide) (e3 ▸ e2)), fun g e => .inr (.inr e)⟩⟩
  rintro g (hg' | rfl | e)
  · exact Nat.lt_of_lt_of_le (h.lt g hg') hg.size
  · exact Nat.lt_of_lt_of_le hba.lt hg.size
  · exact Nat.lt_of_lt_of_le (World.ownsRow.lt hrow g e).2 hg.size
end

set_option maxRecDepth 100000 in
set_option maxHeartbeats 1000000 in
set_option linter.unusedSimpArgs false in
theorem dkArm (w : World) (gd : Nat) (F : Nat → Prop) (m : Dk) (h : CodeIs w gd F m) (n : Int) (hn : n ≤ 9223372036854775807) (S : Option Addr) (surv : List Bool) (c : Nat) (hS : Vs w w.heap.size S (bvs surv)) (hF : ∀ g, F g → Far S surv.length g) (hl : surv.length ≤ 140737488355328) :
    Calls Try.prog 14 #[.pointer (some ⟨gd, 0, none⟩), .int .i64 n, .slice S surv.length c] w (CodePost w gd F (m.arm n surv) (.tuple #[])) := by
  obtain ⟨gc, W, cw, T, h⟩ := h
  have h2 := h.c2
  have h3 := h.c3
  have hf3 := h.blk.frozen 3
  have HC := Lib.hid (And.intro h hl)
  obtain ⟨ns, ens⟩ : ∃ k, surv.length = k := ⟨_, rfl⟩
  rw [ens]
  cases hoff : m.off
  · rw [hoff] at h2
    by_cases hn0 : 0 ≤ n
    · have har : m.arm n surv = { m with left := n, surv := surv } := by
        unfold Dk.arm
        rw [if_neg (by rw [hoff]; decide), if_neg (by omega)]
      rw [har]
      have hge : n ≥ 0 := hn0
      have hcl := boolClone (w.setCell ⟨gd, 3, none⟩ (.pointer none)) S surv c ns ens ((vs_grown hS (Nat.le_refl _) (one_set w gd 3 (.pointer none)) (hF gd h.own) (by rw [bvs_length]; exact id)).more (one_set w gd 3 (.pointer none)).size) (ens ▸ hl)
      have hcl := Lib.hid hcl
      have HN := Lib.hid (And.intro ens (And.intro hoff (And.intro hn hn0)))
      clear h hS hF hl ens har hoff hn
      go_enter Try.func14, Try.ntmps14
      go_wp2_with (first
        | (go_at_call 26; refine hcl.out.mono ?_; rintro e w1 ⟨A1, c1, rfl, hrow1, hb1⟩)
        | (with_reducible refine at_build_ 63 ?_; refine stopped ?_)
        | fail)
      refine go_on ?_
      refine wpList_build_got rfl 63 _ rfl #[.int .i64 n, .slice A1 ns c1] (failure_new _ _ _ n A1 ns c1 rfl rfl) ?_
      refine wpList_box rfl 63 (.tmp 20) rfl _ rfl ?_
      intro w2 hb2 hw2 hz2
      simp only [Act.put, List.setIfInBounds_toArray, List.set_cons_zero, List.set_cons_succ]
      obtain ⟨w0, e0⟩ : ∃ x, w.setCell ⟨gd, 3, none⟩ (.pointer none) = x := ⟨_, rfl⟩
      obtain ⟨ga, ega⟩ : ∃ g, w1.heap.size = g := ⟨_, rfl⟩
      rw [e0] at hrow1 hb1
      rw [ega] at hb2 ⊢
      have hk0 : w.grownBy w0 (some gd) := e0 ▸ one_set w gd 3 _
      have hblk0 : Blk w0 gd 51 (dkCells gc (64 * m.has.length) W m.waits.length cw m.off none).toArray := by
        have := HC.out.1.blk.set_ 3 (.pointer none)
        rw [e0] at this
        simpa [dkCells] using this
      have hat0 := HC.out.1.put (m' := { m with left := -1, surv := surv }) (W' := W) (T' := none) (cw' := cw) hk0 hblk0 ⟨HC.out.1.ok.small, HC.out.1.ok.len, HC.out.1.ok.at_, by simp⟩ (fun e => by simp only [HN.out.2.1] at e; cases e) rfl (.inr ⟨rfl, rfl, rfl⟩) (.inl ⟨rfl, by simp⟩)
      have hbx : Below w0.heap.size w0 w2 := hb1.trans (hw2.mono hb1.size)
      have hat2 := hat0.below hbx
      have hc3 := hat2.c3
      have hf3' := hat2.blk.frozen 3
      have hrow2 := row_below (hrow1) (hw2)
      have HA := Lib.hid (And.intro hat2 (And.intro hb2 (And.intro hrow2 (And.intro hk0 (And.intro hbx (And.intro ega hb1.size))))))
      clear hat0 hat2 hb2 hw2 hz2 hrow1 hrow2 hb1 hk0 hblk0 hbx e0 ega
      go_wp2_with fail
      first | go_end0 | refine bodyPost_ret (results_none rfl _ _ _) rfl ?_
      have hA := HA.out
      have hbf := hA.1.blk.set_ 3 (.pointer (some ⟨ga, 0, none⟩))
      have hn' := HN.out
      have hga : w0.heap.size ≤ ga := by have := hA.2.2.2.2.2.2; omega
      have hfin := hA.1.rearm (left := n) (surv := surv) (ga := ga) (S := A1) (cs := c1) hA.1.blk hn'.2.2.2 hn'.2.2.1 hn'.2.1 (by rw [hn'.1]; exact hA.2.1) (by
        rw [hn'.1]
        exact row_base hA.2.2.1) (one_set w2 gd 3 _) (by simpa [dkCells] using hbf)
      refine ⟨rfl, _, ⟨_, _, _, _, hfin⟩, ?_, ?_⟩
      · exact ((Kept.of_grown (F := F) hA.2.2.2.1 (fun g e => by cases e; exact .inl HC.out.1.own)).trans (Kept.of_below (F := F) hA.2.2.2.2.1) (fun g hg => .inl hg)).trans (Kept.of_grown (F := F) (one_set w2 gd 3 _) (fun g e => by cases e; exact .inl HC.out.1.own)) (fun g hg => .inl hg)
      · have hs0 := hA.2.2.2.1.size
        rintro g (hg | rfl | e)
        · exact .inl hg
        · exact .inr (by omega)
        · refine .inr ?_
          rw [hn'.1] at e
          have := (World.ownsRow.lt hA.2.2.1 g e).1
          omega
    · have har : m.arm n surv = { m with left := -1, surv := surv } := by
        unfold Dk.arm
        rw [if_neg (by rw [hoff]; decide), if_pos (by omega)]
      rw [har]
      have hge : ¬ n ≥ 0 := hn0
      have HN := Lib.hid hoff
      clear h hS hF hl ens har hoff hn
      go_enter Try.func14, Try.ntmps14
      go_wp2_with fail
      first | go_end0 | refine bodyPost_ret (results_none rfl _ _ _) rfl ?_
      have hblk0 := HC.out.1.blk.set_ 3 (.pointer none)
      have hat0 := HC.out.1.put (m' := { m with left := -1, surv := surv }) (W' := W) (T' := none) (cw' := cw) (one_set w gd 3 _) (by simpa [dkCells] using hblk0) ⟨HC.out.1.ok.small, HC.out.1.ok.len, HC.out.1.ok.at_, by simp⟩ (fun e => by simp only [HN.out] at e; cases e) rfl (.inr ⟨rfl, rfl, rfl⟩) (.inl ⟨rfl, by simp⟩)
      exact hat0.post (Kept.of_grown (F := F) (one_set w gd 3 _) (fun g e => by cases e; exact .inl HC.out.1.own))
  · have har : m.arm n surv = m := by
      unfold Dk.arm
      rw [if_pos hoff]
    rw [har]
    rw [hoff] at h2
    clear h hS hF hl ens har hoff hn
    go_enter Try.func14, Try.ntmps14
    go_wp2_with fail
    first | go_end0 | refine bodyPost_ret (results_none rfl _ _ _) rfl ?_
    exact HC.out.1.post (.refl _ _)
end Go.Proofs.Ytnnjneijdfibnaa
