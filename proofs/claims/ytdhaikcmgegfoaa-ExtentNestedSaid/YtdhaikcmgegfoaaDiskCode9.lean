/-
  Package disk's Write, by its contract. Conditions: the theorem's own premises.
-/
import Derived.Test.YtdhaikcmgegfoaaDiskCode8
import Derived.Great.BuildSlice
namespace Go.Proofs.Ytdhaikcmgegfoaa
open Go.RowKit

theorem wp_load_row {P : Program} {w : World} {o : Oper} {a : Act} {K : Act → World → Prop} {Q : Exit → Act → World → Prop} (ty : TypeId) (x : Operand) (ho : o.op = .load ty x)
    (g off : Nat) (hx : a.eval x = .pointer (some ⟨g, off, none⟩)) (cs : Array Value) (d : TypeDesc) (hc : Cells w g off cs)
    (hu : P.underlying ty = some d) (hd : agg? d = true) (hi : (P.info? ty).map (·.size) = some cs.size) (h : K (a.put o.dst (.agg cs)) w) : o.wp P a w K Q := by
  unfold Oper.wp execOp
  simp only [ho, hx, Instr.loadAt, Instr.sureAddr, Sem.run_bind, Sem.run_pure, Result.andThen_ok, run_loadVar_at g off ty cs d hc hu hd hi]
  exact h
theorem wp_append_row {P : Program} (w : World) {o : Oper} {a : Act} {K : Act → World → Prop} {Q : Exit → Act → World → Prop} (s x : Operand) (t : TypeId)
    (ho : o.op = .call { callee := .builtin .append, args := #[s, x], argTypes := #[t, t] })
    (base : Nat) (e : TypeId) (i : TypeInfo) (z : Value) (size bytes : Nat) (ht : P.underlying t = some (.slice e)) (hi : P.info? e = some i) (hz : i.zero = some z)
    (hsize : i.size = size) (hby : i.bytes = bytes) (hzs : z.cells.size = size) (hsz : 0 < size)
    (v : Value) (n : Nat) (xs : List Value) (hs : a.eval s = v) (hown : w.ownsRow base e size v n xs)
    (B : Nat) (A : Option Addr) (c m : Nat) (news : List Value) (hx : a.eval x = .slice A m c) (hr : Vs w B A news) (hl : news.length = m * size) (h1 : ∀ u ∈ news, u.oneCell' = true)
    (hbytes : (n + m) * bytes ≤ 140737488355328) (h63 : n + m ≤ maxLen) (hbase : base ≤ w.heap.size)
    (h : ∀ v' w', w'.ownsRow base e size v' (n + m) (xs ++ news) → w.grownBy w' v.ownBlock → (v'.ownBlock = v.ownBlock ∨ v'.ownBlock = some w.heap.size) → K (a.put o.dst v') w') : o.wp P a w K Q := by
  obtain ⟨v', w', hr, h2, h3, h4⟩ := run_append_row (P := P) w base t o.type e i z size bytes ht hi hz hsize hby hzs hsz v n xs hown B A c m news hr hl h1 hbytes h63 hbase
  unfold Oper.wp execOp
  simp only [ho, resolve, invoke, builtin, Sem.run_bind, Sem.run_pure, Result.andThen_ok, List.map_toArray, List.map_cons, List.map_nil, hs, hx, hr]
  exact h v' w' h2 h3 h4
theorem fill_one {s : Nat} (hs : 0 < s) (X cells : Array Value) (hX : X.size = s) (hc : cells.size = s) : Instr.fill (fun i => some (i * s, s)) cells [(0, .agg X)] = some X := by
  have := Great.fill_whole hs [.agg X] cells (fun v hv => by simp only [List.mem_singleton] at hv; subst hv; exact hX) (by rw [hc]; simp)
  simpa [Value.cells] using this
theorem fill_write (a : Act) (x : Operand) (X : Array Value) (z : Value) (hx : a.eval x = .agg X) (h : X.size = 65) : Instr.fill (fun i => some (i * 65, 65)) ((Array.range (1 * 65)).map (z.cells[· % z.cells.size]!)) ((#[(0, x)] : Array (Nat × Operand)).map fun (i, x) => (i, a.eval x)).toList = some X := by
  have e : ((#[(0, x)] : Array (Nat × Operand)).map fun (i, x) => (i, a.eval x)).toList = [(0, .agg X)] := by simp [hx]
  rw [e]
  exact fill_one (by decide) X _ h (by simp)
theorem write_built (p : Int) : Try.prog.built 94 [(0, .int .i64 p)] = some (Value.int .i64 p :: bv nought).toArray := by kernel_rfl
theorem write_new (a : Act) (x : Operand) (p : Nat) (hx : a.eval x = .int .i64 (p : Int)) : Try.prog.built 94 ((#[(0, x)] : Array (Nat × Operand)).map fun (i, x) => (i, a.eval x)).toList = some (wr1 (p, nought)).toArray := by
  have e : ((#[(0, x)] : Array (Nat × Operand)).map fun (i, x) => (i, a.eval x)).toList = [(0, .int .i64 (p : Int))] := by simp [hx]
  rw [e]
  exact write_built p
theorem write_info : (Try.prog.info? 94).map (fun i => (i.zero, i.size, i.bytes)) = some (some (.agg (wr1 (0, nought)).toArray), 65, 72) := by kernel_rfl
theorem wr1_splice (p : Nat) (b : List UInt8) (h : b.length = 64) : splice (wr1 (p, nought)) 1 (bv b) = wr1 (p, b) := by
  simp only [splice, wr1, List.take_succ_cons, List.take_zero, bv_length, h, List.drop_succ_cons]
  have e : (bv nought).drop (1 + 63) = [] := List.drop_eq_nil_of_le (by simp [bv_length, nought])
  rw [e]
  simp

theorem grown_blk {w w' : World} {row : Option Nat} {g : Nat} {t : TypeId} {cs : Array Value} (hb : w.grownBy w' row) (h : Blk w g t cs) (hg : some g ≠ row) : Blk w' g t cs := h.grown hb hg
section
variable {w w' : World} {gd gc cw : Nat} {F : Nat → Prop} {W T : Option Addr} {m : Dk}
/-- one more write waits: its row may have moved -/
theorem CodeAt.more (h : CodeAt w gd F m gc W cw T) {w2 : World} {p : Nat} {b : List UInt8} {A : Option Addr} {c : Nat} (hp : p < m.has.length) (hb : b.length = 64) (hoff : m.off = false)
    (hg : w.grownBy w' (Value.slice W m.waits.length cw).ownBlock) (hrow : w'.ownsRow 0 94 65 (.slice A (m.waits.length + 1) c) (m.waits.length + 1) (cws (m.waits ++ [(p, b)])))
    (hown : (Value.slice A (m.waits.length + 1) c).ownBlock = (Value.slice W m.waits.length cw).ownBlock ∨ ∃ g, (Value.slice A (m.waits.length + 1) c).ownBlock = some g ∧ w.heap.size ≤ g)
    (hset : w'.grownBy w2 (some gd)) (hblk : Blk w2 gd 85 (dkCells gc (64 * m.has.length) A (m.waits.length + 1) c m.off T).toArray) :
    ∃ F', CodeAt w2 gd F' { m with waits := m.waits ++ [(p, b)] } gc A c T ∧ Kept F w w2 ∧ ∀ g, F' g → F g ∨ w.heap.size ≤ g := by
  have hk1 : Kept (fun g => (Value.slice W m.waits.length cw).ownBlock = some g) w w' := .of_grown hg (fun g e => .inl e)
  have hd1 := hk1.blk h.blk (row_apart h.pend h.blk (by decide))
  have hk2 : Kept (· = gd) w' w2 := .of_grown hset (fun g e => .inl (Option.some.inj e).symm)
  have hc1 := hk1.blk h.content (row_apart h.pend h.content (by decide))
  refine ⟨fun g => F g ∨ (Value.slice A (m.waits.length + 1) c).ownBlock = some g, ⟨⟨h.ok.small, h.ok.len, fun q hq => ?_, h.ok.leftB⟩, fun e => (by simp only [hoff] at e; cases e), ?_, .inl h.own, ?_, .inl h.ownC, hk2.blk hc1 (fun e => hc1.apart hd1 (by decide) e), ?_, fun g e => .inr (by simpa using e), ?_⟩, ?_, ?_⟩
  · rcases List.mem_append.1 hq with hq | hq
    · exact h.ok.at_ q hq
    · simp only [List.mem_singleton] at hq
      subst hq
      exact ⟨hp, hb⟩
  · rintro g (hg' | e)
    · exact Nat.lt_of_lt_of_le (h.lt g hg') (Nat.le_trans hg.size hset.size)
    · exact Nat.lt_of_lt_of_le (World.ownsRow.lt hrow g e).2 hset.size
  · simp only [List.length_append, List.length_singleton]
    exact hblk
  · simp only [List.length_append, List.length_singleton]
    exact row_keep hrow hk2 (fun g e2 e3 => row_apart hrow hd1 (by decide) (e3 ▸ e2))
  · rcases h.armed with h1 | ⟨h0, ga, S, cs, e, h1, h2, h3, h4⟩
    · exact .inl h1
    · have h2' := hk1.blk h2 (row_apart h.pend h2 (by decide))
      have h3' := row_keep h3 hk1 (fun g e2 e3 => rows_apart h3 h.pend (by decide) e2 e3)
      exact .inr ⟨h0, ga, S, cs, e, .inl h1, hk2.blk h2' (fun e => h2'.apart hd1 (by decide) e), row_keep h3' hk2 (fun g e2 e3 => row_apart h3' hd1 (by decide) (e3 ▸ e2)), fun g e => .inl (h4 g e)⟩
  · refine (hk1.mono (fun g e => h.ownP g e)).trans (Kept.of_grown (F := F) hset (fun g e => .inl ?_)) (fun g hg => .inl hg)
    cases e
    exact h.own
  · rintro g (hg' | e)
    · exact .inl hg'
    · rcases hown with h1 | ⟨g', h1, h2⟩
      · exact .inl (h.ownP g (h1 ▸ e))
      · rw [h1] at e
        injection e with e
        exact .inr (by omega)
end

theorem write_done {w w1 w4 w5 w6 : World} {gd gc cw nW p : Nat} {F : Nat → Prop} {W T : Option Addr} {D : Dk} {b : List UInt8} {A5 : Option Addr} {c5 : Nat} {X : List Value} (h : CodeAt w4 gd F D gc W cw T) (en : D.waits.length = nW) (hk1 : Kept F w w1) (hb4 : Below w1.heap.size w1 w4) (hp : p < D.has.length) (hb : b.length = 64) (hoff : D.off = false) (eX : wr1 (p, b) = X)
    (hg : w6.grownBy w5 (Value.slice W nW cw).ownBlock) (h6 : Below w4.heap.size w4 w6) (hown5 : w5.ownsRow 0 94 65 (.slice A5 (nW + 1) c5) (nW + 1) (cws D.waits ++ X)) (hb5 : (Value.slice A5 (nW + 1) c5).ownBlock = (Value.slice W nW cw).ownBlock ∨ (Value.slice A5 (nW + 1) c5).ownBlock = some w6.heap.size) :
    CodePost w gd F { D with waits := D.waits ++ [(p, b)] } (.int .i64 0) (.returned (.int .i64 0)) (w5.setCell ⟨gd, 1, none⟩ (.slice A5 (nW + 1) c5)) := by
  subst en
  have hg' : w4.grownBy w5 (Value.slice W D.waits.length cw).ownBlock := only_trans (only_of_below h6 _) hg
  have hrow : w5.ownsRow 0 94 65 (.slice A5 (D.waits.length + 1) c5) (D.waits.length + 1) (cws (D.waits ++ [(p, b)])) := by
    rw [cws_append, cws, cws, List.append_nil, eX]
    exact hown5
  have hbd := (h.blk.grown hg' (fun e => row_apart h.pend h.blk (by decide) e.symm)).set_ 1 (.slice A5 (D.waits.length + 1) c5)
  obtain ⟨F', hat, hk, hF⟩ := h.more (w2 := w5.setCell ⟨gd, 1, none⟩ (.slice A5 (D.waits.length + 1) c5)) hp hb hoff hg' hrow (by
    rcases hb5 with e | e
    · exact .inl e
    · exact .inr ⟨_, e, h6.size⟩) (one_set w5 gd 1 _) (by simpa [dkCells] using hbd)
  have hk4 : Kept F w w4 := hk1.trans (Kept.of_below (F := F) hb4) (fun g hg => .inl hg)
  refine ⟨rfl, F', ⟨_, _, _, _, hat⟩, hk4.trans hk (fun g hg => .inl hg), fun g hg => ?_⟩
  rcases hF g hg with h1 | h1
  · exact .inl h1
  · exact .inr (Nat.le_trans hk4.size h1)
set_option maxRecDepth 100000 in
set_option maxHeartbeats 1000000 in
set_option linter.unusedSimpArgs false in
theorem dkWrite (w : World) (gd : Nat) (F : Nat → Prop) (m : Dk) (h : CodeIs w gd F m) (hw : m.waits.length ≤ 1000000) (k : Int) (A : Option Addr) (b : List UInt8) (c : Nat) (hA : Bs w w.heap.size A b) (hF : ∀ g, F g → Far A b.length g) :
    Calls Try.prog 32 #[.pointer (some ⟨gd, 0, none⟩), .int .i64 k, .slice A b.length c] w (CodePost w gd F (m.write k b).1 (.int .i64 ((m.write k b).2 : Nat))) := by
  have hex := Lib.hid (dkExists w gd F m h k)
  have hpo := Lib.hid (dkPowered w gd F m h (by omega))
  have H := Lib.hid (And.intro h (And.intro hA hF))
  obtain ⟨nb, enb⟩ : ∃ n, b.length = n := ⟨_, rfl⟩
  have HB := Lib.hid enb
  rw [enb]
  clear h hA hF
  cases hin : inside m k
  · have hwr : m.write k b = (m, 4) := by unfold Dk.write; rw [if_pos (inside_no hin)]
    rw [hin] at hex
    rw [hwr]
    clear hwr
    go_enter Try.func32, Try.ntmps32
    go_wp2_with (go_at_call 49; refine hex.out.mono ?_; rintro e w' ⟨rfl, rfl⟩)
    go_ret
    exact ⟨rfl, F, H.out.1, .refl _ _, fun _ => .inl⟩
  · have hk0 := inside_yes hin
    obtain ⟨p, rfl⟩ : ∃ p : Nat, k = (p : Int) := ⟨k.toNat, by omega⟩
    have hp : p < m.has.length := by omega
    rw [hin] at hex
    by_cases h64 : nb = 64
    · have hun : m.write (p : Int) b = if m.step.2 = true then ({ m.step.1 with waits := m.step.1.waits ++ [(p, b)] }, 0) else (m.step.1, 9) := by
        unfold Dk.write
        rw [if_neg (by omega), if_neg (by omega), Int.toNat_natCast]
      subst h64
      have hsw := step_waits m
      have hsh := step_has m
      obtain ⟨D, eD⟩ : ∃ d, m.step.1 = d := ⟨_, rfl⟩
      obtain ⟨t, et⟩ : ∃ d, m.step.2 = d := ⟨_, rfl⟩
      rw [eD, et] at hun
      rw [eD, et] at hpo
      rw [eD] at hsw hsh
      cases t
      · rw [if_neg (by decide)] at hun
        rw [hun]
        clear hun hk0 hin enb hsw hsh
        go_enter Try.func32, Try.ntmps32
        go_wp2_with (first
          | (go_at_call 49; refine hex.out.mono ?_; rintro e w' ⟨rfl, rfl⟩)
          | (go_at_call 50; refine hpo.out.mono ?_; rintro e w1 ⟨rfl, hat1, hk1⟩))
        go_ret
        exact ⟨rfl, F, hat1, hk1, fun _ => .inl⟩
      · rw [if_pos rfl] at hun
        rw [hun]
        have hDoff : D.off = false := by
          rw [← eD]
          unfold Dk.step at et ⊢
          split at et
          · cases et
          · rename_i hh
            have hh' : m.off = false := by simpa using hh
            rw [if_neg (by rw [hh']; decide)]
            split at et
            · cases et
            · rename_i h0
              rw [if_neg h0]
              split <;> exact hh'
        have HD := Lib.hid (And.intro hDoff (And.intro hsw (And.intro hsh hp)))
        clear hun hk0 hin enb hDoff eD et hsw hsh hp
        obtain ⟨i0, hi0, hz0, hz1, hz2⟩ := info_parts write_info
        go_enter Try.func32, Try.ntmps32
        go_wp2_with (first
          | (go_at_call 49; refine hex.out.mono ?_; rintro e w' ⟨rfl, rfl⟩)
          | (go_at_call 50; refine hpo.out.mono ?_; rintro e w1 ⟨rfl, hat1, hk1⟩)
          | (with_reducible refine at_build_ 94 ?_; refine stopped ?_)
          | fail)
        refine go_on ?_
        refine wpList_build_got rfl 94 _ rfl (wr1 (p, nought)).toArray (write_new _ _ p rfl) ?_
        refine wpList_alloc rfl 94 rfl _ write_zero ?_
        intro w2 hb2 hw2 hz2'
        obtain ⟨g7, e7⟩ : ∃ g, w1.heap.size = g := ⟨_, rfl⟩
        rw [e7] at hb2 ⊢
        refine wpList_store_whole rfl 94 (.tmp 7) (.tmp 19) rfl g7 (wr1 (p, nought)) rfl rfl 94 (wr1 (0, nought)) hb2 write_size rfl (wr1_one _) ?_
        intro w3 hb3 hg3
        simp only [Act.put, List.setIfInBounds_toArray, List.set_cons_zero, List.set_cons_succ]
        have hbel3 : Below w1.heap.size w1 w3 := hw2.trans (only_below hg3 (by omega) (fun g e => by cases e; omega))
        have hA3 : Bs w3 w3.heap.size A b := by
          intro hn
          obtain ⟨bb, oo, e, hlt, hc⟩ := H.out.2.1 hn
          have hnf : ¬ F bb := fun hf => H.out.2.2 bb hf hn bb oo e rfl
          have h1 := hk1.block bb hlt hnf
          have h3 := hbel3.block bb (Nat.lt_of_lt_of_le hlt hk1.size)
          exact ⟨bb, oo, e, Nat.lt_of_lt_of_le hlt (Nat.le_trans hk1.size hbel3.size), fun j hj => (World.cell?_of_block (h3.trans h1)).trans (hc j hj)⟩
        have HA := Lib.hid (And.intro (hat1.below hbel3) (And.intro hk1 (And.intro hbel3 (And.intro hb3 (And.intro hA3 (And.intro e7 (fun g (hg : F g) => e7 ▸ hat1.lt g hg)))))))
        clear hat1 hk1 hb2 hw2 hz2' hb3 hg3 hbel3 hA3 e7
        go_wp2_with (first | (with_reducible refine st_copy ?_; refine stopped ?_) | fail)
        refine go_on ?_
        refine wpList_copy_to rfl (.tmp 21) (.tmp 22) 57 57 rfl 5 Try.underlying57 u8_size g7 1 64 64 64 c A rfl rfl (wr1 (p, nought)) 94 HA.out.2.2.2.1 (bv b) (by rw [bv_length, HB.out]; rfl) (bs_src HA.out.2.2.2.2.1) (by rw [bv_length, HB.out, wr1_65 p nought nought_length]; decide) (bv_one _) ?_
        intro w4 hb4 hg4
        rw [wr1_splice p b HB.out] at hb4
        obtain ⟨X, eX⟩ : ∃ X, wr1 (p, b) = X := ⟨_, rfl⟩
        have hXl : X.length = 65 := eX ▸ wr1_65 p b HB.out
        have hbel4 : Below w1.heap.size w1 w4 := HA.out.2.2.1.trans (only_below hg4 HA.out.2.2.1.size (fun g e => by cases e; have := HA.out.2.2.2.2.2.1; omega))
        rw [eX] at hb4
        have hat4 : CodeIs w4 gd F D := HA.out.1.keep (G := (· = g7)) (.of_grown hg4 (fun g e => .inl (Option.some.inj e).symm)) (fun g hg e => by
          subst e
          have := HA.out.2.2.2.2.2.2 _ hg
          omega)
        obtain ⟨gc, W, cw, T, hat4⟩ := hat4
        have hc4 := hat4.c1
        have hf4 := hat4.blk.frozen 1
        have hpe := hat4.pend
        obtain ⟨nW, enW⟩ : ∃ n, D.waits.length = n := ⟨_, rfl⟩
        rw [enW] at hc4 hpe
        have hnW : nW ≤ 1000000 := by have := HD.out.2.1; omega
        have HQ := Lib.hid (And.intro hat4 (And.intro hbel4 (And.intro hb4 (And.intro eX (And.intro hXl (And.intro hpe enW))))))
        clear hat4 hbel4 hb4 hg4 eX hXl hpe enW
        simp only [Act.put, List.setIfInBounds_toArray, List.set_cons_zero, List.set_cons_succ]
        go_wp2_with fail
        have hcA := fun o => ((below_alloc w4 o).cell (p := ⟨gd, 1, none⟩) (HQ.out.1.lt gd HQ.out.1.own)).trans hc4
        refine wp_region_held_drew (S := fun _ => True) (by kernel_rfl) trivial (fun _ => ?_)
        refine wpAnyH_take (i := 0) (v := ?_) (List.getElem?_toArray.trans (List.getElem?_cons_zero)) (by kernel_rfl) (by kernel_rfl) (by kernel_rfl) (fun _ _ _ h => h) (Or.inl ⟨by rfl, ?_⟩) (by assumption) ?_
        rotate_left
        · intro w' hSw; (try dsimp only at hSw); go_simp; try with_reducible rfl
        try simp only [Act.put, List.setIfInBounds_toArray, List.set_cons_zero, List.set_cons_succ]
        refine wpAnyH_take (i := 1) (v := ?_) (List.getElem?_toArray.trans (List.getElem?_cons_succ.trans (List.getElem?_cons_zero))) (by kernel_rfl) (by kernel_rfl) (by kernel_rfl) (fun _ _ _ h => h) (Or.inl ⟨by rfl, ?_⟩) (by assumption) ?_
        rotate_left
        · intro w' hSw; (try dsimp only at hSw); go_simp; try with_reducible rfl
        try simp only [Act.put, List.setIfInBounds_toArray, List.set_cons_zero, List.set_cons_succ]
        refine wpAnyH_take (i := 2) (v := ?_) (List.getElem?_toArray.trans (List.getElem?_cons_succ.trans (List.getElem?_cons_succ.trans (List.getElem?_cons_zero)))) (by kernel_rfl) (by kernel_rfl) (by kernel_rfl) (fun _ _ _ h => h) (Or.inl ⟨by rfl, ?_⟩) (by assumption) ?_
        rotate_left
        · intro w' hSw; (try dsimp only at hSw); go_simp; try with_reducible rfl
        try simp only [Act.put, List.setIfInBounds_toArray, List.set_cons_zero, List.set_cons_succ]
        refine wpAnyH_take (i := 3) (v := ?_) (List.getElem?_toArray.trans (List.getElem?_cons_succ.trans (List.getElem?_cons_succ.trans (List.getElem?_cons_succ.trans (List.getElem?_cons_zero))))) (by kernel_rfl) (by kernel_rfl) (by kernel_rfl) (fun _ _ _ h => h) (Or.inl ⟨by rfl, ?_⟩) (by assumption) ?_
        rotate_left
        · intro w' hSw; (try dsimp only at hSw); go_simp; try with_reducible rfl
        try simp only [Act.put, List.setIfInBounds_toArray, List.set_cons_zero, List.set_cons_succ]
        refine wpAnyH_ready (rs := [4, 5]) (by kernel_rfl) (by simp) ?_
        refine AllReadyH.cons (List.getElem?_toArray.trans (List.getElem?_cons_succ.trans (List.getElem?_cons_succ.trans (List.getElem?_cons_succ.trans (List.getElem?_cons_succ.trans (List.getElem?_cons_zero)))))) (fun K hK => ?_) ?_
        · go_simp
          refine hK.out _ _ trivial (fun _ => ?_)
          clear hK K
          try simp only [Act.put, List.setIfInBounds_toArray, List.set_cons_zero, List.set_cons_succ]
          refine wpAnyH_ready (rs := [5]) (by kernel_rfl) (by simp) ?_
          refine AllReadyH.cons (List.getElem?_toArray.trans (List.getElem?_cons_succ.trans (List.getElem?_cons_succ.trans (List.getElem?_cons_succ.trans (List.getElem?_cons_succ.trans (List.getElem?_cons_succ.trans (List.getElem?_cons_zero))))))) (fun K hK => ?_) AllReadyH.nil
          refine wp_load_row 94 (.tmp 7) rfl g7 0 rfl X.toArray _ (Blk.cells HQ.out.2.2.1) Try.underlying94 rfl (by rw [List.size_toArray, HQ.out.2.2.2.2.1]; exact write_size) ?_
          refine hK.out _ _ trivial (fun _ => ?_)
          clear hK K
          try simp only [Act.put, List.setIfInBounds_toArray, List.set_cons_zero, List.set_cons_succ]
          refine wpAnyH_ready (rs := [6]) (by kernel_rfl) (by simp) ?_
          refine AllReadyH.cons (List.getElem?_toArray.trans (List.getElem?_cons_succ.trans (List.getElem?_cons_succ.trans (List.getElem?_cons_succ.trans (List.getElem?_cons_succ.trans (List.getElem?_cons_succ.trans (List.getElem?_cons_succ.trans (List.getElem?_cons_zero)))))))) (fun K hK => ?_) AllReadyH.nil
          refine wp_buildSlice 82 94 1 _ rfl X.toArray i0 _ Try.underlying82 hi0 hz0 (by rw [hz1]; decide) (by rw [hz1]; decide) (by rw [hz1]; exact fill_write _ _ _ _ rfl (by rw [List.size_toArray]; exact HQ.out.2.2.2.2.1)) ?_
          refine hK.out _ _ trivial (fun _ => ?_)
          clear hK K
          try simp only [Act.put, List.setIfInBounds_toArray, List.set_cons_zero, List.set_cons_succ]
          refine wpAnyH_ready (rs := [7]) (by kernel_rfl) (by simp) ?_
          refine AllReadyH.cons (List.getElem?_toArray.trans (List.getElem?_cons_succ.trans (List.getElem?_cons_succ.trans (List.getElem?_cons_succ.trans (List.getElem?_cons_succ.trans (List.getElem?_cons_succ.trans (List.getElem?_cons_succ.trans (List.getElem?_cons_succ.trans (List.getElem?_cons_zero))))))))) (fun K hK => ?_) AllReadyH.nil
          refine wp_append_row _ (.tmp 28) (.tmp 30) 82 rfl 0 94 i0 _ 65 72 Try.underlying82 hi0 hz0 hz1 hz2 rfl (by decide) (.slice W nW cw) nW (cws D.waits) rfl (row_alloc HQ.out.2.2.2.2.2.1 _) (w4.heap.size + 1) (some ⟨w4.heap.size, 0, none⟩) 1 1 X rfl (vs_of_blk (Blk.new w4 94 X.toArray) (Nat.lt_succ_self _)) (by rw [HQ.out.2.2.2.2.1]) (by rw [← HQ.out.2.2.2.1]; exact wr1_one _) (by omega) (by simp only [maxLen]; omega) (Nat.zero_le _) ?_
          intro v5 w5 hown5 hg5 hb5
          obtain ⟨A5, c5, rfl, _, _, _, _⟩ := vs_of_row hown5
          have hc5 : w5.cell? ⟨gd, 1, none⟩ = some (.slice W nW cw) := by
            have hx := HQ.out.1.blk.alloc (.cells X.toArray 94)
            have hne := row_apart (row_alloc HQ.out.2.2.2.2.2.1 (.cells X.toArray 94)) hx (by decide)
            exact (World.cell?_of_block (hg5.block gd hx.lt (fun e => hne e.symm))).trans (hcA _)
          have hf5 : w5.frozen? ⟨gd, 1, none⟩ = false := by
            have hx := HQ.out.1.blk.alloc (.cells X.toArray 94)
            have hne := row_apart (row_alloc HQ.out.2.2.2.2.2.1 (.cells X.toArray 94)) hx (by decide)
            exact (grown_blk hg5 hx (fun e => hne e.symm)).frozen 1
          refine hK.out _ _ trivial (fun _ => ?_)
          clear hK K
          try simp only [Act.put, List.setIfInBounds_toArray, List.set_cons_zero, List.set_cons_succ]
          refine wpAnyH_ready (rs := [8]) (by kernel_rfl) (by simp) ?_
          refine AllReadyH.cons (List.getElem?_toArray.trans (List.getElem?_cons_succ.trans (List.getElem?_cons_succ.trans (List.getElem?_cons_succ.trans (List.getElem?_cons_succ.trans (List.getElem?_cons_succ.trans (List.getElem?_cons_succ.trans (List.getElem?_cons_succ.trans (List.getElem?_cons_succ.trans (List.getElem?_cons_zero)))))))))) (fun K hK => ?_) AllReadyH.nil
          go_simp
          refine hK.out _ _ trivial (fun _ => ?_)
          clear hK K
          try simp only [Act.put, List.setIfInBounds_toArray, List.set_cons_zero, List.set_cons_succ]
          refine wpAnyH_ready (rs := [9]) (by kernel_rfl) (by simp) ?_
          refine AllReadyH.cons (List.getElem?_toArray.trans (List.getElem?_cons_succ.trans (List.getElem?_cons_succ.trans (List.getElem?_cons_succ.trans (List.getElem?_cons_succ.trans (List.getElem?_cons_succ.trans (List.getElem?_cons_succ.trans (List.getElem?_cons_succ.trans (List.getElem?_cons_succ.trans (List.getElem?_cons_succ.trans (List.getElem?_cons_zero))))))))))) (fun K hK => ?_) AllReadyH.nil
          go_simp
          refine hK.out _ _ trivial (fun _ => ?_)
          clear hK K
          try simp only [Act.put, List.setIfInBounds_toArray, List.set_cons_zero, List.set_cons_succ]
          refine wpAnyH_ready (rs := [10]) (by kernel_rfl) (by simp) ?_
          refine AllReadyH.cons (List.getElem?_toArray.trans (List.getElem?_cons_succ.trans (List.getElem?_cons_succ.trans (List.getElem?_cons_succ.trans (List.getElem?_cons_succ.trans (List.getElem?_cons_succ.trans (List.getElem?_cons_succ.trans (List.getElem?_cons_succ.trans (List.getElem?_cons_succ.trans (List.getElem?_cons_succ.trans (List.getElem?_cons_succ.trans (List.getElem?_cons_zero)))))))))))) (fun K hK => ?_) AllReadyH.nil
          go_simp
          refine hK.out _ _ trivial (fun _ => ?_)
          clear hK K
          try simp only [Act.put, List.setIfInBounds_toArray, List.set_cons_zero, List.set_cons_succ]
          refine wpAnyH_done (by kernel_rfl) ?_ _
          go_wp2_with fail
          go_ret
          exact write_done HQ.out.1 HQ.out.2.2.2.2.2.2 HA.out.2.1 HQ.out.2.1 (HD.out.2.2.1 ▸ HD.out.2.2.2) HB.out HD.out.1 HQ.out.2.2.2.1 hg5 ⟨rfl, rfl, rfl, (below_alloc w4 (.cells X.toArray 94)).size, (below_alloc w4 (.cells X.toArray 94)).block⟩ hown5 hb5
        refine AllReadyH.cons (List.getElem?_toArray.trans (List.getElem?_cons_succ.trans (List.getElem?_cons_succ.trans (List.getElem?_cons_succ.trans (List.getElem?_cons_succ.trans (List.getElem?_cons_succ.trans (List.getElem?_cons_zero))))))) (fun K hK => ?_) AllReadyH.nil
        refine wp_load_row 94 (.tmp 7) rfl g7 0 rfl X.toArray _ (Blk.cells HQ.out.2.2.1) Try.underlying94 rfl (by rw [List.size_toArray, HQ.out.2.2.2.2.1]; exact write_size) ?_
        refine hK.out _ _ trivial (fun _ => ?_)
        clear hK K
        try simp only [Act.put, List.setIfInBounds_toArray, List.set_cons_zero, List.set_cons_succ]
        refine wpAnyH_ready (rs := [4, 6]) (by kernel_rfl) (by simp) ?_
        refine AllReadyH.cons (List.getElem?_toArray.trans (List.getElem?_cons_succ.trans (List.getElem?_cons_succ.trans (List.getElem?_cons_succ.trans (List.getElem?_cons_succ.trans (List.getElem?_cons_zero)))))) (fun K hK => ?_) ?_
        · go_simp
          refine hK.out _ _ trivial (fun _ => ?_)
          clear hK K
          try simp only [Act.put, List.setIfInBounds_toArray, List.set_cons_zero, List.set_cons_succ]
          refine wpAnyH_ready (rs := [6]) (by kernel_rfl) (by simp) ?_
          refine AllReadyH.cons (List.getElem?_toArray.trans (List.getElem?_cons_succ.trans (List.getElem?_cons_succ.trans (List.getElem?_cons_succ.trans (List.getElem?_cons_succ.trans (List.getElem?_cons_succ.trans (List.getElem?_cons_succ.trans (List.getElem?_cons_zero)))))))) (fun K hK => ?_) AllReadyH.nil
          refine wp_buildSlice 82 94 1 _ rfl X.toArray i0 _ Try.underlying82 hi0 hz0 (by rw [hz1]; decide) (by rw [hz1]; decide) (by rw [hz1]; exact fill_write _ _ _ _ rfl (by rw [List.size_toArray]; exact HQ.out.2.2.2.2.1)) ?_
          refine hK.out _ _ trivial (fun _ => ?_)
          clear hK K
          try simp only [Act.put, List.setIfInBounds_toArray, List.set_cons_zero, List.set_cons_succ]
          refine wpAnyH_ready (rs := [7]) (by kernel_rfl) (by simp) ?_
          refine AllReadyH.cons (List.getElem?_toArray.trans (List.getElem?_cons_succ.trans (List.getElem?_cons_succ.trans (List.getElem?_cons_succ.trans (List.getElem?_cons_succ.trans (List.getElem?_cons_succ.trans (List.getElem?_cons_succ.trans (List.getElem?_cons_succ.trans (List.getElem?_cons_zero))))))))) (fun K hK => ?_) AllReadyH.nil
          refine wp_append_row _ (.tmp 28) (.tmp 30) 82 rfl 0 94 i0 _ 65 72 Try.underlying82 hi0 hz0 hz1 hz2 rfl (by decide) (.slice W nW cw) nW (cws D.waits) rfl (row_alloc HQ.out.2.2.2.2.2.1 _) (w4.heap.size + 1) (some ⟨w4.heap.size, 0, none⟩) 1 1 X rfl (vs_of_blk (Blk.new w4 94 X.toArray) (Nat.lt_succ_self _)) (by rw [HQ.out.2.2.2.2.1]) (by rw [← HQ.out.2.2.2.1]; exact wr1_one _) (by omega) (by simp only [maxLen]; omega) (Nat.zero_le _) ?_
          intro v5 w5 hown5 hg5 hb5
          obtain ⟨A5, c5, rfl, _, _, _, _⟩ := vs_of_row hown5
          have hc5 : w5.cell? ⟨gd, 1, none⟩ = some (.slice W nW cw) := by
            have hx := HQ.out.1.blk.alloc (.cells X.toArray 94)
            have hne := row_apart (row_alloc HQ.out.2.2.2.2.2.1 (.cells X.toArray 94)) hx (by decide)
            exact (World.cell?_of_block (hg5.block gd hx.lt (fun e => hne e.symm))).trans (hcA _)
          have hf5 : w5.frozen? ⟨gd, 1, none⟩ = false := by
            have hx := HQ.out.1.blk.alloc (.cells X.toArray 94)
            have hne := row_apart (row_alloc HQ.out.2.2.2.2.2.1 (.cells X.toArray 94)) hx (by decide)
            exact (grown_blk hg5 hx (fun e => hne e.symm)).frozen 1
          refine hK.out _ _ trivial (fun _ => ?_)
          clear hK K
          try simp only [Act.put, List.setIfInBounds_toArray, List.set_cons_zero, List.set_cons_succ]
          refine wpAnyH_ready (rs := [8]) (by kernel_rfl) (by simp) ?_
          refine AllReadyH.cons (List.getElem?_toArray.trans (List.getElem?_cons_succ.trans (List.getElem?_cons_succ.trans (List.getElem?_cons_succ.trans (List.getElem?_cons_succ.trans (List.getElem?_cons_succ.trans (List.getElem?_cons_succ.trans (List.getElem?_cons_succ.trans (List.getElem?_cons_succ.trans (List.getElem?_cons_zero)))))))))) (fun K hK => ?_) AllReadyH.nil
          go_simp
          refine hK.out _ _ trivial (fun _ => ?_)
          clear hK K
          try simp only [Act.put, List.setIfInBounds_toArray, List.set_cons_zero, List.set_cons_succ]
          refine wpAnyH_ready (rs := [9]) (by kernel_rfl) (by simp) ?_
          refine AllReadyH.cons (List.getElem?_toArray.trans (List.getElem?_cons_succ.trans (List.getElem?_cons_succ.trans (List.getElem?_cons_succ.trans (List.getElem?_cons_succ.trans (List.getElem?_cons_succ.trans (List.getElem?_cons_succ.trans (List.getElem?_cons_succ.trans (List.getElem?_cons_succ.trans (List.getElem?_cons_succ.trans (List.getElem?_cons_zero))))))))))) (fun K hK => ?_) AllReadyH.nil
          go_simp
          refine hK.out _ _ trivial (fun _ => ?_)
          clear hK K
          try simp only [Act.put, List.setIfInBounds_toArray, List.set_cons_zero, List.set_cons_succ]
          refine wpAnyH_ready (rs := [10]) (by kernel_rfl) (by simp) ?_
          refine AllReadyH.cons (List.getElem?_toArray.trans (List.getElem?_cons_succ.trans (List.getElem?_cons_succ.trans (List.getElem?_cons_succ.trans (List.getElem?_cons_succ.trans (List.getElem?_cons_succ.trans (List.getElem?_cons_succ.trans (List.getElem?_cons_succ.trans (List.getElem?_cons_succ.trans (List.getElem?_cons_succ.trans (List.getElem?_cons_succ.trans (List.getElem?_cons_zero)))))))))))) (fun K hK => ?_) AllReadyH.nil
          go_simp
          refine hK.out _ _ trivial (fun _ => ?_)
          clear hK K
          try simp only [Act.put, List.setIfInBounds_toArray, List.set_cons_zero, List.set_cons_succ]
          refine wpAnyH_done (by kernel_rfl) ?_ _
          go_wp2_with fail
          go_ret
          exact write_done HQ.out.1 HQ.out.2.2.2.2.2.2 HA.out.2.1 HQ.out.2.1 (HD.out.2.2.1 ▸ HD.out.2.2.2) HB.out HD.out.1 HQ.out.2.2.2.1 hg5 ⟨rfl, rfl, rfl, (below_alloc w4 (.cells X.toArray 94)).size, (below_alloc w4 (.cells X.toArray 94)).block⟩ hown5 hb5
        refine AllReadyH.cons (List.getElem?_toArray.trans (List.getElem?_cons_succ.trans (List.getElem?_cons_succ.trans (List.getElem?_cons_succ.trans (List.getElem?_cons_succ.trans (List.getElem?_cons_succ.trans (List.getElem?_cons_succ.trans (List.getElem?_cons_zero)))))))) (fun K hK => ?_) AllReadyH.nil
        refine wp_buildSlice 82 94 1 _ rfl X.toArray i0 _ Try.underlying82 hi0 hz0 (by rw [hz1]; decide) (by rw [hz1]; decide) (by rw [hz1]; exact fill_write _ _ _ _ rfl (by rw [List.size_toArray]; exact HQ.out.2.2.2.2.1)) ?_
        refine hK.out _ _ trivial (fun _ => ?_)
        clear hK K
        try simp only [Act.put, List.setIfInBounds_toArray, List.set_cons_zero, List.set_cons_succ]
        refine wpAnyH_ready (rs := [4]) (by kernel_rfl) (by simp) ?_
        refine AllReadyH.cons (List.getElem?_toArray.trans (List.getElem?_cons_succ.trans (List.getElem?_cons_succ.trans (List.getElem?_cons_succ.trans (List.getElem?_cons_succ.trans (List.getElem?_cons_zero)))))) (fun K hK => ?_) AllReadyH.nil
        go_simp
        refine hK.out _ _ trivial (fun _ => ?_)
        clear hK K
        try simp only [Act.put, List.setIfInBounds_toArray, List.set_cons_zero, List.set_cons_succ]
        refine wpAnyH_ready (rs := [7]) (by kernel_rfl) (by simp) ?_
        refine AllReadyH.cons (List.getElem?_toArray.trans (List.getElem?_cons_succ.trans (List.getElem?_cons_succ.trans (List.getElem?_cons_succ.trans (List.getElem?_cons_succ.trans (List.getElem?_cons_succ.trans (List.getElem?_cons_succ.trans (List.getElem?_cons_succ.trans (List.getElem?_cons_zero))))))))) (fun K hK => ?_) AllReadyH.nil
        refine wp_append_row _ (.tmp 28) (.tmp 30) 82 rfl 0 94 i0 _ 65 72 Try.underlying82 hi0 hz0 hz1 hz2 rfl (by decide) (.slice W nW cw) nW (cws D.waits) rfl (row_alloc HQ.out.2.2.2.2.2.1 _) (w4.heap.size + 1) (some ⟨w4.heap.size, 0, none⟩) 1 1 X rfl (vs_of_blk (Blk.new w4 94 X.toArray) (Nat.lt_succ_self _)) (by rw [HQ.out.2.2.2.2.1]) (by rw [← HQ.out.2.2.2.1]; exact wr1_one _) (by omega) (by simp only [maxLen]; omega) (Nat.zero_le _) ?_
        intro v5 w5 hown5 hg5 hb5
        obtain ⟨A5, c5, rfl, _, _, _, _⟩ := vs_of_row hown5
        have hc5 : w5.cell? ⟨gd, 1, none⟩ = some (.slice W nW cw) := by
          have hx := HQ.out.1.blk.alloc (.cells X.toArray 94)
          have hne := row_apart (row_alloc HQ.out.2.2.2.2.2.1 (.cells X.toArray 94)) hx (by decide)
          exact (World.cell?_of_block (hg5.block gd hx.lt (fun e => hne e.symm))).trans (hcA _)
        have hf5 : w5.frozen? ⟨gd, 1, none⟩ = false := by
          have hx := HQ.out.1.blk.alloc (.cells X.toArray 94)
          have hne := row_apart (row_alloc HQ.out.2.2.2.2.2.1 (.cells X.toArray 94)) hx (by decide)
          exact (grown_blk hg5 hx (fun e => hne e.symm)).frozen 1
        refine hK.out _ _ trivial (fun _ => ?_)
        clear hK K
        try simp only [Act.put, List.setIfInBounds_toArray, List.set_cons_zero, List.set_cons_succ]
        refine wpAnyH_ready (rs := [8]) (by kernel_rfl) (by simp) ?_
        refine AllReadyH.cons (List.getElem?_toArray.trans (List.getElem?_cons_succ.trans (List.getElem?_cons_succ.trans (List.getElem?_cons_succ.trans (List.getElem?_cons_succ.trans (List.getElem?_cons_succ.trans (List.getElem?_cons_succ.trans (List.getElem?_cons_succ.trans (List.getElem?_cons_succ.trans (List.getElem?_cons_zero)))))))))) (fun K hK => ?_) AllReadyH.nil
        go_simp
        refine hK.out _ _ trivial (fun _ => ?_)
        clear hK K
        try simp only [Act.put, List.setIfInBounds_toArray, List.set_cons_zero, List.set_cons_succ]
        refine wpAnyH_ready (rs := [9]) (by kernel_rfl) (by simp) ?_
        refine AllReadyH.cons (List.getElem?_toArray.trans (List.getElem?_cons_succ.trans (List.getElem?_cons_succ.trans (List.getElem?_cons_succ.trans (List.getElem?_cons_succ.trans (List.getElem?_cons_succ.trans (List.getElem?_cons_succ.trans (List.getElem?_cons_succ.trans (List.getElem?_cons_succ.trans (List.getElem?_cons_succ.trans (List.getElem?_cons_zero))))))))))) (fun K hK => ?_) AllReadyH.nil
        go_simp
        refine hK.out _ _ trivial (fun _ => ?_)
        clear hK K
        try simp only [Act.put, List.setIfInBounds_toArray, List.set_cons_zero, List.set_cons_succ]
        refine wpAnyH_ready (rs := [10]) (by kernel_rfl) (by simp) ?_
        refine AllReadyH.cons (List.getElem?_toArray.trans (List.getElem?_cons_succ.trans (List.getElem?_cons_succ.trans (List.getElem?_cons_succ.trans (List.getElem?_cons_succ.trans (List.getElem?_cons_succ.trans (List.getElem?_cons_succ.trans (List.getElem?_cons_succ.trans (List.getElem?_cons_succ.trans (List.getElem?_cons_succ.trans (List.getElem?_cons_succ.trans (List.getElem?_cons_zero)))))))))))) (fun K hK => ?_) AllReadyH.nil
        go_simp
        refine hK.out _ _ trivial (fun _ => ?_)
        clear hK K
        try simp only [Act.put, List.setIfInBounds_toArray, List.set_cons_zero, List.set_cons_succ]
        refine wpAnyH_done (by kernel_rfl) ?_ _
        go_wp2_with fail
        go_ret
        exact write_done HQ.out.1 HQ.out.2.2.2.2.2.2 HA.out.2.1 HQ.out.2.1 (HD.out.2.2.1 ▸ HD.out.2.2.2) HB.out HD.out.1 HQ.out.2.2.2.1 hg5 ⟨rfl, rfl, rfl, (below_alloc w4 (.cells X.toArray 94)).size, (below_alloc w4 (.cells X.toArray 94)).block⟩ hown5 hb5
    · have hwr : m.write (p : Int) b = (m, 1) := by
        unfold Dk.write
        rw [if_neg (by omega), if_pos (by omega)]
      have hnei : ¬ (nb : Int) = 64 := by omega
      rw [hwr]
      clear hwr hk0 hin hp enb
      go_enter Try.func32, Try.ntmps32
      go_wp2_with (go_at_call 49; refine hex.out.mono ?_; rintro e w' ⟨rfl, rfl⟩)
      go_ret
      exact ⟨rfl, F, H.out.1, .refl _ _, fun _ => .inl⟩
end Go.Proofs.Ytdhaikcmgegfoaa
