/-
  Package sha's rotate and mix, by their contracts. Conditions: each theorem's own premises.
-/
import Derived.Test.YtjhkoepcolpclaaDoorShaSt
import Derived.BigQuiet
namespace Go.Proofs.YtjhkoepcolpclaaDoor
open Go.RowKit

theorem rotate_any (x n : Nat) (c : Int) (hc : c = n) (w : World) (hx : x < 4294967296) (h1 : 1 ≤ n) (h31 : n ≤ 31) :
    Calls Tryd.prog 32 #[.int .u32 x, .int .i64 c] w fun e w' => e = .returned (.int .u32 (rotr x n : Nat)) ∧ ∃ k, w' = w.drewN k := by
  subst hc
  obtain ⟨m, hm⟩ : ∃ m, 32 - n = m := ⟨_, rfl⟩
  have hmi : (32 : Int) - (n : Int) = (m : Int) := by omega
  have hb := bits_or_u32 (x / 2 ^ n) (x * 2 ^ m % 4294967296) (Nat.lt_of_le_of_lt (Nat.div_le_self _ _) hx) (Nat.mod_lt _ (by omega))
  have e1 : ((x / 2 ^ n : Nat) : Int) = (x : Int) / 2 ^ n := by rw [Int.natCast_ediv, Int.natCast_pow]; rfl
  have e2 : ((x * 2 ^ m % 4294967296 : Nat) : Int) = (x : Int) * 2 ^ m % 4294967296 := by rw [Int.natCast_emod, Int.natCast_mul, Int.natCast_pow]; rfl
  rw [e1, e2] at hb
  have HB := Lib.hid hb
  clear hb e1 e2
  have hn0 : (0 : Int) ≤ (n : Int) := by omega
  have hm0 : (0 : Int) ≤ (m : Int) := by omega
  go_enter Tryd.func32, Tryd.ntmps32
  go_wp2_with fail
  go_quiet (fail)
  rename_i nq
  go_wp2_with fail
  go_ret
  refine ⟨?_, nq, rfl⟩
  unfold rotr
  rw [hm, ← HB.out]
  rfl
theorem rotate_is {x r : Nat} (n : Nat) (c : Int) (hc : c = n) (hr : rotr x n = r) (hx : x < 4294967296) (h1 : 1 ≤ n) (h31 : n ≤ 31) (w : World) :
    Calls Tryd.prog 32 #[.int .u32 x, .int .i64 c] w fun e w' => e = .returned (.int .u32 (r : Int)) ∧ ∃ k, w' = w.drewN k := by
  subst hr
  exact rotate_any x n c hc w hx h1 h31

theorem words_info : (Tryd.prog.info? 50).map (·.size) = some 8 := by kernel_rfl
theorem words_zero : (Tryd.prog.info? 50).map (·.zero) = some (some (.agg (wv (List.replicate 8 0)).toArray)) := by kernel_rfl
theorem words_build (z0 z1 z2 z3 z4 z5 z6 z7 : Nat) :
    Tryd.prog.built 50 [(0, .int .u32 (z0 : Int)), (1, .int .u32 (z1 : Int)), (2, .int .u32 (z2 : Int)), (3, .int .u32 (z3 : Int)), (4, .int .u32 (z4 : Int)), (5, .int .u32 (z5 : Int)), (6, .int .u32 (z6 : Int)), (7, .int .u32 (z7 : Int))] = some (wv [z0, z1, z2, z3, z4, z5, z6, z7]).toArray := by kernel_rfl
theorem wpList_build_is {P : Program} {w : World} {ops : Array Oper} {rest : List Oper} {o : Oper} {a : Act} {Q : Exit → Act → World → Prop} (hg : o.guard = none) (t : TypeId) (parts : Array (Nat × Operand)) (ho : o.op = .build t parts) (cells : Array Value)
    (hf : P.built t (parts.map fun (i, x) => (i, a.eval x)).toList = some cells) (h : wpList P ops Q rest (a.put o.dst (.agg cells)) w) : wpList P ops Q (o :: rest) a w := by
  refine wpList_build hg t parts ho (by rw [hf]; rfl) ?_
  rw [hf]
  exact h

set_option maxRecDepth 100000 in
set_option maxHeartbeats 4000000 in
set_option linter.unusedSimpArgs false in
theorem mix_any (s : St) (hs : s.okB) (kw : Nat) (X : Array Value) (hX : X = (wv s.list).toArray) (w : World) :
    Calls Tryd.prog 31 #[.agg X, .int .u32 kw] w fun e w' => e = .returned (.agg (wv (s.step kw 0).list).toArray) ∧ Below w.heap.size w w' := by
  have HX := Lib.hid hX
  clear hX
  have HS := Lib.hid hs
  clear hs
  go_enter Tryd.func31, Tryd.ntmps31
  go_wp2_with (first
    | (refine wpList_box rfl 50 (.tmp 0) rfl X rfl ?_; intro w1 hb1 hw1 hz1)
    | (refine wpList_alloc rfl 50 rfl _ words_zero ?_; intro w2 hb2 hw2 hz2))
  have hlt : w.heap.size < w1.heap.size := by omega
  have hbx : Blk w2 w.heap.size 50 (wv s.list).toArray := by rw [← HX.out]; exact hb1.below hw2 hlt
  have c0 : w2.cell? ⟨w.heap.size, 0, none⟩ = some (.int .u32 (s.a : Int)) := hbx.cell 0
  have c1 : w2.cell? ⟨w.heap.size, 1, none⟩ = some (.int .u32 (s.b : Int)) := hbx.cell 1
  have c2 : w2.cell? ⟨w.heap.size, 2, none⟩ = some (.int .u32 (s.c : Int)) := hbx.cell 2
  have c3 : w2.cell? ⟨w.heap.size, 3, none⟩ = some (.int .u32 (s.d : Int)) := hbx.cell 3
  have c4 : w2.cell? ⟨w.heap.size, 4, none⟩ = some (.int .u32 (s.e : Int)) := hbx.cell 4
  have c5 : w2.cell? ⟨w.heap.size, 5, none⟩ = some (.int .u32 (s.f : Int)) := hbx.cell 5
  have c6 : w2.cell? ⟨w.heap.size, 6, none⟩ = some (.int .u32 (s.g : Int)) := hbx.cell 6
  have c7 : w2.cell? ⟨w.heap.size, 7, none⟩ = some (.int .u32 (s.h : Int)) := hbx.cell 7
  have HR := Lib.hid hb2
  have HBel := Lib.hid (hw1.trans (hw2.mono (by omega)))
  clear hb1 hbx hb2 hw1 hw2
  go_quiet (fail)
  rename_i nq
  clear c0 c1 c2 c3 c4 c5 c6 c7
  obtain ⟨r1, r2, r3, m1, m2, u1, p, ne, q, ch, u2, er1, er2, er3, f1, f2, ⟨f3, f3'⟩, f4, f5, f6, f7, ⟨f8, f8'⟩, ⟨f9, f9'⟩⟩ := m1_facts HS.out kw
  obtain ⟨s1, s2, s3, n1, n2, p1, q1, d1, v1, d2, es1, es2, es3, g1, g2, g3, g4, g5, g6, g7, ⟨g8, g8'⟩⟩ := t2_facts HS.out
  obtain ⟨t1v, et1⟩ : ∃ y, s.t1 kw 0 = y := ⟨_, rfl⟩
  obtain ⟨t2v, et2⟩ : ∃ y, s.t2 = y := ⟨_, rfl⟩
  obtain ⟨ev, eev⟩ : ∃ y, (s.d + t1v) % 4294967296 = y := ⟨_, rfl⟩
  obtain ⟨av, eav⟩ : ∃ y, (t1v + t2v) % 4294967296 = y := ⟨_, rfl⟩
  have hstep : (s.step kw 0).list = [av, s.a, s.b, s.c, ev, s.e, s.f, s.g] := by unfold St.step; rw [et1, et2, eev, eav]; rfl
  rw [et1] at f9 f9'
  rw [et2] at g8 g8'
  have HStep := Lib.hid hstep
  have T6 := Lib.hid (rotate_is 6 6 rfl er1 HS.out.2.2.2.2.1 (by omega) (by omega))
  have T11 := Lib.hid (rotate_is 11 11 rfl er2 HS.out.2.2.2.2.1 (by omega) (by omega))
  have T25 := Lib.hid (rotate_is 25 25 rfl er3 HS.out.2.2.2.2.1 (by omega) (by omega))
  have T2 := Lib.hid (rotate_is 2 2 rfl es1 HS.out.1 (by omega) (by omega))
  have T13 := Lib.hid (rotate_is 13 13 rfl es2 HS.out.1 (by omega) (by omega))
  have T22 := Lib.hid (rotate_is 22 22 rfl es3 HS.out.1 (by omega) (by omega))
  have G := Lib.hid (And.intro g1 (And.intro g2 (And.intro g3 (And.intro g4 (And.intro g5 (And.intro g6 (And.intro g7 (And.intro g8 g8'))))))))
  obtain ⟨h1, h1'⟩ := u32_sum eev
  obtain ⟨h2, h2'⟩ := u32_sum eav
  have E := Lib.hid (And.intro h1 (And.intro h1' (And.intro h2 h2')))
  clear er1 er2 er3 es1 es2 es3 et1 et2 eev eav hstep g1 g2 g3 g4 g5 g6 g7 g8 g8' h1 h1' h2 h2'
  go_wp2_with fail
  refine (T6.out _).mono ?_
  rintro e' w' ⟨rfl, k1, rfl⟩
  go_wp2_with fail
  refine (T11.out _).mono ?_
  rintro e' w' ⟨rfl, k2, rfl⟩
  go_wp2_with fail
  refine (T25.out _).mono ?_
  rintro e' w' ⟨rfl, k3, rfl⟩
  go_wp2_with fail
  refine (T2.out _).mono ?_
  rintro e' w' ⟨rfl, k4, rfl⟩
  clear f1 f2 f3 f3' f4 f5 f6 f7 f8 f8' f9 f9'
  obtain ⟨g1, g2, g3, g4, g5, g6, g7, g8, g8'⟩ := G.out
  go_wp2_with fail
  refine (T13.out _).mono ?_
  rintro e' w' ⟨rfl, k5, rfl⟩
  go_wp2_with fail
  refine (T22.out _).mono ?_
  rintro e' w' ⟨rfl, k6, rfl⟩
  obtain ⟨h1, h1', h2, h2'⟩ := E.out
  go_wp2_with (first
    | (refine wpList_build_is rfl 50 _ rfl (wv [av, s.a, s.b, s.c, ev, s.e, s.f, s.g]).toArray (by kernel_rfl) ?_; refine wpList_store_whole rfl 50 (.tmp 4) (.tmp 84) rfl (w.heap.size + 1) (wv [av, s.a, s.b, s.c, ev, s.e, s.f, s.g]) rfl rfl 50 (wv (List.replicate 8 0)) (by rw [← hz1]; exact Blk.drewN HR.out _) words_info rfl (by intro u hu; exact wv_one _ u hu) ?_; intro w3 hb3 hg3)
    | fail)
  refine bodyPost_row rfl (w.heap.size + 1) rfl 50 _ _ hb3 Tryd.underlying50 rfl words_info rfl ⟨by rw [HStep.out], ?_⟩
  exact (below_drewN HBel.out _).trans (only_below hg3 (by simp; omega) (fun g hg => by cases hg; omega))
end Go.Proofs.YtjhkoepcolpclaaDoor
