/-
  slices.Grow on nil, slices.Concat of two slices of bytes, by their contracts. Conditions: each theorem's own premises.
-/
import Derived.Test.YtebcnacboidfeaaDoorOctetRef
import Derived.Lib.AppendZerosOnto
import Derived.Lib.SliceRun
import Derived.Lib.Walk
import Derived.Shelf.Spec.SlicesGrow
namespace Go.Proofs.YtebcnacboidfeaaDoor
open Go.RowKit

set_option maxRecDepth 100000 in
set_option maxHeartbeats 4000000 in
theorem grow_nil (n : Nat) (w : World) (h0 : 0 < n) (hn : n ≤ 140737488355328) :
    Calls Tryd.prog 25 #[.slice none 0 0, .int .i64 n] w (OwnPost w []) := by
  obtain ⟨i0, hi0, hz0, hz1, hz2⟩ := info_parts u8info
  have hrz : ∀ ty, (Builtin.append_ #[23, 3] ty #[.slice none 0 0, .int .i64 n]).run Tryd.prog w =
      .ok (.slice (some ⟨w.heap.size, 0, none⟩) n (grownCap w n 0 5)) (w.drew.alloc (.cells ((#[] : Array Value) ++ Builtin.zeroCells #[.int .u8 0] n ++ Builtin.zeroCells #[.int .u8 0] (grownCap w n 0 5 - n)) 5)) := fun ty => by
    have h := Lib.run_append_grow_zeros (P := Tryd.prog) w 23 3 ty 5 i0 (.int .u8 0) .i64 .i64 Tryd.underlying23 Tryd.underlying3 hi0 hz0 none 0 0 [] (run_firstCells_none w.drew i0.size 0 0 0) n h0 (by omega) (by omega) (by omega)
      (by rw [hz2]; omega) (by rw [hz2, Nat.zero_add]; exact growslice_fits (bytes := 1) (by omega) (by omega))
    rw [Nat.zero_add] at h
    exact h
  have hG : n ≤ grownCap w n 0 5 := grownCap_ge w _ _ _
  have hG63 : grownCap w n 0 5 ≤ maxLen := grownCap_le_maxLen w n 0 5 (by unfold maxLen; omega)
  obtain ⟨G, eG⟩ : ∃ G, G = grownCap w n 0 5 := ⟨_, rfl⟩
  rw [← eG] at hrz hG hG63
  clear eG
  go_enter Tryd.func25, Tryd.ntmps25
  go_wp2_with (at_builtin; refine Lib.wpList_append_run _ rfl _ _ _ _ rfl _ _ rfl rfl _ _ (hrz _) ?_)
  go_ret
  refine ⟨_, rfl, ⟨by simp [bv], .inr ⟨w.heap.size, G, _, rfl, Nat.le_refl _, heap_alloc_new w.drew _, Nat.zero_le _, hG63, ?_, by simp [bv]⟩⟩, below_drewN ((Below.refl _ _).alloc (Nat.le_refl _) _) 1⟩
  simp [Builtin.zeroCells]
  omega

theorem concat_two (g : Nat) (A A2 : Option Addr) (l m : List UInt8) (c c2 B : Nat) (w : World) (hc0 : w.cell? ⟨g, 0, none⟩ = some (.slice A l.length c)) (hc1 : w.cell? ⟨g, 1, none⟩ = some (.slice A2 m.length c2))
    (hb : Bs w B A l) (hb2 : Bs w B A2 m) (hB : B ≤ w.heap.size) (h0 : 0 < l.length + m.length) (hl : l.length + m.length ≤ 140737488355328) :
    Calls Tryd.prog 21 #[.slice (some ⟨g, 0, none⟩) 2 2] w (OwnPost w (l ++ m)) := by
  obtain ⟨i0, hi0, hz0, hz1, hz2⟩ := info_parts u8info
  have hgrow := grow_nil (l.length + m.length) w h0 hl
  rw [Int.natCast_add] at hgrow
  have hgrow := Lib.hid hgrow
  have h1 : ((l.length : Nat) : Int) ≤ 140737488355328 := by omega
  have h2 : ((m.length : Nat) : Int) ≤ 140737488355328 := by omega
  have h3 : ((l.length : Nat) : Int) + ((m.length : Nat) : Int) ≤ 140737488355328 := by omega
  have hg : g < w.heap.size := World.block_lt_of_cell? _ _ hc0
  go_enter Tryd.func21, Tryd.ntmps21
  go_wp2
  refine wp_loop_rounds 3 ?_
  rw [rounds_succ]
  go_wp2
  rw [rounds_succ]
  go_wp2
  rw [rounds_succ]
  go_wp2_with (go_at_call 25; refine (hgrow.out).mono ?_; rintro e w1 ⟨v1, rfl, hown1, hbel1⟩; have hc0' := (hbel1.cell (p := ⟨g, 0, none⟩) hg).trans hc0; have hb' := hb.below (hbel1.mono hB); have hB1 : B ≤ w1.heap.size := Nat.le_trans hB hbel1.size)
  refine wp_loop_rounds 3 ?_
  rw [rounds_succ]
  go_wp2_with (at_builtin; refine wpList_append_bytes _ rfl (.tmp 31) (.tmp 32) 23 rfl w.heap.size 5 i0 (.int .u8 0) Tryd.underlying23 hi0 hz0 hz1 hz2 rfl v1 [] rfl hown1 B A c l rfl hb' (by simp; omega) hbel1.size ?_; intro v2 w2 hown2 hg2 _)
  have hbel2 : Below w.heap.size w w2 := hbel1.grown hg2 hbel1.size (fun k hk => (World.ownsRow.lt hown1 k hk).1)
  have hc1' := (hbel2.cell (p := ⟨g, 1, none⟩) hg).trans hc1
  have hb2' := hb2.below (hbel2.mono hB)
  rw [List.nil_append] at hown2
  rw [rounds_succ]
  go_wp2_with (at_builtin; refine wpList_append_bytes _ rfl (.tmp 31) (.tmp 32) 23 rfl w.heap.size 5 i0 (.int .u8 0) Tryd.underlying23 hi0 hz0 hz1 hz2 rfl v2 l rfl hown2 B A2 c2 m rfl hb2' hl hbel2.size ?_; intro v3 w3 hown3 hg3 _)
  have hbel3 : Below w.heap.size w w3 := hbel2.grown hg3 hbel2.size (fun k hk => (World.ownsRow.lt hown2 k hk).1)
  rw [rounds_succ]
  go_wp2
  go_ret
  exact ⟨v3, rfl, hown3, hbel3⟩
end Go.Proofs.YtebcnacboidfeaaDoor
