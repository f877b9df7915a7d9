/-
  Package gram's push, by its contract; a stack as a row of the call's own. Conditions: each theorem's own premises.
-/
import Derived.Test.YthfbmihpdkkcjaaDoorGramStu0
namespace Go.Proofs.YthfbmihpdkkcjaaDoor
open Go.RowKit

theorem sgs_append : ∀ a b : List Sg, svs (a ++ b) = svs a ++ svs b
  | [], _ => rfl
  | s :: r, b => by rw [List.cons_append, svs, svs, sgs_append r b, List.append_assoc]
theorem sgs_one : ∀ l : List Sg, ∀ u ∈ svs l, u.oneCell' = true
  | [], u, h => by cases h
  | s :: r, u, h => by
    rw [svs, List.mem_append] at h
    rcases h with h | h
    · exact sg_one4 s u h
    · exact sgs_one r u h
theorem sizeAl9 (w : World) (o : Obj) : (w.alloc o).heap.size = w.heap.size + 1 := by simp
theorem row_cut {w : World} {base n size c m : Nat} {e : TypeId} {A : Option Addr} {xs : List Value} (h : w.ownsRow base e size (.slice A n c) n xs) (hm : m ≤ n) : w.ownsRow base e size (.slice A m c) m (xs.take (m * size)) := by
  have hle : m * size ≤ n * size := Nat.mul_le_mul_right _ hm
  refine ⟨by rw [List.length_take, h.1]; omega, ?_⟩
  rcases h.2 with ⟨e1, e2⟩ | ⟨g, cap, cur, e1, hg, hh, hn, hc, hs, ht⟩
  · subst e2
    obtain rfl : m = 0 := by omega
    exact .inl ⟨e1, rfl⟩
  · simp only [Value.slice.injEq, true_and] at e1
    obtain ⟨rfl, rfl⟩ := e1
    refine .inr ⟨g, c, cur, rfl, hg, hh, by omega, hc, hs, ?_⟩
    rw [← ht, List.take_take, Nat.min_eq_left hle]
theorem sg_info : (Tryd.prog.info? 42).map (fun i => (i.zero, i.size, i.bytes)) = some (some (.agg (Sg.cells ⟨0, 0, 0⟩).toArray), 3, 16) := by kernel_rfl
def PushPost (w : World) (base k : Nat) (T l : List Sg) (e : Ending) (w' : World) : Prop := ∃ v', e = .returned v' ∧ w'.ownsRow base 42 3 v' (k + l.length) (svs (T ++ l.reverse)) ∧ Below base w w'
set_option maxRecDepth 100000 in
set_option maxHeartbeats 4000000 in
set_option linter.unusedSimpArgs false in
theorem gfPush (w : World) (base : Nat) (hbase : base ≤ w.heap.size) (v : Value) (k : Nat) (T : List Sg) (hrow : w.ownsRow base 42 3 v k (svs T)) (A : Option Addr) (l : List Sg) (n cp : Nat) (hA : Vs w base A (svs l)) (hl : l.length = n) (h9 : n ≤ 9) (hk : k ≤ 40) :
    Calls Tryd.prog 32 #[v, .slice A n cp] w (PushPost w base k T l) := by
  obtain ⟨i0, hi0, hz0, hz1, hz2⟩ := info_parts sg_info
  have H := Lib.hid (And.intro hrow (And.intro hA hl))
  clear hrow hA hl
  go_enter Tryd.func32, Tryd.ntmps32
  go_wp2_with fail
  go_loopw [0, 5] (fun s0 s5 wz => ∃ (j : Nat), j ≤ n ∧ s5 = .int .i64 ((n : Int) - 1 - (j : Int)) ∧ wz.ownsRow base 42 3 s0 (k + j) (svs (T ++ (l.drop (n - j)).reverse)) ∧ Below base w wz ∧ base ≤ wz.heap.size) (fun _ u _ => (intOf u + 1).toNat)
  case atStart => exact ⟨0, by omega, by congr 1; omega, by rw [Nat.sub_zero, List.drop_eq_nil_of_le (by rw [H.out.2.2]; exact Nat.le_refl _)]; simpa using H.out.1, Below.refl _ _, hbase⟩
  case round =>
    obtain ⟨j, hj, rfl, hr, hbel, hsz⟩ := hrel
    by_cases hlt : j < n
    · obtain ⟨q, eq⟩ : ∃ q, n - 1 - j = q := ⟨_, rfl⟩
      have eqi : (n : Int) - 1 - (j : Int) = (q : Int) := by omega
      rw [eqi]
      have hq0 : (0 : Int) ≤ (q : Int) := by omega
      have hqn : (q : Int) < (n : Int) := by omega
      have hql : q < l.length := by rw [H.out.2.2]; omega
      obtain ⟨b, o, rfl, hbl, hcl⟩ := svs_cells H.out.2.1 hql
      have hcs := hcl wr hbel
      obtain ⟨y, ey⟩ : ∃ y, l.getD q ⟨0, 0, 0⟩ = y := ⟨_, rfl⟩
      rw [ey] at hcs
      have hdr : (l.drop (n - (j + 1))).reverse = (l.drop (n - j)).reverse ++ [y] := by
        rw [show n - (j + 1) = q by omega, show n - j = q + 1 by omega, List.drop_eq_getElem_cons hql, List.reverse_cons]
        rw [List.getD_eq_getElem?_getD, List.getElem?_eq_getElem hql, Option.getD_some] at ey
        rw [ey]
      obtain ⟨yn, eyn⟩ : ∃ z, y.n = z := ⟨_, rfl⟩
      obtain ⟨yl, eyl⟩ : ∃ z, y.lo = z := ⟨_, rfl⟩
      obtain ⟨yh, eyh⟩ : ∃ z, y.hi = z := ⟨_, rfl⟩
      have ecs : y.cells = [.int .i64 yn, .int .u8 (yl : Int), .int .u8 (yh : Int)] := by rw [← eyn, ← eyl, ← eyh]; rfl
      rw [ecs] at hcs
      have HI := Lib.hid (And.intro hr (And.intro hbel (And.intro hsz (And.intro hdr ecs))))
      clear hcl ey hr hdr eyn eyl eyh ecs
      go_wp2_with (first
        | (with_reducible refine st_load 42 ?_; refine stopped ?_)
        | fail)
      refine go_on ?_
      refine wpList_load_at rfl 42 (.tmp 16) rfl b (o + q * 3) rfl #[.int .i64 yn, .int .u8 (yl : Int), .int .u8 (yh : Int)] _ hcs Tryd.underlying42 rfl sg_size4 ?_
      simp only [Act.put, List.setIfInBounds_toArray, List.set_cons_zero, List.set_cons_succ]
      go_wp2_with (first
        | (at_builtin; refine stopped ?_)
        | fail)
      refine go_on ?_
      refine wpList_append_row _ rfl (.tmp 13) (.tmp 18) 44 rfl base 42 i0 _ 3 16 Tryd.underlying44 hi0 hz0 hz1 hz2 rfl (by decide) u0 (k + j) (svs (T ++ (l.drop (n - j)).reverse)) rfl (row_alloc HI.out.1 _) (wr.heap.size + 1) (some ⟨wr.heap.size, 0, none⟩) 1 1 [.int .i64 yn, .int .u8 (yl : Int), .int .u8 (yh : Int)] rfl (vs_of_blk (Blk.new wr 42 #[.int .i64 yn, .int .u8 (yl : Int), .int .u8 (yh : Int)]) (Nat.lt_succ_self _)) rfl (by rw [← HI.out.2.2.2.2]; exact sg_one4 y) (by omega) (by unfold maxLen; omega) (by have := HI.out.2.2.1; rw [sizeAl9]; omega) ?_
      intro v5 w5 hown5 hg5 _
      have hrw := World.ownsRow.lt (row_alloc HI.out.1 (.cells #[.int .i64 yn, .int .u8 (yl : Int), .int .u8 (yh : Int)] 42))
      have hba : Below base w (wr.alloc (.cells #[.int .i64 yn, .int .u8 (yl : Int), .int .u8 (yh : Int)] 42)) := HI.out.2.1.alloc HI.out.2.2.1 _
      have hb5 : Below base w w5 := hba.grown hg5 (by rw [sizeAl9]; have := HI.out.2.2.1; omega) (fun g e => (hrw g e).1)
      have hs5 : base ≤ w5.heap.size := by have h1 := hg5.size; rw [sizeAl9] at h1; have := HI.out.2.2.1; omega
      rw [← HI.out.2.2.2.2, show y.cells = svs [y] by simp [svs], ← sgs_append, List.append_assoc, ← HI.out.2.2.2.1, Nat.add_assoc] at hown5
      have HJ := Lib.hid (And.intro hown5 (And.intro hb5 hs5))
      clear hrw hba hb5 hs5 hown5 hg5
      simp only [Act.put, List.setIfInBounds_toArray, List.set_cons_zero, List.set_cons_succ]
      go_wp2_with fail
      go_roundw
      case rel => exact ⟨j + 1, by omega, by congr 1; omega, HJ.out.1, HJ.out.2.1, HJ.out.2.2⟩
      case measure => simp only [intOf]; omega
    · obtain rfl : j = n := by omega
      have e1 : (j : Int) - 1 - (j : Int) = -1 := by omega
      rw [e1]
      rw [Nat.sub_self, List.drop_zero] at hr
      have HI := Lib.hid (And.intro hr hbel)
      clear hr hbel
      go_wp2_with fail
      go_ret
      exact ⟨u0, rfl, by rw [H.out.2.2]; exact HI.out.1, HI.out.2⟩
end Go.Proofs.YthfbmihpdkkcjaaDoor
