/-
  The law's Sector: bytes of one value, by its contract. Conditions: the theorem's own premises.
-/
import Derived.Test.YtdhaikcmgegfoaaDiskMath
import Derived.Laws.MakeOwn
namespace Go.Proofs.Ytdhaikcmgegfoaa
open Go.RowKit

theorem made_bs (n : Nat) : madeCells #[Value.int .u8 0] n = (bv (List.replicate n 0)).toArray := by
  apply Array.ext
  · simp [madeCells, bv]
  · intro i h1 h2
    simp [madeCells, bv, Nat.mod_one]
theorem u8_whole : (Try.prog.info? 5).map (fun i => (i.zero, i.size, i.bytes)) = some (some (.int .u8 0), 1, 1) := by kernel_rfl
theorem wpList_make_bs {w : World} {ops : Array Oper} {rest : List Oper} {o : Oper} {a : Act} {Q : Exit → Act → World → Prop} (hgd : o.guard = none) (l c : Operand) (ho : o.op = .makeSlice 57 l c)
    (n : Nat) (hl : a.eval l = .int .i64 (n : Int)) (hc : a.eval c = .int .i64 (n : Int)) (hn : n ≤ 140737488355328)
    (h : ∀ w', Blk w' w.heap.size 5 (bv (List.replicate n 0)).toArray → Below w.heap.size w w' → w'.heap.size = w.heap.size + 1 → wpList Try.prog ops Q rest (a.put o.dst (.slice (some ⟨w.heap.size, 0, none⟩) n n)) w') : wpList Try.prog ops Q (o :: rest) a w := by
  obtain ⟨i, hi, hz, h1, h2⟩ := info_parts u8_whole
  have hr := run_make (P := Try.prog) w 57 5 i (.int .u8 0) Try.underlying57 hi hz .i64 .i64 n n (by omega) (by omega) (by rw [h2]; omega) (by omega)
  simp only [Int.toNat_natCast, h1, Nat.mul_one] at hr
  have e : (Value.int .u8 0).cells = #[Value.int .u8 0] := rfl
  rw [e, made_bs] at hr
  refine wpList_plain hgd fun _ hK => ?_
  unfold Oper.wp execOp
  simp only [ho, hl, hc, Sem.run_bind, Sem.run_pure, hr, Result.andThen_ok]
  exact hK _ _ (h _ (Blk.new w _ _) (below_alloc w _) (by simp))

/-- how long a sector of the law's is -/
def secN (off : Int) : Nat := if -64 < off ∧ off < 64 then (64 + off).toNat else 64
theorem secN_le (off : Int) : secN off ≤ 127 := by
  unfold secN
  split <;> omega
def fillTo (f : UInt8) (n k : Nat) : List UInt8 := List.replicate k f ++ List.replicate (n - k) 0
theorem fillTo_length (f : UInt8) (n k : Nat) (h : k ≤ n) : (fillTo f n k).length = n := by simp [fillTo]; omega
theorem fillTo_set (f : UInt8) (n k : Nat) (h : k < n) : (bv (fillTo f n k)).set k (.int .u8 (f.toNat : Int)) = bv (fillTo f n (k + 1)) := by
  have e : (fillTo f n k).set k f = fillTo f n (k + 1) := by
    unfold fillTo
    rw [List.set_append_right _ _ (by simp), List.length_replicate, Nat.sub_self, show n - k = (n - (k + 1)) + 1 by omega, List.replicate_succ, List.set_cons_zero, List.replicate_succ' (n := k), List.append_assoc]
    rfl
  rw [← e]
  simp [bv, List.map_set]

set_option maxRecDepth 100000 in
set_option maxHeartbeats 1000000 in
theorem sector_n (w : World) (f : UInt8) (off : Int) (n : Nat) (hn : n ≤ 127) (hoff : secN off = n) :
    Calls Try.prog 19 #[.int .u8 (f.toNat : Int), .int .i64 off] w (OwnPost w (List.replicate n f)) := by
  obtain ⟨fn, efn⟩ : ∃ k, f.toNat = k := ⟨_, rfl⟩
  rw [efn]
  go_enter Try.func19, Try.ntmps19
  by_cases h1 : -64 < off
  · by_cases h2 : off < 64
    · have hs : 64 + off = (n : Int) := by
        unfold secN at hoff
        rw [if_pos ⟨h1, h2⟩] at hoff
        omega
      have h1' : off > -64 := h1
      clear hoff
      go_wp2_with (first
        | (refine wpList_make_bs rfl (.tmp 17) (.tmp 17) rfl n rfl rfl (by omega) ?_; intro w1 hb1 hw1 hz1; refine stopped ?_)
        | fail)
      obtain ⟨g, eg⟩ : ∃ g, w.heap.size = g := ⟨_, rfl⟩
      rw [eg] at hb1 hw1 ⊢
      have HB := Lib.hid (And.intro hb1 (And.intro hw1 eg))
      clear hb1 hw1 hz1 eg
      refine go_on ?_
      go_wp2_with fail
      go_loopw [7] (fun i wz => ∃ k : Nat, k ≤ n ∧ i = .int .i64 (k : Int) ∧ Blk wz g 5 (bv (fillTo f n k)).toArray ∧ Below g w wz) (fun i _ => n - (intOf i).toNat)
      case atStart => exact ⟨0, by omega, rfl, by simpa [fillTo] using HB.out.1, HB.out.2.1⟩
      case round =>
        obtain ⟨k, hk, rfl, hblk, hbel⟩ := hrel
        by_cases hlt : k < n
        · have hki : (k : Int) < (n : Int) := by omega
          have hk0 : (0 : Int) ≤ (k : Int) := by omega
          have hfr := hblk.frozen k
          have hce : wr.cell? ⟨g, k, none⟩ = some (.int .u8 (((fillTo f n k).getD k 0).toNat : Int)) := by
            have hl := fillTo_length f n k hk
            rw [hblk.cell, List.getElem?_toArray, bv_get (by rw [hl]; exact hlt)]
            simp [List.getD, hl, hlt]
          obtain ⟨old, eo⟩ : ∃ x, ((fillTo f n k).getD k 0).toNat = x := ⟨_, rfl⟩
          rw [eo] at hce
          have HI := Lib.hid (And.intro hblk hbel)
          clear eo hblk hbel
          go_wp2_with fail
          go_roundw
          case rel =>
            refine ⟨k + 1, by omega, by go_num, ?_, HI.out.2.setCell (Nat.le_refl _) _⟩
            have := HI.out.1.set_ k (.int .u8 (f.toNat : Int))
            rw [List.setIfInBounds_toArray, fillTo_set f n k hlt, efn] at this
            exact this
          case measure => simp [intOf]; omega
        · obtain rfl : k = n := by omega
          have HI := Lib.hid (And.intro hblk hbel)
          clear hblk hbel
          go_wp2_with fail
          go_ret
          have e : fillTo f k k = List.replicate k f := by simp [fillTo]
          have hb := HI.out.1
          rw [e] at hb
          refine ⟨_, rfl, hb.own_n (by rw [HB.out.2.2]; exact Nat.le_refl _) (by simp [maxLen]; try omega) (by simp), ?_⟩
          rw [HB.out.2.2]
          exact HI.out.2
    · obtain rfl : n = 64 := by
        unfold secN at hoff
        rw [if_neg (by omega)] at hoff
        omega
      have h1' : off > -64 := h1
      clear hoff hn
      go_wp2_with (first
        | (refine wpList_make_bs rfl (.tmp 17) (.tmp 17) rfl 64 rfl rfl (by omega) ?_; intro w1 hb1 hw1 hz1; refine stopped ?_)
        | fail)
      obtain ⟨g, eg⟩ : ∃ g, w.heap.size = g := ⟨_, rfl⟩
      rw [eg] at hb1 hw1 ⊢
      have HB := Lib.hid (And.intro hb1 (And.intro hw1 eg))
      clear hb1 hw1 hz1 eg
      refine go_on ?_
      go_wp2_with fail
      go_loopw [7] (fun i wz => ∃ k : Nat, k ≤ 64 ∧ i = .int .i64 (k : Int) ∧ Blk wz g 5 (bv (fillTo f 64 k)).toArray ∧ Below g w wz) (fun i _ => 64 - (intOf i).toNat)
      case atStart => exact ⟨0, by omega, rfl, by simpa [fillTo] using HB.out.1, HB.out.2.1⟩
      case round =>
        obtain ⟨k, hk, rfl, hblk, hbel⟩ := hrel
        by_cases hlt : k < 64
        · have hki : (k : Int) < (64 : Int) := by omega
          have hk0 : (0 : Int) ≤ (k : Int) := by omega
          have hfr := hblk.frozen k
          have hce : wr.cell? ⟨g, k, none⟩ = some (.int .u8 (((fillTo f 64 k).getD k 0).toNat : Int)) := by
            have hl := fillTo_length f 64 k hk
            rw [hblk.cell, List.getElem?_toArray, bv_get (by rw [hl]; exact hlt)]
            simp [List.getD, hl, hlt]
          obtain ⟨old, eo⟩ : ∃ x, ((fillTo f 64 k).getD k 0).toNat = x := ⟨_, rfl⟩
          rw [eo] at hce
          have HI := Lib.hid (And.intro hblk hbel)
          clear eo hblk hbel
          go_wp2_with fail
          go_roundw
          case rel =>
            refine ⟨k + 1, by omega, by go_num, ?_, HI.out.2.setCell (Nat.le_refl _) _⟩
            have := HI.out.1.set_ k (.int .u8 (f.toNat : Int))
            rw [List.setIfInBounds_toArray, fillTo_set f 64 k hlt, efn] at this
            exact this
          case measure => simp [intOf]; omega
        · obtain rfl : k = 64 := by omega
          have HI := Lib.hid (And.intro hblk hbel)
          clear hblk hbel
          go_wp2_with fail
          go_ret
          have e : fillTo f 64 64 = List.replicate 64 f := by simp [fillTo]
          have hb := HI.out.1
          rw [e] at hb
          refine ⟨_, rfl, hb.own_n (by rw [HB.out.2.2]; exact Nat.le_refl _) (by simp [maxLen]; try omega) (by simp), ?_⟩
          rw [HB.out.2.2]
          exact HI.out.2
  · obtain rfl : n = 64 := by
      unfold secN at hoff
      rw [if_neg (by omega)] at hoff
      omega
    have h1' : ¬ off > -64 := h1
    clear hoff hn
    go_wp2_with (first
      | (refine wpList_make_bs rfl (.tmp 17) (.tmp 17) rfl 64 rfl rfl (by omega) ?_; intro w1 hb1 hw1 hz1; refine stopped ?_)
      | fail)
    obtain ⟨g, eg⟩ : ∃ g, w.heap.size = g := ⟨_, rfl⟩
    rw [eg] at hb1 hw1 ⊢
    have HB := Lib.hid (And.intro hb1 (And.intro hw1 eg))
    clear hb1 hw1 hz1 eg
    refine go_on ?_
    go_wp2_with fail
    go_loopw [7] (fun i wz => ∃ k : Nat, k ≤ 64 ∧ i = .int .i64 (k : Int) ∧ Blk wz g 5 (bv (fillTo f 64 k)).toArray ∧ Below g w wz) (fun i _ => 64 - (intOf i).toNat)
    case atStart => exact ⟨0, by omega, rfl, by simpa [fillTo] using HB.out.1, HB.out.2.1⟩
    case round =>
      obtain ⟨k, hk, rfl, hblk, hbel⟩ := hrel
      by_cases hlt : k < 64
      · have hki : (k : Int) < (64 : Int) := by omega
        have hk0 : (0 : Int) ≤ (k : Int) := by omega
        have hfr := hblk.frozen k
        have hce : wr.cell? ⟨g, k, none⟩ = some (.int .u8 (((fillTo f 64 k).getD k 0).toNat : Int)) := by
          have hl := fillTo_length f 64 k hk
          rw [hblk.cell, List.getElem?_toArray, bv_get (by rw [hl]; exact hlt)]
          simp [List.getD, hl, hlt]
        obtain ⟨old, eo⟩ : ∃ x, ((fillTo f 64 k).getD k 0).toNat = x := ⟨_, rfl⟩
        rw [eo] at hce
        have HI := Lib.hid (And.intro hblk hbel)
        clear eo hblk hbel
        go_wp2_with fail
        go_roundw
        case rel =>
          refine ⟨k + 1, by omega, by go_num, ?_, HI.out.2.setCell (Nat.le_refl _) _⟩
          have := HI.out.1.set_ k (.int .u8 (f.toNat : Int))
          rw [List.setIfInBounds_toArray, fillTo_set f 64 k hlt, efn] at this
          exact this
        case measure => simp [intOf]; omega
      · obtain rfl : k = 64 := by omega
        have HI := Lib.hid (And.intro hblk hbel)
        clear hblk hbel
        go_wp2_with fail
        go_ret
        have e : fillTo f 64 64 = List.replicate 64 f := by simp [fillTo]
        have hb := HI.out.1
        rw [e] at hb
        refine ⟨_, rfl, hb.own_n (by rw [HB.out.2.2]; exact Nat.le_refl _) (by simp [maxLen]; try omega) (by simp), ?_⟩
        rw [HB.out.2.2]
        exact HI.out.2
theorem sector_any (w : World) (f : UInt8) (off : Int) : Calls Try.prog 19 #[.int .u8 (f.toNat : Int), .int .i64 off] w (OwnPost w (List.replicate (secN off) f)) := sector_n w f off _ (secN_le off) rfl
end Go.Proofs.Ytdhaikcmgegfoaa
