/-
  The disk's reference: Load, by its contract. Conditions: the theorem's own premises.
-/
import Derived.Test.YtnnjneijdfibnaaDiskRef7
namespace Go.Proofs.Ytnnjneijdfibnaa
open Go.RowKit

/-- the k-th sector of an image; the first n of them -/
def cutN (l : List UInt8) (k : Nat) : List UInt8 := (l.drop (64 * k)).take 64
def cutsN (l : List UInt8) : Nat → List (List UInt8)
  | 0 => []
  | k + 1 => cutsN l k ++ [cutN l k]
theorem cutsN_length (l : List UInt8) : ∀ n, (cutsN l n).length = n
  | 0 => rfl
  | n + 1 => by simp [cutsN, cutsN_length l n]
theorem cutsN_len (l : List UInt8) : ∀ n, 64 * n ≤ l.length → ∀ s ∈ cutsN l n, s.length = 64
  | 0, _, s, hs => by simp [cutsN] at hs
  | n + 1, h, s, hs => by
    simp only [cutsN, List.mem_append, List.mem_singleton] at hs
    rcases hs with hs | rfl
    · exact cutsN_len l n (by omega) s hs
    · simp [cutN]
      omega
theorem sv_cut (l : List UInt8) (k a b : Nat) (ha : 64 * k = a) (hb : a + 64 = b) : Value.string ((⟨l.toArray⟩ : ByteArray).extract a b) = sv (cutN l k) := by
  subst ha
  subst hb
  rw [ByteArray.extract_mk, show 64 * k + 64 - 64 * k = 64 by omega]
  rfl
def Dk.load (d : Dk) (l : List UInt8) : Dk × Nat := if l.length ≠ 64 * d.has.length then (d, 1) else ({ d with has := cutsN l d.has.length, waits := [] }, 0)
theorem one_str2 (st : ByteArray) : ∀ u ∈ [Value.string st], u.oneCell' = true := one_str st

set_option maxRecDepth 100000 in
set_option maxHeartbeats 1000000 in
set_option linter.unusedSimpArgs false in
theorem refLoad_any (w : World) (cs : List Value) (d : Dk) (h : RefIs w w.heap.size cs d) (b : List UInt8) : Calls Try.prog 37 #[.agg cs.toArray, sv b] w (RefPost w cs d (d.load b).1 (fun v => .tuple #[v, .int .i64 ((d.load b).2 : Nat)])) := by
  obtain ⟨st, hst⟩ : ∃ st : ByteArray, (⟨b.toArray⟩ : ByteArray) = st := ⟨_, rfl⟩
  have hsz : st.size = b.length := by
    rw [← hst]
    rfl
  have hsv : sv b = .string st := congrArg Value.string hst
  rw [hsv]
  have HST := Lib.hid (And.intro hst hsz)
  clear hst hsv
  obtain ⟨i0, hi0, hz0, hz1, hz2⟩ := info_parts strInfo
  obtain ⟨hok, A0, W, S0, ca0, cw, cs0, ecs, hA0, hW, hS0⟩ := h
  subst ecs
  obtain ⟨X, hX⟩ : ∃ X, (refCells A0 W S0 ca0 cw cs0 d).toArray = X := ⟨_, rfl⟩
  rw [hX]
  have HX := Lib.hid hX
  have HP := Lib.hid (And.intro hA0 (And.intro hW hS0))
  have HO := Lib.hid hok
  clear hX hA0 hW hS0 hok
  go_enter Try.func37, Try.ntmps37
  go_wp2_with (first
    | (refine wpList_box rfl 57 (.tmp 0) rfl X rfl ?_; intro w1 hb1 hw1 hz1; refine stopped ?_)
    | fail)
  refine go_on ?_
  refine wpList_alloc rfl 57 rfl _ rdisk_zero ?_
  intro w2 hb2 hw2 hz2
  simp only [Act.put, List.setIfInBounds_toArray, List.set_cons_zero, List.set_cons_succ]
  rw [← HX.out] at hb1
  obtain ⟨g2, e3⟩ : ∃ g, w.heap.size = g := ⟨_, rfl⟩
  obtain ⟨g4, e6⟩ : ∃ g, w1.heap.size = g := ⟨_, rfl⟩
  rw [e3] at hb1 hz1 hw1
  rw [e6] at hb2 hz2 hw2
  rw [e3, e6]
  have h36 : g4 = g2 + 1 := by omega
  have hbb : Below g2 w w2 := hw1.trans (hw2.mono (by omega))
  have HB := Lib.hid (And.intro (hb1.below hw2 (by omega)) (And.intro hb2 (And.intro hbb (And.intro h36 (And.intro hz2 e3)))))
  have hR2 : RefIs w2 w2.heap.size (refCells A0 W S0 ca0 cw cs0 d) d := (RefIs.below ⟨HO.out, A0, W, S0, ca0, cw, cs0, rfl, HP.out.1, HP.out.2.1, HP.out.2.2⟩ (e3 ▸ hbb)).more (by omega)
  have hF : ∀ g, w.heap.size ≤ g → RefFar (refCells A0 W S0 ca0 cw cs0 d) d g := fun g hg => ref_far ⟨far_below HP.out.1 hg (by rw [svs_length]; exact id), far_below HP.out.2.1 hg (by rw [wvs_length]; omega), far_below HP.out.2.2 hg (by rw [bvs_length]; exact id)⟩
  have hc0 : w2.cell? ⟨g2, 0, none⟩ = some (.slice A0 d.has.length ca0) := by rw [HB.out.1.cell]; rfl
  have hc1 : w2.cell? ⟨g2, 1, none⟩ = some (.slice W d.waits.length cw) := by rw [HB.out.1.cell]; rfl
  have hc2 : w2.cell? ⟨g2, 2, none⟩ = some (.bool d.off) := by rw [HB.out.1.cell]; rfl
  have hc3 : w2.cell? ⟨g2, 3, none⟩ = some (.int .i64 d.left) := by rw [HB.out.1.cell]; rfl
  have hc4 : w2.cell? ⟨g2, 4, none⟩ = some (.slice S0 d.surv.length cs0) := by rw [HB.out.1.cell]; rfl
  have hWk : Wk w w2 g2 g4 (refCells A0 W S0 ca0 cw cs0 d) d (refCells A0 W S0 ca0 cw cs0 d) d := ⟨HB.out.1, hR2, fun g _ h => h, HB.out.2.1, HB.out.2.2.1, by omega, HB.out.2.2.2.1, e3, hF⟩
  have HK := Lib.hid hWk
  clear hb1 hb2 hw1 hw2 hz1 hz2 hbb e3 e6 h36 hR2 hF hWk
  obtain ⟨nh, enh⟩ : ∃ n, d.has.length = n := ⟨_, rfl⟩
  have hsm : nh ≤ 256 := enh ▸ HO.out.small
  have HN := Lib.hid enh
  rw [enh] at hc0
  clear enh
  obtain ⟨tot, etot⟩ : ∃ n : Nat, 64 * nh = n := ⟨_, rfl⟩
  have htoti : (64 : Int) * (nh : Int) = (tot : Int) := by omega
  have ht1 : tot ≤ 16384 := by omega
  by_cases h64 : b.length = tot
  · have hst64 : st.size = tot := by omega
    have hs64 : (st.size : Int) = (tot : Int) := by omega
    have HT := Lib.hid (And.intro etot h64)
    have hlo : d.load b = ({ d with has := cutsN b nh, waits := [] }, 0) := by
      unfold Dk.load
      rw [HN.out, if_neg (by omega)]
    have HLO := Lib.hid hlo
    clear etot h64 hsz hlo
    have hlt2 : g2 < w2.heap.size := by have := HK.out.siz; have := HK.out.next; omega
    go_wp2_with fail
    go_loopw [6, 7] (fun v i wz => ∃ (k : Nat) (A : Option Addr) (c : Nat), k ≤ nh ∧ i = .int .i64 (k : Int) ∧ v = .slice A k c ∧ wz.ownsRow w2.heap.size 9 1 (.slice A k c) k (svs (cutsN b k)) ∧ Below w2.heap.size w2 wz) (fun _ i _ => nh - (intOf i).toNat)
    case atStart => exact ⟨0, _, _, by omega, rfl, rfl, row_empty w2 _ 1 9 (Nat.le_refl _), below_alloc w2 _⟩
    case round =>
      obtain ⟨k, A, c, hk, rfl, rfl, hown, hbel⟩ := hrel
      have hcw := (hbel.cell (p := ⟨g2, 0, none⟩) hlt2).trans hc0
      have HI := Lib.hid (And.intro hown hbel)
      clear hown hbel
      by_cases hlt : k < nh
      · obtain ⟨a, ea⟩ : ∃ a, 64 * k = a := ⟨_, rfl⟩
        obtain ⟨z, ez⟩ : ∃ z, a + 64 = z := ⟨_, rfl⟩
        have hai : (64 : Int) * (k : Int) = (a : Int) := by omega
        have hzi : (a : Int) + 64 = (z : Int) := by omega
        have hz1' : (z : Int) ≤ (st.size : Int) := by have := HT.out.1; omega
        have haz : (a : Int) ≤ (z : Int) := by omega
        have hbase := HI.out.2.size
        have HC := Lib.hid (HST.out.1 ▸ sv_cut b k a z ea ez)
        have HAZ := Lib.hid (And.intro ea ez)
        have hkn : (k : Int) < (nh : Int) := by omega
        clear ea ez
        go_wp2_with (first
          | (at_builtin
             refine wpList_append_row _ rfl (.tmp 24) (.tmp 32) 54 rfl w2.heap.size 9 i0 _ 1 16 Try.underlying54 hi0 hz0 hz1 hz2 rfl (by decide) _ k (svs (cutsN b k)) rfl (row_alloc HI.out.1 _) (wr.heap.size + 1) (some ⟨wr.heap.size, 0, none⟩) 1 1 [.string (st.extract a z)] rfl (vs_of_blk (Blk.new wr 9 #[.string (st.extract a z)]) (Nat.lt_succ_self _)) rfl (one_str _) (by omega) (by simp only [maxLen]; omega) (by simp; omega) ?_
             intro v7 w7 hown7 hg7 _
             obtain ⟨A7, c7, rfl, _, _, _, _⟩ := vs_of_row hown7)
          | fail)
        go_roundw
        case rel =>
          refine ⟨k + 1, A7, c7, by omega, by go_num, rfl, ?_, ?_⟩
          · have e : svs (cutsN b (k + 1)) = svs (cutsN b k) ++ [.string (st.extract a z)] := by rw [cutsN, svs_append, HC.out]; rfl
            rw [e]
            exact hown7
          · have b1 : Below w2.heap.size w2 (wr.alloc (.cells #[.string (st.extract a z)] 9)) := HI.out.2.trans ((below_alloc wr _).mono hbase)
            exact b1.trans (only_below hg7 b1.size (fun g' e => (World.ownsRow.lt HI.out.1 g' e).1))
        case measure => simp [intOf]; omega
      · obtain rfl : k = nh := by omega
        have hblk8 := HK.out.blk.below HI.out.2 hlt2
        have hf0 := hblk8.frozen 0
        have hf1 := hblk8.frozen 1
        have hc1' := (HI.out.2.cell (p := ⟨g2, 1, none⟩) hlt2).trans hc1
        have hnl : ¬ (k : Int) < (k : Int) := by omega
        go_wp2_with (first | (with_reducible refine st_load 57 ?_; refine stopped ?_) | fail)
        refine go_on ?_
        obtain ⟨D, eD⟩ : ∃ D, ({ d with has := cutsN b k, waits := [] } : Dk) = D := ⟨_, rfl⟩
        have hD : D.has = cutsN b k ∧ D.waits = [] ∧ D.surv = d.surv ∧ D.off = d.off ∧ D.left = d.left := by rw [← eD]; exact ⟨rfl, rfl, rfl, rfl, rfl⟩
        have hDl : D.has.length = k := by rw [hD.1, cutsN_length]
        have hset := (hblk8.set_ 0 (.slice A k c)).set_ 1 (.slice none 0 0)
        have hblk9 : Blk ((wr.setCell ⟨g2, 0, none⟩ (.slice A k c)).setCell ⟨g2, 1, none⟩ (.slice none 0 0)) g2 57 (refCells A none S0 c 0 cs0 D).toArray := by
          have e : (refCells A none S0 c 0 cs0 D).toArray = ((refCells A0 W S0 ca0 cw cs0 d).toArray.setIfInBounds 0 (.slice A k c)).setIfInBounds 1 (.slice none 0 0) := by simp [refCells, hD.2.1, hD.2.2.1, hD.2.2.2.1, hD.2.2.2.2, hDl]
          rw [e]
          exact hset
        obtain ⟨A9, c9, hv9, _, _, hvs9, _⟩ := vs_of_row HI.out.1
        injection hv9 with hA9 _ hc9
        subst hA9 hc9
        have hok' : D.ok := ⟨by rw [hDl]; exact hsm, by rw [hD.1]; exact cutsN_len b k (by have := HT.out; omega), by rw [hD.2.1]; simp, by rw [hD.2.2.2.2]; exact HO.out.leftB⟩
        have hge := HI.out.2.size
        have hwb : Below w.heap.size w w2 := HB.out.2.2.2.2.2 ▸ HB.out.2.2.1
        have hR8 : RefIs wr wr.heap.size (refCells A none S0 c 0 cs0 D) D := by
          refine ⟨hok', A, none, S0, c, 0, cs0, rfl, ?_, ?_, ?_⟩
          · rw [hD.1]; exact hvs9
          · rw [hD.2.1]; exact Vs.nil_
          · rw [hD.2.2.1]; exact (HP.out.2.2.below (hwb.trans (HI.out.2.mono hwb.size))).more (Nat.le_trans hwb.size hge)
        have HK3 := Lib.hid (HK.out.call hR8 (fun g hg hf => by
          have h0 := hf _ _ _ _ _ _ rfl
          refine ref_far ⟨far_row HI.out.1 hg, ?_, ?_⟩
          · rw [hD.2.1]; intro h; simp at h
          · rw [hD.2.2.1]; exact h0.2.2) HI.out.2 (only_trans (one_set wr g2 0 (.slice A k c)) (one_set _ g2 1 (.slice none 0 0))) hblk9)
        have hwr : d.load b = (D, 0) := by rw [HLO.out, eD]
        clear hset hblk9 hvs9 hR8 hD
        refine wpList_load_at rfl 57 (.tmp 2) rfl g2 0 rfl (refCells A none S0 c 0 cs0 D).toArray _ (Blk.cells HK3.out.blk) Try.underlying57 rfl rdisk_size ?_
        refine wpList_store_whole rfl 57 (.tmp 4) (.tmp 37) rfl g4 (refCells A none S0 c 0 cs0 D) rfl rfl 57 (refCells none none none 0 0 0 ⟨[], [], false, 0, []⟩) HK3.out.zero rdisk_size rfl (refCells_one _ _ _ _ _ _ _) ?_
        intro w10 hbw10 hgw10
        simp only [Act.put, List.setIfInBounds_toArray, List.set_cons_zero, List.set_cons_succ]
        repeat (first | go_values | go_skip | go_guarded | go_step)
        refine bodyPost_rowv rfl g4 rfl (.int .i64 0) rfl 57 _ _ hbw10 Try.underlying57 rfl rdisk_size rfl ?_
        show RefPost w _ d (d.load b).1 (fun v => .tuple #[v, .int .i64 ((d.load b).2 : Nat)]) _ _
        rw [hwr]
        exact HK3.out.done hgw10 _
  · have hs64 : ¬ (st.size : Int) = (tot : Int) := by omega
    have hwr : d.load b = (d, 1) := by
      unfold Dk.load
      rw [HN.out, if_pos (by omega)]
    go_wp2_with (first | (with_reducible refine st_load 57 ?_; refine stopped ?_) | fail)
    refine go_on ?_
    refine wpList_load_at rfl 57 (.tmp 2) rfl g2 0 rfl (refCells A0 W S0 ca0 cw cs0 d).toArray _ (Blk.cells HK.out.blk) Try.underlying57 rfl rdisk_size ?_
    refine wpList_store_whole rfl 57 (.tmp 4) (.tmp 15) rfl g4 (refCells A0 W S0 ca0 cw cs0 d) rfl rfl 57 (refCells none none none 0 0 0 ⟨[], [], false, 0, []⟩) HK.out.zero rdisk_size rfl (refCells_one _ _ _ _ _ _ _) ?_
    intro w10 hbw10 hgw10
    simp only [Act.put, List.setIfInBounds_toArray, List.set_cons_zero, List.set_cons_succ]
    repeat (first | go_values | go_skip | go_guarded | go_step)
    refine bodyPost_rowv rfl g4 rfl (.int .i64 1) rfl 57 _ _ hbw10 Try.underlying57 rfl rdisk_size rfl ?_
    show RefPost w _ d (d.load b).1 (fun v => .tuple #[v, .int .i64 ((d.load b).2 : Nat)]) _ _
    rw [hwr]
    exact HK.out.done hgw10 _
end Go.Proofs.Ytnnjneijdfibnaa
