/-
  The disk's reference: Noughts and with, by their contracts. Conditions: the theorems' own premises.
-/
import Derived.Test.YtdhaikcmgegfoaaDiskMath
namespace Go.Proofs.Ytdhaikcmgegfoaa
open Go.RowKit

theorem strInfo : (Try.prog.info? 9).map (fun i => (i.zero, i.size, i.bytes)) = some (some (.string ⟨#[]⟩), 1, 16) := by kernel_rfl
theorem nought_step (k : Nat) (st : ByteArray) (h : st.data.toList = List.replicate k 0) : (st ++ (⟨#[0]⟩ : ByteArray)).data.toList = List.replicate (k + 1) 0 := by
  rw [ByteArray.data_append, Array.toList_append, h, List.replicate_succ']
theorem ba_eq {st : ByteArray} {l : List UInt8} (h : st.data.toList = l) : st = ⟨l.toArray⟩ := by
  cases st with
  | mk d => subst h; rfl

set_option maxRecDepth 100000 in
set_option maxHeartbeats 1000000 in
theorem noughts_any (w : World) : Calls Try.prog 35 #[] w fun e w' => e = .returned (sv nought) ∧ Below w.heap.size w w' := by
  go_enter Try.func35, Try.ntmps35
  go_wp2
  go_loopw [1, 2] (fun v i wz => ∃ (k : Nat) (st : ByteArray), k ≤ 64 ∧ i = .int .i64 (k : Int) ∧ v = .string st ∧ st.data.toList = List.replicate k 0 ∧ wz = w) (fun _ i _ => 64 - (intOf i).toNat)
  case atStart => exact ⟨0, _, by omega, rfl, rfl, rfl, rfl⟩
  case round =>
    obtain ⟨k, st, hk, rfl, rfl, hst, rfl⟩ := hrel
    have HS := Lib.hid hst
    clear hst
    by_cases hlt : k < 64
    · have hcat : st.size + (⟨#[0]⟩ : ByteArray).size ≤ 9223372036854775807 := by
        have h1 : st.size = st.data.toList.length := rfl
        rw [h1, HS.out, List.length_replicate, show (⟨#[0]⟩ : ByteArray).size = 1 from rfl]
        omega
      have hadd := fun (w : World) => run_string_add_sum (P := Try.prog) w st ⟨#[0]⟩ hcat
      go_wp2
      go_roundw
      case rel => exact ⟨k + 1, _, by omega, by go_num, rfl, nought_step _ _ HS.out, trivial⟩
      case measure => simp [intOf]; omega
    · obtain rfl : k = 64 := by omega
      go_wp2
      go_ret
      exact ⟨by unfold sv nought; rw [ba_eq HS.out]; rfl, Below.refl _ _⟩

/-- sectors of which one has something else -/
def WithPost (w : World) (L : List (List UInt8)) (k : Nat) (s : List UInt8) (e : Ending) (w' : World) : Prop :=
  ∃ A c, e = .returned (.slice A L.length c) ∧ w'.ownsRow w.heap.size 9 1 (.slice A L.length c) L.length (svs (L.set k s)) ∧ Below w.heap.size w w'

set_option maxRecDepth 100000 in
set_option maxHeartbeats 1000000 in
theorem with_any (w : World) (A : Option Addr) (c : Nat) (L : List (List UInt8)) (k : Nat) (s : List UInt8) (hk : k < L.length) (hs : L.length ≤ 256) (hL : Vs w w.heap.size A (svs L)) :
    Calls Try.prog 55 #[.slice A L.length c, .int .i64 (k : Int), sv s] w (WithPost w L k s) := by
  obtain ⟨i0, hi0, hz0, hz1, hz2⟩ := info_parts strInfo
  have HL := Lib.hid (And.intro hk (And.intro hs hL))
  clear hk hs hL
  obtain ⟨n, en⟩ : ∃ n, L.length = n := ⟨_, rfl⟩
  rw [en]
  obtain ⟨st, est⟩ : ∃ st : ByteArray, (⟨s.toArray⟩ : ByteArray) = st := ⟨_, rfl⟩
  have hsv : sv s = .string st := congrArg Value.string est
  rw [hsv]
  clear est
  go_enter Try.func55, Try.ntmps55
  go_wp2_with (first
    | (at_builtin
       refine wpList_append_row _ rfl (.tmp 8) (.tmp 9) 41 rfl w.heap.size 9 i0 _ 1 16 Try.underlying41 hi0 hz0 hz1 hz2 rfl (by decide) _ 0 [] rfl (row_empty w w.heap.size 1 9 (Nat.le_refl _)) w.heap.size A c n (svs L) rfl (HL.out.2.2.below (below_alloc w _)) (by rw [svs_length, en, Nat.mul_one]) (svs_one L) (by have := HL.out.2.1; omega) (by have := HL.out.2.1; simp only [maxLen]; omega) (by simp) ?_
       intro v1 w1 hown1 hg1 hb1; refine stopped ?_)
    | fail)
  refine go_on ?_
  rw [Nat.zero_add, List.nil_append] at hown1
  rcases hown1.2 with ⟨_, h0⟩ | ⟨g, cap, cur, hv, hbg, hg, hnc, hcm, hcs, htake⟩
  · exfalso
    have := HL.out.1
    omega
  subst hv
  have hcell : w1.cell? ⟨g, k, none⟩ = some (sv (L.getD k [])) := by
    have := World.ownsRow.cells hown1 (g := g) rfl k _ (svs_get HL.out.1)
    rwa [Addr.add_lit, Nat.zero_add] at this
  have hfro : w1.frozen? ⟨g, k, none⟩ = false := by simp [World.frozen?, hg]
  have hgr : (w.alloc (.cells #[] 9)).grownBy w1 (some w.heap.size) := hg1
  have HW := Lib.hid (And.intro hown1 (And.intro hgr hbg))
  have hkn : k < n := en ▸ HL.out.1
  clear hown1 hgr hg1 hb1 htake hcs hcm hnc hg hbg
  go_wp2
  go_ret
  have hst := World.ownsRow.stored HW.out.1 k (sv s)
  rw [hsv] at hst
  refine ⟨some ⟨g, 0, none⟩, cap, ?_, ?_, ?_⟩
  · rw [en]
    rfl
  · have e : svs (L.set k s) = (svs L).set k (.string st) := by rw [← hsv]; simp [svs, List.map_set]
    rw [e, en]
    exact hst.1
  · have b1 : Below w.heap.size w w1 := (below_alloc w _).trans (only_below HW.out.2.1 (by simp) (fun g' e => by cases e; exact Nat.le_refl _))
    exact b1.trans (only_below hst.2 b1.size (fun g' e => by cases e; exact HW.out.2.2))

end Go.Proofs.Ytdhaikcmgegfoaa
