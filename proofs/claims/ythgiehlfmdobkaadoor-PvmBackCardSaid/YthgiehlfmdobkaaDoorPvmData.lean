/-
  What package pvm's functions answer, as plain data. No conditions.
-/
import Derived.Test.YthgiehlfmdobkaaDoorPvmFew
namespace Go.Proofs.YthgiehlfmdobkaaDoor
open Go.RowKit

def R64 (x : Int) : Prop := -9223372036854775808 ≤ x ∧ x ≤ 9223372036854775807
/-- every number is an int64 -/
structure MOk (M : Mach) : Prop where
  p : R64 M.p
  r : ∀ j, R64 (M.r j)
  mem : ∀ v ∈ M.mem, R64 v
  s : R64 M.s
  t : R64 M.t
theorem r64_wrap (x : Int) : R64 (wrap64 x) := by unfold R64 wrap64; omega
theorem r64_kind (x : Int) : R64 (IntKind.i64.wrap x) := by rw [IntWalk.i64_left]; exact r64_wrap x
theorem r64_small {x : Int} (h1 : -65536 ≤ x) (h2 : x ≤ 65536) : R64 x := ⟨by omega, by omega⟩
theorem r64_0 : R64 0 := ⟨by omega, by omega⟩
theorem r64_1 : R64 1 := ⟨by omega, by omega⟩
theorem r64_2 : R64 2 := ⟨by omega, by omega⟩
theorem r64_mod {a b : Int} (h : R64 a) : R64 (a.tmod b) := by
  have h1 : (a.tmod b).natAbs ≤ a.natAbs := by rw [Int.natAbs_tmod]; exact Nat.mod_le _ _
  unfold R64 at *
  by_cases h0 : 0 ≤ a
  · have := Int.tmod_nonneg b h0
    omega
  · have h2 := Int.tmod_nonneg b (show 0 ≤ -a by omega)
    rw [Int.neg_tmod] at h2
    omega
theorem r64_two (op : Nat) {a b : Int} (ha : R64 a) : R64 (twoM op a b) := by
  unfold twoM
  split
  · exact r64_wrap _
  split
  · exact r64_wrap _
  split
  · exact r64_wrap _
  split
  · exact r64_wrap _
  split
  · exact r64_mod ha
  split
  · exact r64_kind _
  split
  · exact r64_kind _
  split
  · exact r64_kind _
  split
  · split; exact r64_1; exact r64_0
  · split; exact r64_1; exact r64_0
theorem ok_setR {M : Mach} (h : MOk M) (a : Nat) {v : Int} (hv : R64 v) : MOk (setR M a v) :=
  ⟨h.p, fun j => by show R64 (if j = a then v else M.r j); split; exact hv; exact h.r j, h.mem, h.s, h.t⟩
theorem ok_step1 {M : Mach} (h : MOk M) (hp : 0 ≤ M.p) (hq : M.p < 9223372036854775807) : MOk (step1 M) := ⟨by show R64 (M.p + 1); exact ⟨by omega, by omega⟩, h.r, h.mem, h.s, h.t⟩
theorem ok_trap {M : Mach} (h : MOk M) {c : Int} (h1 : -65536 ≤ c) (h2 : c ≤ 65536) : MOk (trapM M c).1 := ⟨h.p, h.r, h.mem, r64_2, r64_small h1 h2⟩
theorem num_small {i : Ins} (h : i.ok) : i.num ≤ 65535 ∧ -65536 ≤ i.numS ∧ i.numS ≤ 65536 := by
  have hb : i.b < 256 := h.2.2.1
  have hc : i.c < 256 := h.2.2.2
  have hn : i.num ≤ 65535 := by unfold Ins.num; omega
  refine ⟨hn, ?_, ?_⟩
  all_goals
    unfold Ins.numS
    split <;> omega
theorem doM_ok {i : Ins} (hi : i.ok) {M : Mach} (h : MOk M) (hp : 0 ≤ M.p) (hq : M.p < 9223372036854775807) : MOk (doM i M).1 := by
  obtain ⟨n1, n2, n3⟩ := num_small hi
  unfold doM
  split
  · exact ok_trap h (by decide) (by decide)
  split
  · exact ⟨h.p, h.r, h.mem, r64_1, h.t⟩
  split
  · exact ok_step1 (ok_setR h _ (r64_small n2 n3)) hp hq
  split
  · exact ok_step1 (ok_setR h _ (h.r _)) hp hq
  split
  · split
    · exact ok_trap h (by decide) (by decide)
    · exact ok_step1 (ok_setR h _ (r64_two _ (h.r _))) hp hq
  split
  · split
    · exact ok_trap h (by decide) (by decide)
    · split
      · refine ok_step1 (ok_setR h _ ?_) hp hq
        rename_i k _ _
        rcases Nat.lt_or_ge k M.mem.length with hk | hk
        · exact h.mem _ (by simp [List.getD, hk])
        · rw [show M.mem.getD k 0 = 0 by simp [List.getD, hk]]
          exact r64_0
      · exact ok_step1 (M := { M with mem := _ }) ⟨h.p, h.r, fun v hv => by
          rcases List.mem_or_eq_of_mem_set hv with h9 | h9
          · exact h.mem v h9
          · rw [h9]; exact h.r _, h.s, h.t⟩ hp hq
  split
  · exact ⟨r64_small (x := (i.num : Int)) (by omega) (by omega), h.r, h.mem, h.s, h.t⟩
  split
  · exact ok_step1 h hp hq
  · exact ok_step1 h hp hq
theorem stepM_ok {l : List Ins} (hl : okL l) (hn : l.length ≤ 1000000) {M : Mach} (h : MOk M) : MOk (stepM l M).1 := by
  unfold stepM
  split
  · exact h
  split
  · exact ok_trap h (by decide) (by decide)
  · rename_i hs hp
    exact doM_ok (okL_get hl (by omega)) h (by omega) (by omega)
theorem runM_ok {l : List Ins} (hl : okL l) (hn : l.length ≤ 1000000) : ∀ (k : Nat) {M : Mach}, MOk M → MOk (runM l k M).1
  | 0, _, h => h
  | k + 1, M, h => by
    have h1 := stepM_ok hl hn h
    have ih := runM_ok hl hn k h1
    simp only [runM]
    split
    · exact h
    split
    · exact h1
    · exact ih
theorem newM_ok (words : Int) : MOk (newM words) :=
  ⟨r64_0, fun _ => r64_0, fun v hv => by
    have : v = 0 := by
      unfold newM at hv
      exact (List.mem_replicate.1 hv).2
    rw [this]
    exact r64_0, r64_0, r64_0⟩
/-- a machine's bytes -/
def u64N (x : Int) : Nat := (x % 18446744073709551616).toNat
def saveM (M : Mach) : List UInt8 :=
  if mayM M = false then []
  else leB M.p.toNat 2 ++ leB M.s.toNat 1 ++ leB M.t.toNat 1 ++ (List.range 8).flatMap (fun j => leB (u64N (M.r j)) 8) ++ leB M.mem.length 1 ++ M.mem.flatMap (fun v => leB (u64N v) 8)
theorem saveM_no {M : Mach} (h : mayM M = false) : saveM M = [] := by unfold saveM; rw [if_pos h]
theorem saveM_len {M : Mach} : (saveM M).length ≤ 1000 := by
  unfold saveM
  split
  · simp
  · rename_i h
    have hm : mayM M = true := by simpa using h
    have h9 := of_decide_eq_true hm
    have key : ∀ l : List Int, (l.flatMap (fun v => leB (u64N v) 8)).length = 8 * l.length := by
      intro l
      induction l with
      | nil => rfl
      | cons a r ih => simp only [List.flatMap_cons, List.length_append, leB_length, ih, List.length_cons]; omega
    have key2 : ((List.range 8).flatMap (fun j => leB (u64N (M.r j)) 8)).length = 64 := by
      have e : (List.range 8).flatMap (fun j => leB (u64N (M.r j)) 8) = ((List.range 8).map M.r).flatMap (fun v => leB (u64N v) 8) := by simp [List.flatMap_map]
      rw [e, key]
      simp
    simp only [List.length_append, leB_length, key, key2]
    omega

def ev (kd nm : Int) : Value := .agg #[.int .i64 kd, .int .i64 nm]
def StepPost (w : World) (r : Mach × Int × Int) (e : Ending) (w' : World) : Prop := ∃ A c, e = .returned (.tuple #[mv r.1 A r.1.mem.length c, ev r.2.1 r.2.2]) ∧ r.1.mem.length ≤ c ∧ w'.ownsRow w.heap.size 2 1 (.slice A r.1.mem.length c) r.1.mem.length (zv r.1.mem) ∧ Below w.heap.size w w'
def RunPost (w : World) (r : Mach × Int × Int × Nat) (e : Ending) (w' : World) : Prop := ∃ A c, e = .returned (.tuple #[mv r.1 A r.1.mem.length c, ev r.2.1 r.2.2.1, .int .i64 (r.2.2.2 : Int)]) ∧ r.1.mem.length ≤ c ∧ w'.ownsRow w.heap.size 2 1 (.slice A r.1.mem.length c) r.1.mem.length (zv r.1.mem) ∧ Below w.heap.size w w'
def RestPost (w : World) (M : Mach) (e : Ending) (w' : World) : Prop := ∃ A c, e = .returned (.tuple #[mv M A M.mem.length c, .nilIface]) ∧ M.mem.length ≤ c ∧ w'.ownsRow w.heap.size 2 1 (.slice A M.mem.length c) M.mem.length (zv M.mem) ∧ Below w.heap.size w w'
/-- a machine that came in: its words lie below what the call lays -/
structure MachAt (w : World) (M : Mach) (A : Option Addr) (n c : Nat) : Prop where
  len : M.mem.length = n
  cap : n ≤ c
  vs : Vs w w.heap.size A (zv M.mem)
  ok : MOk M
theorem MachAt.below {w w' : World} {M : Mach} {A : Option Addr} {n c : Nat} (h : MachAt w M A n c) (hb : Below w.heap.size w w') : MachAt w' M A n c := ⟨h.len, h.cap, (h.vs.below hb).more hb.size, h.ok⟩
theorem machAt_row {w : World} {base : Nat} {M : Mach} {A : Option Addr} {c : Nat} (h : w.ownsRow base 2 1 (.slice A M.mem.length c) M.mem.length (zv M.mem)) (hok : MOk M) : MachAt w M A M.mem.length c := by
  obtain ⟨A', c', e, hc, _, hvs, _⟩ := vs_of_row h
  injection e with e1 e2 e3
  subst e1 e3
  exact ⟨rfl, hc, hvs, hok⟩
theorem MachAt.cut {w : World} {M : Mach} {A : Option Addr} {n c k : Nat} (h : MachAt w M A n c) (hk : min n 66 = k) : MachAt w (cutM M 66) A k c := by
  refine ⟨by show (M.mem.take 66).length = k; rw [List.length_take, h.len, Nat.min_comm]; exact hk, by have := h.cap; omega, fun h0 => ?_, ⟨h.ok.p, h.ok.r, fun v hv => h.ok.mem v (List.mem_of_mem_take hv), h.ok.s, h.ok.t⟩⟩
  have h1 : 0 < (M.mem.take 66).length := by rwa [zv_length] at h0
  obtain ⟨b, o, e, hb, hc⟩ := h.vs (by rw [zv_length]; rw [List.length_take] at h1; omega)
  refine ⟨b, o, e, hb, fun j v hj => hc j v ?_⟩
  have e2 : zv (cutM M 66).mem = (zv M.mem).take 66 := by show zv (M.mem.take 66) = _; simp [zv, List.map_take]
  rw [e2, List.getElem?_take] at hj
  split at hj
  · exact hj
  · cases hj
theorem mv_cut (M : Mach) (A : Option Addr) (n c : Nat) : mv (cutM M 66) A n c = mv M A n c := rfl
end Go.Proofs.YthgiehlfmdobkaaDoor
