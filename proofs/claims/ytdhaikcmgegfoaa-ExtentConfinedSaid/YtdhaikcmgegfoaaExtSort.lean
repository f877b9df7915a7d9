/-
  slices.SortFunc on extents by their beginning, by its contract in the library: a permutation, and no later one begins ahead of an earlier one. Conditions: each theorem's own premises.
-/
import Derived.Test.YtdhaikcmgegfoaaExtFns
import Derived.Test.YtdhaikcmgegfoaaExtLays
namespace Go.Proofs.Ytdhaikcmgegfoaa
open Go.RowKit

/-- an extent's two cells -/
def encX (x : Int × Int) : List Value := [.int .i64 x.1, .int .i64 x.2]
def cfX (x y : Int × Int) : Int := Lib.compareInt x.1 y.1
theorem ltX (x y : Int × Int) : ltOf cfX x y = decide (x.1 < y.1) := by
  unfold ltOf cfX Lib.compareInt
  by_cases h1 : x.1 < y.1
  · simp [h1]
  · by_cases h2 : y.1 < x.1 <;> simp [h1, h2]
theorem swoX : Sort.SWO (ltOf cfX) where
  irrefl x := by rw [ltX]; simp
  trans x y z h1 h2 := by rw [ltX] at *; simp at *; omega
  ntrans x y z h1 h2 := by rw [ltX] at *; simp at *; omega

set_option maxHeartbeats 1000000 in
theorem closureX (x y : Int × Int) (W : World) : Calls Try.prog 38 #[.agg #[.int .i64 x.1, .int .i64 x.2], .agg #[.int .i64 y.1, .int .i64 y.2]] W fun e w' => e = .returned (.int .i64 (cfX x y)) ∧ ∃ q os', w' = Sort.grow (W.drewN q) os' := by
  have hcon := fun W' => AnyG.cmp_Compare_int cmpX x.1 y.1 W'
  change ∀ W', Calls Try.prog 39 _ _ _ at hcon
  unfold cfX
  generalize Lib.compareInt x.1 y.1 = r at hcon ⊢
  go_enter Try.func38, Try.ntmps38
  go_wp2_with (go_at_call 39; refine (hcon _).mono ?_; rintro e w' ⟨rfl, rfl⟩)
  go_ret
  exact ⟨rfl, 0, _, by rw [Sort.alloc_eq_grow, Sort.alloc_eq_grow, Sort.grow_grow]; rfl⟩
theorem cmpLaysX (blk off size : Nat) (w : World) : CmpLays Try.prog 38 #[] encX 2 cfX blk off size w := fun _ _ _ _ x y => closureX x y _

theorem evs_flat : ∀ {l : List (Int × Int)} {t : Nat}, t < l.length * 2 → (evs l)[t]? = some ((encX l.toArray[t / 2]!)[t % 2]!) := fun {l t} h => by
  obtain ⟨h1, h2⟩ := evs_get (l := l) (j := t / 2) (by omega)
  have e : l.toArray[t / 2]! = l.getD (t / 2) (0, 0) := by simp [List.getD, show t / 2 < l.length by omega]
  rw [e]
  rcases Nat.mod_two_eq_zero_or_one t with h0 | h0
  · rw [show t / 2 * 2 = t by omega] at h1
    rw [h1, h0]
    rfl
  · rw [show t / 2 * 2 + 1 = t by omega] at h2
    rw [h2, h0]
    rfl
theorem holds_evs {w : World} {g : Nat} {t : TypeId} {cur : Array Value} (hB : w.heap[g]? = some (.cells cur t (0, 0))) {l : List (Int × Int)} (hc : cur.toList.take (l.length * 2) = evs l) : Sort.HoldsK encX 2 w g 0 l.toArray := by
  intro j hj
  rw [Sort.size_flatK] at hj
  have hj' : j < l.length * 2 := by simpa using hj
  refine ⟨?_, by simp [World.frozen?, hB]⟩
  rw [Nat.zero_add, cell_of_row w g j cur t (0, 0) hB, Sort.get_flatK _ _ _ _ (by simpa using hj')]
  have h1 := evs_flat hj'
  rw [← hc, List.getElem?_take_of_lt hj', Array.getElem?_toList] at h1
  exact h1
theorem vs_holds {w : World} {g B : Nat} {d : Array (Int × Int)} (h : Sort.HoldsK encX 2 w g 0 d) (hg : g < B) : Vs w B (some ⟨g, 0, none⟩) (evs d.toList) := fun _ => by
  refine ⟨g, 0, rfl, hg, fun j v hj => ?_⟩
  have hj' : j < d.toList.length * 2 := by
    have := (List.getElem?_eq_some_iff.1 hj).1
    rwa [evs_length] at this
  have hd : j < d.size * 2 := by simpa using hj'
  have h1 := (h j (by rw [Sort.size_flatK]; exact hd)).1
  rw [Sort.get_flatK _ _ _ _ hd] at h1
  rw [h1, ← hj, evs_flat hj']
  simp
theorem grown_sorted {w : World} {g n : Nat} {os : Array Obj} (d : Array (Int × Int)) : w.grownBy (sortWorldK encX 2 w g 0 n d os) (some g) := by
  refine ⟨rfl, rfl, rfl, by simp [sortWorldK, Sort.putRowK, Sort.putRow, Sort.mapBlock], fun k hk hne => ?_⟩
  unfold sortWorldK
  rw [Sort.heap_grow_old _ _ (by simpa [Sort.putRowK, Sort.putRow, Sort.mapBlock] using hk)]
  have : g ≠ k := fun e => hne (by rw [e])
  simp [Sort.putRowK, Sort.putRow, Sort.mapBlock, Sort.ahead, Array.getElem?_modify, this]

/-- no later one begins ahead of an earlier one -/
def risesB (l : List (Int × Int)) : Prop := ∀ i k, i < k → k < l.length → (l.getD i (0, 0)).1 ≤ (l.getD k (0, 0)).1
/-- what the sort leaves -/
def SortPost (W : World) (base : Nat) (A : Option Addr) (l : List (Int × Int)) (e : Ending) (w' : World) : Prop :=
  e = .returned (.tuple #[]) ∧ Below base W w' ∧ ∃ l', l'.Perm l ∧ risesB l' ∧ Vs w' w'.heap.size A (evs l')

theorem sortX_any (W : World) (base n : Nat) (A : Option Addr) (c : Nat) (l : List (Int × Int)) (hn : l.length = n) (h63 : n < 4611686018427387904) (h : W.ownsRow base 25 2 (.slice A n c) n (evs l)) (hb : base ≤ W.heap.size) :
    Calls Try.prog 37 #[.slice A n c, .func (.func 38) #[] #[]] W (SortPost W base A l) := by
  subst hn
  rcases h.2 with ⟨hv, h0⟩ | ⟨g, cap, cur, hv, hg, hh, hnc, hm, hs, ht⟩
  · injection hv with hA hl hc
    subst hA hc
    obtain rfl : l = [] := List.eq_nil_of_length_eq_zero h0
    have hcon := AnyF.slices_SortFunc_none sortX none 0 (.func (.func 38) #[] #[]) W
    change Calls Try.prog 37 _ _ _ at hcon
    refine hcon.mono ?_
    rintro e w' ⟨rfl, rfl⟩
    exact ⟨rfl, Below.refl _ _, [], .refl _, fun i k _ hk => by simp at hk, Vs.nil_⟩
  · injection hv with hA hl hc
    subst hA hc
    have hH := holds_evs hh ht
    have hgs : g < W.heap.size := (Array.getElem?_eq_some_iff.1 hh).1
    have eg : ∀ args w, (callFunc 38 args).run Try.prog w = .ok (.enter 38 args) w := enters_of Try.func38 (by kernel_rfl) rfl
    have hcon := AnyQ.slices_SortFunc sortX 2 Try.isAgg25 Try.sizeOf25 encX (fun _ => rfl) (fun x v hv => by simp [encX] at hv; rcases hv with rfl | rfl <;> rfl) cfX swoX 38 #[] g 0 c l.toArray W eg (cmpLaysX g 0 _ W) hH hgs (by simpa using h63)
    change Calls Try.prog 37 _ _ _ at hcon
    rw [List.size_toArray] at hcon
    refine hcon.mono ?_
    rintro e w' ⟨rfl, d', n, os, hp, hsd, rfl⟩
    obtain ⟨hp1, _, hp3⟩ := hp
    have hd : d'.toList.Perm l := by
      have e1 : d'.extract 0 l.length = d' := by rw [show l.length = d'.size by simpa using hp1.symm]; simp
      rw [e1] at hp3
      simpa using hp3
    refine ⟨rfl, only_below (grown_sorted d') hb (fun g' e => by cases e; exact hg), d'.toList, hd, fun i k hik hk => ?_, ?_⟩
    · have hk' : k < d'.size := by simpa using hk
      have := hsd i k (Nat.zero_le _) hik (by rw [← hd.length_eq]; simpa using hk')
      rw [ltX] at this
      have h2 := of_decide_eq_false this
      have e1 : d'.toList.getD i (0, 0) = d'[i]! := by simp [List.getD, show i < d'.size by omega]
      have e2 : d'.toList.getD k (0, 0) = d'[k]! := by simp [List.getD, hk']
      rw [e1, e2]
      omega
    · exact vs_holds (holdsK_sortWorldK_c encX 2 W g 0 l.toArray d' n os hH hgs hp1) (Nat.lt_of_lt_of_le hgs (grown_sorted d').size)
end Go.Proofs.Ytdhaikcmgegfoaa
