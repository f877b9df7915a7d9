/-
  Package fault's New, Under, In, Code, Path and Text on an error whose chain is known, by their contracts. Conditions: errors.errorType holds the handle of the type error; Text: codes and positions below 100.
-/
import Derived.Test.YthgiehlfmdobkaaDoorFaultFns
import Derived.Test.YthgiehlfmdobkaaDoorRow
namespace Go.Proofs.YthgiehlfmdobkaaDoor
open Go.RowKit Go.Extern.Stop Go.Stop Go.Extern

/-- v is an error of the package whose chain has these codes and positions (none: it is nil) -/
def Chain (w : World) : Value → List (Int × Int) → Prop
  | v, [] => v = .nilIface
  | v, p :: r => ∃ g u, v = .iface 85 (.pointer (some ⟨g, 0, none⟩)) ∧ Blk w g 88 #[.int .i64 p.1, .int .i64 p.2, u] ∧ Chain w u r
theorem Chain.below {w w' : World} : ∀ {L : List (Int × Int)} {v : Value}, Chain w v L → Below w.heap.size w w' → Chain w' v L
  | [], _, h, _ => h
  | _ :: _, _, ⟨g, u, e, hb, hc⟩, hw => ⟨g, u, e, hb.below hw hb.lt, Chain.below hc hw⟩
/-- errors.errorType lies in the world as it is laid -/
def HasErr (w : World) : Prop := w.cell? gErr = some hErr
theorem HasErr.below {w w' : World} (h : HasErr w) (hb : Below w.heap.size w w') : HasErr w' := (hb.cell (cell_size h)).trans h
def ptrOf : Value → Value
  | .iface _ p => p
  | _ => .pointer none
def codeOf : List (Int × Int) → Int
  | [] => 0
  | p :: _ => p.1
theorem outer_any {w : World} {v : Value} {L : List (Int × Int)} (hc : Chain w v L) (hG : HasErr w) : Calls Tryd.prog 46 #[v] w fun e w' => e = .returned (ptrOf v) ∧ Below w.heap.size w w' := by
  cases L with
  | nil =>
    have e : v = .nilIface := hc
    subst e
    exact outermost_nil w
  | cons p r =>
    obtain ⟨g, u, e, _, _⟩ := hc
    subst e
    exact outermost_hit _ w hG
theorem fNew (c at_ : Int) (w : World) (hc : c ≠ 0) : Calls Tryd.prog 29 #[.int .i64 c, .int .i64 at_] w fun e w' => ∃ v, e = .returned v ∧ Chain w' v [(c, at_)] ∧ Below w.heap.size w w' := by
  refine (new_some c at_ w (by simpa using hc)).mono ?_
  rintro e w' ⟨rfl, rfl⟩
  exact ⟨_, rfl, ⟨_, _, rfl, Blk.new w _ _, rfl⟩, below_alloc w _⟩
theorem fCode {w : World} {v : Value} {L : List (Int × Int)} (hc : Chain w v L) (hG : HasErr w) : Calls Tryd.prog 57 #[v] w fun e w' => e = .returned (.int .i64 (codeOf L)) ∧ Below w.heap.size w w' := by
  cases L with
  | nil =>
    have e : v = .nilIface := hc
    subst e
    exact code_nil w
  | cons p r =>
    obtain ⟨g, u, e, hb, _⟩ := hc
    subst e
    exact code_hit g p.1 w hG (by rw [hb.cell]; rfl)

def InPost (w : World) (L : List (Int × Int)) (c at_ : Int) (e : Ending) (w' : World) : Prop := ∃ v, e = .returned v ∧ Chain w' v (if L = [] then [] else (c, at_) :: L) ∧ Below w.heap.size w w'
theorem fUnder {w : World} {v : Value} {L : List (Int × Int)} (c at_ : Int) (hc : Chain w v L) : Calls Tryd.prog 56 #[v, .int .i64 c, .int .i64 at_] w (InPost w L c at_) := by
  cases L with
  | nil =>
    have e : v = .nilIface := hc
    subst e
    go_enter Tryd.func56, Tryd.ntmps56
    go_wp2_with fail
    go_ret
    exact ⟨_, rfl, by rw [if_pos rfl]; rfl, Below.refl _ _⟩
  | cons p r =>
    have HC := Lib.hid hc
    obtain ⟨g, u, e, _, _⟩ := hc
    subst e
    go_enter Tryd.func56, Tryd.ntmps56
    go_wp2_with fail
    go_ret
    exact ⟨_, rfl, by rw [if_neg (by simp)]; exact ⟨_, _, rfl, Blk.new w _ _, HC.out.below (below_alloc w _)⟩, below_alloc w _⟩
theorem fIn {w : World} {v : Value} {L : List (Int × Int)} (at_ : Int) (hc : Chain w v L) (hG : HasErr w) : Calls Tryd.prog 43 #[v, .int .i64 at_] w (InPost w L (codeOf L) at_) := by
  have hco := Lib.hid (fCode hc hG)
  have HC := Lib.hid hc
  clear hc
  go_enter Tryd.func43, Tryd.ntmps43
  go_wp2_with (first
    | (go_at_call 57; refine hco.out.mono ?_; rintro e w1 ⟨rfl, hb1⟩)
    | (go_at_call 56; refine (fUnder (codeOf L) at_ (HC.out.below hb1)).mono ?_; rintro e w2 ⟨v2, rfl, hc2, hb2⟩))
  go_ret
  exact ⟨v2, rfl, hc2, hb1.trans (hb2.mono hb1.size)⟩

/-- ints as cells -/
def zv (l : List Int) : List Value := l.map (.int .i64 ·)
theorem zv_length (l : List Int) : (zv l).length = l.length := by simp [zv]
theorem zv_one (l : List Int) : ∀ u ∈ zv l, u.oneCell' = true := by
  intro u hu
  obtain ⟨x, _, rfl⟩ := List.mem_map.1 hu
  rfl
theorem zv_get {l : List Int} {j : Nat} (h : j < l.length) : (zv l)[j]? = some (.int .i64 (l.getD j 0)) := by simp [zv, List.getD, h]
def sliceLen : Value → Nat
  | .slice _ n _ => n
  | _ => 0
def chAt (L : List (Int × Int)) : List Int := L.map (·.2)
theorem i_info : (Tryd.prog.info? 3).map (fun i => (i.zero, i.size, i.bytes)) = some (some (.int .i64 0), 1, 8) := by kernel_rfl
theorem row_type {w : World} {base n size : Nat} {e : TypeId} {v : Value} {vs : List Value} (h : w.ownsRow base e size v n vs) : ∀ g, v.ownBlock = some g → ∃ cs, w.heap[g]? = some (.cells cs e (0, 0)) := by
  intro g hg
  rcases h.2 with ⟨rfl, _⟩ | ⟨g', cap, cur, rfl, _, hh, _⟩
  · simp [Value.ownBlock] at hg
  · simp only [Value.ownBlock, Option.some.injEq] at hg
    subst hg
    exact ⟨cur, hh⟩
theorem Chain.grown {w w' : World} {row : Option Nat} (hw : w.grownBy w' row) (hr : ∀ g, row = some g → ∃ cs, w.heap[g]? = some (.cells cs 3 (0, 0))) : ∀ {L : List (Int × Int)} {v : Value}, Chain w v L → Chain w' v L
  | [], _, h => h
  | _ :: _, _, ⟨g, u, e, hb, hc⟩ => ⟨g, u, e, hb.grown hw (fun e => by
      obtain ⟨cs, h2⟩ := hr g e.symm
      rw [hb] at h2
      simp at h2), Chain.grown hw hr hc⟩
def PathPost (w : World) (L : List (Int × Int)) (e : Ending) (w' : World) : Prop := ∃ A c, e = .returned (.slice A L.length c) ∧ Vs w' w'.heap.size A (zv (chAt L)) ∧ Below w.heap.size w w'
set_option maxRecDepth 100000 in
set_option maxHeartbeats 1000000 in
theorem fPath {w : World} {v : Value} {L : List (Int × Int)} (hc : Chain w v L) (hG : HasErr w) (hL : L.length ≤ 1000000) : Calls Tryd.prog 24 #[v] w (PathPost w L) := by
  obtain ⟨i0, hi0, hz0, hz1, hz2⟩ := info_parts i_info
  obtain ⟨n, en⟩ : ∃ n, L.length = n := ⟨_, rfl⟩
  rw [en] at hL
  have H := Lib.hid (And.intro hc (And.intro hG en))
  clear hc hG en
  go_enter Tryd.func24, Tryd.ntmps24
  go_wp2_with (go_at_call 46; refine (outer_any H.out.1 H.out.2.1).mono ?_; rintro e w1 ⟨rfl, hb1⟩; have HB := Lib.hid hb1; clear hb1)
  obtain ⟨p0, ep0⟩ : ∃ p, ptrOf v = p := ⟨_, rfl⟩
  rw [ep0]
  go_loopw [3, 4] (fun x f wz => ∃ (i : Nat) (u : Value) (A1 : Option Addr) (c1 : Nat), i ≤ n ∧ x = .slice A1 i c1 ∧ f = ptrOf u ∧ Chain wz u (L.drop i) ∧ wz.ownsRow w.heap.size 3 1 (.slice A1 i c1) i (zv (chAt (L.take i))) ∧ Below w.heap.size w wz) (fun x _ _ => n - sliceLen x)
  case atStart => exact ⟨0, v, none, 0, by omega, rfl, ep0.symm, H.out.1.below HB.out, row_nil _ _ _ _, HB.out⟩
  case round =>
    obtain ⟨i, u, A1, c1, hin, rfl, rfl, hch, hrow, hbel⟩ := hrel
    by_cases hlt : i < n
    · obtain ⟨p, r, epr⟩ : ∃ p r, L.drop i = p :: r := by
        cases e : L.drop i with
        | nil => have := congrArg List.length e; rw [List.length_drop, H.out.2.2] at this; simp at this; omega
        | cons p r => exact ⟨p, r, rfl⟩
      have hr : L.drop (i + 1) = r := by rw [← List.drop_drop, epr]; rfl
      have hp : chAt (L.take (i + 1)) = chAt (L.take i) ++ [p.2] := by
        have e : L[i]? = some p := by have := congrArg (fun l => l[0]?) epr; simpa using this
        rw [List.take_add_one, e]
        simp [chAt]
      rw [epr] at hch
      obtain ⟨g, u2, rfl, hblk, hch2⟩ := hch
      have d1 : wr.cell? ⟨g, 1, none⟩ = some (.int .i64 p.2) := by rw [hblk.cell]; rfl
      have d2 : wr.cell? ⟨g, 2, none⟩ = some u2 := by rw [hblk.cell]; rfl
      obtain ⟨pa, epa⟩ : ∃ x, p.2 = x := ⟨_, rfl⟩
      rw [epa] at d1
      have HI := Lib.hid (And.intro hrow (And.intro hbel (And.intro hblk (And.intro hch2 (And.intro hr (And.intro hp epa))))))
      clear hrow hbel hblk hch2 hr hp epr epa
      have hpo : ptrOf (.iface 85 (.pointer (some ⟨g, 0, none⟩))) = .pointer (some ⟨g, 0, none⟩) := rfl
      rw [hpo]
      go_wp2_with (first
        | (at_builtin; refine wpList_append_row _ rfl (.tmp 14) (.tmp 19) 62 rfl w.heap.size 3 i0 _ 1 8 Tryd.underlying62 hi0 hz0 hz1 hz2 rfl (by decide) (.slice A1 i c1) i (zv (chAt (L.take i))) rfl (row_alloc HI.out.1 _) (wr.heap.size + 1) (some ⟨wr.heap.size, 0, none⟩) 1 1 [.int .i64 pa] rfl (vs_of_blk (Blk.new wr 3 #[.int .i64 pa]) (Nat.lt_succ_self _)) rfl (zv_one [pa]) (by omega) (by unfold maxLen; omega) (by have := HI.out.2.1.size; simp; omega) ?_; refine fun v5 w5 hown5 hg5 _ => stopped ?_)
        | fail)
      obtain ⟨A5, c5, rfl, _, _, _, _⟩ := vs_of_row hown5
      have hrt := row_type (row_alloc HI.out.1 (.cells #[.int .i64 pa] 3))
      have hbA : Below w.heap.size w (wr.alloc (.cells #[.int .i64 pa] 3)) := HI.out.2.1.trans ((below_alloc wr _).mono HI.out.2.1.size)
      have hb5 : Below w.heap.size w w5 := hbA.trans (only_below hg5 hbA.size (fun g' e => (World.ownsRow.lt HI.out.1 g' e).1))
      have hblk5 : Blk w5 g 88 #[.int .i64 p.1, .int .i64 p.2, u2] := Blk.grown (HI.out.2.2.1.alloc _) hg5 (fun e => by
        obtain ⟨cs, h2⟩ := hrt g e.symm
        rw [HI.out.2.2.1.alloc] at h2
        simp at h2)
      have hch5 : Chain w5 u2 r := Chain.grown hg5 hrt (HI.out.2.2.2.1.below (below_alloc wr _))
      have d2' : w5.cell? ⟨g, 2, none⟩ = some u2 := by rw [hblk5.cell]; rfl
      have HJ := Lib.hid (And.intro hown5 (And.intro hb5 hch5))
      clear hrt hbA hb5 hblk5 hch5 hown5 hg5 d1 d2
      refine go_on ?_
      go_wp2_with (go_at_call 46; refine (outer_any HJ.out.2.2 (H.out.2.1.below HJ.out.2.1)).mono ?_; rintro e w6 ⟨rfl, hb6⟩; have HK := Lib.hid hb6; clear hb6)
      obtain ⟨pu, epu⟩ : ∃ x, ptrOf u2 = x := ⟨_, rfl⟩
      rw [epu]
      go_roundw
      case rel => exact ⟨i + 1, u2, A5, c5, by omega, rfl, epu.symm, by rw [HI.out.2.2.2.2.1]; exact HJ.out.2.2.below HK.out, by rw [HI.out.2.2.2.2.2.1, HI.out.2.2.2.2.2.2]; have := row_below HJ.out.1 HK.out; simpa [zv] using this, HJ.out.2.1.trans (HK.out.mono HJ.out.2.1.size)⟩
      case measure => simp [sliceLen]; omega
    · obtain rfl : i = n := by omega
      have hnil : L.drop i = [] := List.drop_eq_nil_of_le (by rw [H.out.2.2]; exact Nat.le_refl _)
      rw [hnil] at hch
      have eu : u = .nilIface := hch
      subst eu
      have hpo : ptrOf .nilIface = .pointer none := rfl
      rw [hpo]
      rw [List.take_of_length_le (by rw [H.out.2.2]; exact Nat.le_refl _)] at hrow
      have HI := Lib.hid (And.intro hrow hbel)
      clear hrow hbel
      go_wp2_with fail
      go_ret
      obtain ⟨A9, c9, hv9, _, _, hvs, _⟩ := vs_of_row HI.out.1
      injection hv9 with h1 h2 h3
      subst h1
      exact ⟨A1, c1, by rw [H.out.2.2]; rfl, hvs, HI.out.2⟩
end Go.Proofs.YthgiehlfmdobkaaDoor
