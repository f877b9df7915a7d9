/-
  Package octet's Reader, by the contracts of its methods where nothing fails, and of End where bytes are left. Conditions: each theorem's own premises.
-/
import Derived.Test.YthgiehlfmdobkaaDoorOctetMk
import Derived.Test.YthgiehlfmdobkaaDoorFaultFns
import Derived.Deep.QuietTactic
import Derived.BigQuiet
import Derived.RegionTactic
import Derived.IntWalk
namespace Go.Proofs.YthgiehlfmdobkaaDoor
open Go.RowKit

/-- a reader at block g: its bytes l, its offset k, its failure e -/
def RdAt (w : World) (g : Nat) (A : Option Addr) (c : Nat) (l : List UInt8) (k : Nat) (e : Value) : Prop :=
  l.length ≤ c ∧ c ≤ maxLen ∧ Blk w g 100 #[.slice A l.length c, .int .i64 k, e] ∧ Bs w g A l
def Rd (w : World) (g : Nat) (l : List UInt8) (k : Nat) (e : Value) : Prop := ∃ A c, RdAt w g A c l k e
section
variable {w w' : World} {g k c B : Nat} {A : Option Addr} {l : List UInt8} {e : Value}
theorem RdAt.below (h : RdAt w g A c l k e) (hb : Below B w w') (hg : g < B) : RdAt w' g A c l k e :=
  ⟨h.1, h.2.1, h.2.2.1.below hb hg, h.2.2.2.keep fun p hp => hb.cell (p := p) (by omega)⟩
theorem Rd.below (h : Rd w g l k e) (hb : Below B w w') (hg : g < B) : Rd w' g l k e := by
  obtain ⟨A, c, h⟩ := h
  exact ⟨A, c, h.below hb hg⟩
theorem Rd.lt (h : Rd w g l k e) : g < w.heap.size := by
  obtain ⟨A, c, h⟩ := h
  exact h.2.2.1.lt
theorem RdAt.put (h : RdAt w g A c l k e) (k' : Nat) : RdAt (w.setCell ⟨g, 1, none⟩ (.int .i64 k')) g A c l k' e :=
  ⟨h.1, h.2.1, by simpa using h.2.2.1.set_ 1 (.int .i64 k'), h.2.2.2.setCell (Nat.le_refl _) _⟩
theorem RdAt.cells (h : RdAt w g A c l k e) : w.cell? ⟨g, 0, none⟩ = some (.slice A l.length c) ∧ w.cell? ⟨g, 1, none⟩ = some (.int .i64 k) ∧ w.cell? ⟨g, 2, none⟩ = some e ∧ w.frozen? ⟨g, 1, none⟩ = false ∧ w.frozen? ⟨g, 2, none⟩ = false :=
  ⟨h.2.2.1.cell 0, h.2.2.1.cell 1, h.2.2.1.cell 2, h.2.2.1.frozen 1, h.2.2.1.frozen 2⟩
end

theorem must_true (r : Value) (c : Int) (w : World) :
    Calls Tryd.prog 41 #[r, .bool true, .int .i64 c] w fun e w' => e = .returned (.tuple #[]) ∧ w = w' := by
  go_enter Tryd.func41, Tryd.ntmps41
  go_wp2
  exact bodyPost_ret (results_none rfl _ _ _) rfl ⟨rfl, rfl⟩

theorem left_at (g : Nat) (A : Option Addr) (c : Nat) (l : List UInt8) (k : Nat) (ev : Value) (w : World) (h : RdAt w g A c l k ev) (hk : k ≤ l.length) :
    Calls Tryd.prog 55 #[.pointer (some ⟨g, 0, none⟩)] w fun e w' => e = .returned (.int .i64 ((l.length : Int) - k)) ∧ ∃ n, w' = w.drewN n := by
  obtain ⟨h0, h1, h2, f1, f2⟩ := h.cells
  have hl : l.length ≤ 9223372036854775807 := by have a := h.1; have b := h.2.1; unfold maxLen at b; omega
  clear h
  go_enter Tryd.func55, Tryd.ntmps55
  go_wp2
  go_quiet (fail)
  go_wp2
  go_ret
  exact ⟨rfl, nq, rfl⟩

def cutA (A : Option Addr) (c k : Nat) : Option Addr := if c = k then A else A.map (·.add k)

theorem next_at (g : Nat) (A : Option Addr) (c : Nat) (l : List UInt8) (k n : Nat) (w : World) (h : RdAt w g A c l k .nilIface) (hn : k + n ≤ l.length) :
    Calls Tryd.prog 54 #[.pointer (some ⟨g, 0, none⟩), .int .i64 n] w fun e w' =>
      e = .returned (.slice (cutA A c k) n (c - k)) ∧ ∃ m, w' = (w.drewN m).setCell ⟨g, 1, none⟩ (.int .i64 (k + n : Nat)) := by
  obtain ⟨h0, h1, h2, f1, f2⟩ := h.cells
  have hl : l.length ≤ 9223372036854775807 := by have a := h.1; have b := h.2.1; unfold maxLen at b; omega
  have hc : l.length ≤ c := h.1
  have hd : decide ((n : Int) ≤ (l.length : Int) - k) = true := by simp; omega
  go_enter Tryd.func54, Tryd.ntmps54
  go_wp2_with (first
    | (go_at_call 55; refine (left_at g A c l k _ _ h (by omega)).mono ?_; rintro e w' ⟨rfl, n1, rfl⟩)
    | (go_at_call 41; refine (must_true _ _ _).mono ?_; rintro e w' ⟨rfl, rfl⟩))
  have hw : IntKind.i64.wrap ((k : Int) + n) = (k : Int) + n := IntWalk.i64_in _ (by omega)
  have p1 : 0 ≤ (k : Int) + n := by omega
  have p2 : (k : Int) + n ≤ c := by omega
  have p3 : (k : Int) ≤ (k : Int) + n := by omega
  go_quiet (fail)
  clear hw p1 p2 p3
  go_wp2
  all_goals
    go_ret
    refine ⟨by simp_all [cutA], n1 + nq, ?_⟩
    simp

/-- what a cut of the reader's bytes reads as -/
theorem RdAt.cut {w : World} {g c k : Nat} {A : Option Addr} {l : List UInt8} {e : Value} (h : RdAt w g A c l k e) (n : Nat) (hn : k + n ≤ l.length) :
    Bs w g (cutA A c k) ((l.take (k + n)).drop k) ∧ ((l.take (k + n)).drop k).length = n := by
  have hlen : ((l.take (k + n)).drop k).length = n := by simp; omega
  refine ⟨fun hp => ?_, hlen⟩
  rw [hlen] at hp
  have hc := h.1
  obtain ⟨b, o, rfl, _⟩ := h.2.2.2 (by omega)
  rw [cutA, if_neg (by omega)]
  have h2 := h.2.2.2.cut k (k + n) hn
  rw [← hlen] at hp
  simpa [Addr.add_lit] using h2 hp

def NumPost (w : World) (g : Nat) (l : List UInt8) (k s : Nat) (e : Ending) (w' : World) : Prop :=
  e = .returned (.int .u64 (leN ((l.take (k + s)).drop k))) ∧ Rd w' g l (k + s) .nilIface ∧ w.grownBy w' (some g)

theorem num_at (g : Nat) (l : List UInt8) (k s : Nat) (w : World) (h : Rd w g l k .nilIface) (h1 : 1 ≤ s) (h8 : s ≤ 8) (hn : k + s ≤ l.length) :
    Calls Tryd.prog 39 #[.pointer (some ⟨g, 0, none⟩), .int .i64 s] w (NumPost w g l k s) := by
  obtain ⟨A, c, h⟩ := h
  obtain ⟨hcut, hlen⟩ := h.cut s hn
  have hnext := Lib.hid (next_at g A c l k s w h hn)
  have hget := fun (w' : World) (hb : Bs w' g (cutA A c k) ((l.take (k + s)).drop k)) => get_yes _ _ (c - k) g w' hb (by omega) (by omega)
  rw [hlen] at hget
  have HG := Lib.hid hget
  have HL := Lib.hid hlen
  clear hget hlen
  have hs : 0 ≤ (s : Int) := by omega
  go_enter Tryd.func39, Tryd.ntmps39
  go_wp2_with (first
    | (go_at_call 51; refine (isSize_yes _ _ (by omega) (by omega)).mono ?_; rintro e w' ⟨rfl, rfl⟩)
    | (go_at_call 41; refine (must_true _ _ _).mono ?_; rintro e w' ⟨rfl, rfl⟩)
    | (go_at_call 54; refine (hnext.out).mono ?_; rintro e w' ⟨rfl, m, rfl⟩)
    | (go_at_call 53; refine (HG.out _ ((hcut.drewN m).setCell (Nat.le_refl _) _)).mono ?_; rintro e w' ⟨rfl, rfl⟩))
  go_ret
  refine ⟨rfl, ⟨A, c, ?_⟩, only_setCell (only_drewN (only_refl _ _) m) (.inl rfl) _⟩
  simpa using RdAt.put (w := w.drewN m) h (k + s)

theorem cut_one {l : List UInt8} {k n : Nat} (h : l[k]? = some (UInt8.ofNat n)) (hn : n ≤ 255) : leN ((l.take (k + 1)).drop k) = n := by
  obtain ⟨hk, e⟩ := List.getElem?_eq_some_iff.1 h
  have e1 : (l.take (k + 1)).drop k = [UInt8.ofNat n] := by
    rw [List.take_succ_eq_append_getElem hk, List.drop_append, List.drop_of_length_le (by simp only [List.length_take]; omega), e]
    simp [Nat.min_eq_left (Nat.le_of_lt hk)]
  rw [e1]
  simp only [leN, UInt8.toNat_ofNat']
  omega

def TextPost (w : World) (g : Nat) (l : List UInt8) (k n : Nat) (e : Ending) (w' : World) : Prop :=
  e = .returned (.string ⟨((l.take (k + n)).drop k).toArray⟩) ∧ Rd w' g l (k + n) .nilIface ∧ w.grownBy w' (some g)

def BytesPost (w : World) (g : Nat) (l : List UInt8) (k n : Nat) (e : Ending) (w' : World) : Prop :=
  ∃ v, e = .returned v ∧ Own w' w.heap.size 5 v ((l.take (k + n)).drop k) ∧ Rd w' g l (k + n) .nilIface ∧ w.grownBy w' (some g)

theorem end_nil (g : Nat) (l : List UInt8) (w : World) (h : Rd w g l l.length .nilIface) :
    Calls Tryd.prog 42 #[.pointer (some ⟨g, 0, none⟩)] w fun e w' => e = .returned .nilIface ∧ ∃ n, w' = w.drewN n := by
  obtain ⟨A, c, h⟩ := h
  obtain ⟨h0, h1, h2, f1, f2⟩ := h.cells
  have hleft := fun (w' : World) h => left_at g A c l l.length .nilIface w' h (Nat.le_refl _)
  have e0 : (l.length : Int) - (l.length : Nat) = 0 := by omega
  rw [e0] at hleft
  have HLft := Lib.hid hleft
  have H := Lib.hid h
  clear hleft h e0
  go_enter Tryd.func42, Tryd.ntmps42
  go_wp2_with (go_at_call 55; refine (HLft.out _ H.out).mono ?_; rintro e w' ⟨rfl, n1, rfl⟩)
  go_ret
  exact ⟨rfl, n1, rfl⟩

theorem end_extra (g k : Nat) (l : List UInt8) (w : World) (h : Rd w g l k .nilIface) (hk : k < l.length) :
    Calls Tryd.prog 42 #[.pointer (some ⟨g, 0, none⟩)] w fun e w' => ∃ n, e = .returned (.iface 85 (.pointer (some ⟨w.heap.size, 0, none⟩))) ∧ w' = (w.drewN n).alloc (.cells #[.int .i64 7, .int .i64 k, .nilIface] 88) := by
  obtain ⟨A, c, h⟩ := h
  obtain ⟨h0, h1, h2, f1, f2⟩ := h.cells
  have hleft := fun (w' : World) h => left_at g A c l k .nilIface w' h (Nat.le_of_lt hk)
  have HLft := Lib.hid hleft
  have H := Lib.hid h
  have hd : decide (0 < (l.length : Int) - k) = true := by simp; omega
  clear hleft h
  go_enter Tryd.func42, Tryd.ntmps42
  go_wp2_with (first
    | (go_at_call 55; refine (HLft.out _ H.out).mono ?_; rintro e w' ⟨rfl, n1, rfl⟩)
    | (go_at_call 29; refine (new_some 7 k _ (by decide)).mono ?_; rintro e w' ⟨rfl, rfl⟩))
  go_ret
  exact ⟨n1, rfl, rfl⟩

def ReadPost (w : World) (l : List UInt8) (e : Ending) (w' : World) : Prop :=
  ∃ g, e = .returned (.pointer (some ⟨g, 0, none⟩)) ∧ w.heap.size ≤ g ∧ Rd w' g l 0 .nilIface ∧ Below w.heap.size w w'

theorem read_any (A : Option Addr) (l : List UInt8) (c B : Nat) (w : World) (hb : Bs w B A l) (hB : B ≤ w.heap.size) (hl : l.length ≤ 140737488355328) :
    Calls Tryd.prog 38 #[.slice A l.length c] w (ReadPost w l) := by
  have hclone := Lib.hid (clone_any A l c B w hb hB hl)
  clear hl
  go_enter Tryd.func38, Tryd.ntmps38
  go_wp2_with (go_at_call 52; refine (hclone.out).mono ?_; rintro e w1 ⟨v, rfl, hown, hbel⟩; obtain ⟨A1, c1, rfl, hc1, hc2, hbs, _⟩ := hown.slice_cap)
  go_ret
  exact ⟨w1.heap.size, rfl, hbel.size, ⟨A1, c1, hc1, hc2, Blk.new _ _ _, hbs.alloc (Nat.le_refl _) _⟩, hbel.alloc hbel.size _⟩
end Go.Proofs.YthgiehlfmdobkaaDoor
