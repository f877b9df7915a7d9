/-
  Package octet's Reader, by the contracts of its methods where nothing fails, and of End where bytes are left. Conditions: each theorem's own premises.
-/
import Derived.Test.YthfmacmchiidlaaDoorOctetMk
import Derived.Test.YthfmacmchiidlaaDoorFaultFns
import Derived.Deep.QuietTactic
import Derived.BigQuiet
import Derived.RegionTactic
import Derived.IntWalk
namespace Go.Proofs.YthfmacmchiidlaaDoor
open Go.RowKit

/-- a reader at block g: its bytes l, its offset k, its failure e -/
def RdAt (w : World) (g : Nat) (A : Option Addr) (c : Nat) (l : List UInt8) (k : Nat) (e : Value) : Prop :=
  l.length ≤ c ∧ c ≤ maxLen ∧ Blk w g 54 #[.slice A l.length c, .int .i64 k, e] ∧ Bs w g A l
def Rd (w : World) (g : Nat) (l : List UInt8) (k : Nat) (e : Value) : Prop := ∃ A c, RdAt w g A c l k e
section
variable {w w' : World} {g k c B : Nat} {A : Option Addr} {l : List UInt8} {e : Value}
theorem RdAt.below (h : RdAt w g A c l k e) (hb : Below B w w') (hg : g < B) : RdAt w' g A c l k e :=
  ⟨h.1, h.2.1, h.2.2.1.below hb hg, h.2.2.2.keep fun p hp => hb.cell (p := p) (by omega)⟩
theorem Rd.below (h : Rd w g l k e) (hb : Below B w w') (hg : g < B) : Rd w' g l k e := by
  obtain ⟨A, c, h⟩ := h
  exact ⟨A, c, h.below hb hg⟩
theorem Rd.lt (h : Rd w g l k e) : g < w.heap.size := by
  obtain ⟨A, c, h⟩ := h
  exact h.2.2.1.lt
theorem RdAt.put (h : RdAt w g A c l k e) (k' : Nat) : RdAt (w.setCell ⟨g, 1, none⟩ (.int .i64 k')) g A c l k' e :=
  ⟨h.1, h.2.1, by simpa using h.2.2.1.set_ 1 (.int .i64 k'), h.2.2.2.setCell (Nat.le_refl _) _⟩
theorem RdAt.cells (h : RdAt w g A c l k e) : w.cell? ⟨g, 0, none⟩ = some (.slice A l.length c) ∧ w.cell? ⟨g, 1, none⟩ = some (.int .i64 k) ∧ w.cell? ⟨g, 2, none⟩ = some e ∧ w.frozen? ⟨g, 1, none⟩ = false ∧ w.frozen? ⟨g, 2, none⟩ = false :=
  ⟨h.2.2.1.cell 0, h.2.2.1.cell 1, h.2.2.1.cell 2, h.2.2.1.frozen 1, h.2.2.1.frozen 2⟩
end

theorem must_true (r : Value) (c : Int) (w : World) :
    Calls Tryd.prog 26 #[r, .bool true, .int .i64 c] w fun e w' => e = .returned (.tuple #[]) ∧ w = w' := by
  go_enter Tryd.func26, Tryd.ntmps26
  go_wp2
  exact bodyPost_ret (results_none rfl _ _ _) rfl ⟨rfl, rfl⟩

theorem left_at (g : Nat) (A : Option Addr) (c : Nat) (l : List UInt8) (k : Nat) (ev : Value) (w : World) (h : RdAt w g A c l k ev) (hk : k ≤ l.length) :
    Calls Tryd.prog 20 #[.pointer (some ⟨g, 0, none⟩)] w fun e w' => e = .returned (.int .i64 ((l.length : Int) - k)) ∧ ∃ n, w' = w.drewN n := by
  obtain ⟨h0, h1, h2, f1, f2⟩ := h.cells
  have hl : l.length ≤ 9223372036854775807 := by have a := h.1; have b := h.2.1; unfold maxLen at b; omega
  clear h
  go_enter Tryd.func20, Tryd.ntmps20
  go_wp2
  go_quiet (fail)
  go_wp2
  go_ret
  exact ⟨rfl, nq, rfl⟩

def cutA (A : Option Addr) (c k : Nat) : Option Addr := if c = k then A else A.map (·.add k)

theorem next_at (g : Nat) (A : Option Addr) (c : Nat) (l : List UInt8) (k n : Nat) (w : World) (h : RdAt w g A c l k .nilIface) (hn : k + n ≤ l.length) :
    Calls Tryd.prog 28 #[.pointer (some ⟨g, 0, none⟩), .int .i64 n] w fun e w' =>
      e = .returned (.slice (cutA A c k) n (c - k)) ∧ ∃ m, w' = (w.drewN m).setCell ⟨g, 1, none⟩ (.int .i64 (k + n : Nat)) := by
  obtain ⟨h0, h1, h2, f1, f2⟩ := h.cells
  have hl : l.length ≤ 9223372036854775807 := by have a := h.1; have b := h.2.1; unfold maxLen at b; omega
  have hc : l.length ≤ c := h.1
  have hd : decide ((n : Int) ≤ (l.length : Int) - k) = true := by simp; omega
  go_enter Tryd.func28, Tryd.ntmps28
  go_wp2_with (first
    | (go_at_call 20; refine (left_at g A c l k _ _ h (by omega)).mono ?_; rintro e w' ⟨rfl, n1, rfl⟩)
    | (go_at_call 26; refine (must_true _ _ _).mono ?_; rintro e w' ⟨rfl, rfl⟩))
  have hw : IntKind.i64.wrap ((k : Int) + n) = (k : Int) + n := IntWalk.i64_in _ (by omega)
  have p1 : 0 ≤ (k : Int) + n := by omega
  have p2 : (k : Int) + n ≤ c := by omega
  have p3 : (k : Int) ≤ (k : Int) + n := by omega
  go_quiet (fail)
  clear hw p1 p2 p3
  go_wp2
  all_goals
    go_ret
    refine ⟨by simp_all [cutA], n1 + nq, ?_⟩
    simp

/-- what a cut of the reader's bytes reads as -/
theorem RdAt.cut {w : World} {g c k : Nat} {A : Option Addr} {l : List UInt8} {e : Value} (h : RdAt w g A c l k e) (n : Nat) (hn : k + n ≤ l.length) :
    Bs w g (cutA A c k) ((l.take (k + n)).drop k) ∧ ((l.take (k + n)).drop k).length = n := by
  have hlen : ((l.take (k + n)).drop k).length = n := by simp; omega
  refine ⟨fun hp => ?_, hlen⟩
  rw [hlen] at hp
  have hc := h.1
  obtain ⟨b, o, rfl, _⟩ := h.2.2.2 (by omega)
  rw [cutA, if_neg (by omega)]
  have h2 := h.2.2.2.cut k (k + n) hn
  rw [← hlen] at hp
  simpa [Addr.add_lit] using h2 hp

def NumPost (w : World) (g : Nat) (l : List UInt8) (k s : Nat) (e : Ending) (w' : World) : Prop :=
  e = .returned (.int .u64 (leN ((l.take (k + s)).drop k))) ∧ Rd w' g l (k + s) .nilIface ∧ w.grownBy w' (some g)

theorem num_at (g : Nat) (l : List UInt8) (k s : Nat) (w : World) (h : Rd w g l k .nilIface) (h1 : 1 ≤ s) (h8 : s ≤ 8) (hn : k + s ≤ l.length) :
    Calls Tryd.prog 18 #[.pointer (some ⟨g, 0, none⟩), .int .i64 s] w (NumPost w g l k s) := by
  obtain ⟨A, c, h⟩ := h
  obtain ⟨hcut, hlen⟩ := h.cut s hn
  have hnext := Lib.hid (next_at g A c l k s w h hn)
  have hget := fun (w' : World) (hb : Bs w' g (cutA A c k) ((l.take (k + s)).drop k)) => get_yes _ _ (c - k) g w' hb (by omega) (by omega)
  rw [hlen] at hget
  have HG := Lib.hid hget
  have HL := Lib.hid hlen
  clear hget hlen
  have hs : 0 ≤ (s : Int) := by omega
  go_enter Tryd.func18, Tryd.ntmps18
  go_wp2_with (first
    | (go_at_call 24; refine (isSize_yes _ _ (by omega) (by omega)).mono ?_; rintro e w' ⟨rfl, rfl⟩)
    | (go_at_call 26; refine (must_true _ _ _).mono ?_; rintro e w' ⟨rfl, rfl⟩)
    | (go_at_call 28; refine (hnext.out).mono ?_; rintro e w' ⟨rfl, m, rfl⟩)
    | (go_at_call 14; refine (HG.out _ ((hcut.drewN m).setCell (Nat.le_refl _) _)).mono ?_; rintro e w' ⟨rfl, rfl⟩))
  go_ret
  refine ⟨rfl, ⟨A, c, ?_⟩, only_setCell (only_drewN (only_refl _ _) m) (.inl rfl) _⟩
  simpa using RdAt.put (w := w.drewN m) h (k + s)

theorem holdsText_at (g : Nat) (A : Option Addr) (c : Nat) (l : List UInt8) (k : Nat) (w : World) (h : RdAt w g A c l k .nilIface) (hk : k < l.length) (hn : k + 1 + l[k].toNat ≤ l.length) :
    Calls Tryd.prog 27 #[.pointer (some ⟨g, 0, none⟩)] w fun e w' => e = .returned (.bool true) ∧ ∃ n, w' = w.drewN n := by
  obtain ⟨h0, h1, h2, f1, f2⟩ := h.cells
  have hl : l.length ≤ 9223372036854775807 := by have a := h.1; have b := h.2.1; unfold maxLen at b; omega
  have hc : l.length ≤ c := h.1
  obtain ⟨b, o, rfl, _, hcell⟩ := h.2.2.2.at_ hk
  have hck : ¬ c = k := by omega
  have p1 : 0 ≤ (k : Int) := by omega
  have p2 : (k : Int) ≤ l.length := by omega
  have p3 : 0 < l.length - k := by omega
  have p4 : ((l[k].toNat : Nat) : Int) < ((l.length - k : Nat) : Int) := by omega
  clear h
  go_enter Tryd.func27, Tryd.ntmps27
  go_wp2
  go_quiet (fail)
  go_wp2
  go_ret
  exact ⟨rfl, nq, rfl⟩

theorem cut_one {l : List UInt8} {k n : Nat} (h : l[k]? = some (UInt8.ofNat n)) (hn : n ≤ 255) : leN ((l.take (k + 1)).drop k) = n := by
  obtain ⟨hk, e⟩ := List.getElem?_eq_some_iff.1 h
  have e1 : (l.take (k + 1)).drop k = [UInt8.ofNat n] := by
    rw [List.take_succ_eq_append_getElem hk, List.drop_append, List.drop_of_length_le (by simp only [List.length_take]; omega), e]
    simp [Nat.min_eq_left (Nat.le_of_lt hk)]
  rw [e1]
  simp only [leN, UInt8.toNat_ofNat']
  omega

def TextPost (w : World) (g : Nat) (l : List UInt8) (k n : Nat) (e : Ending) (w' : World) : Prop :=
  e = .returned (.string ⟨((l.take (k + n)).drop k).toArray⟩) ∧ Rd w' g l (k + n) .nilIface ∧ w.grownBy w' (some g)

set_option maxRecDepth 100000 in
set_option maxHeartbeats 1000000 in
theorem text_at (g : Nat) (l : List UInt8) (k n : Nat) (w : World) (h : Rd w g l k .nilIface) (hn : n ≤ 255) (hb : l[k]? = some (UInt8.ofNat n)) (hle : k + 1 + n ≤ l.length) :
    Calls Tryd.prog 17 #[.pointer (some ⟨g, 0, none⟩)] w (TextPost w g l (k + 1) n) := by
  obtain ⟨hk, ek⟩ := List.getElem?_eq_some_iff.1 hb
  have e1 : l[k].toNat = n := by rw [ek, UInt8.toNat_ofNat']; omega
  have hholds : ∀ w', Rd w' g l k .nilIface → Calls Tryd.prog 27 #[.pointer (some ⟨g, 0, none⟩)] w' fun e w'' => e = .returned (.bool true) ∧ ∃ n, w'' = w'.drewN n := fun w' ⟨A, c, h⟩ => holdsText_at g A c l k w' h hk (by omega)
  have hnum : ∀ w', Rd w' g l k .nilIface → Calls Tryd.prog 18 #[.pointer (some ⟨g, 0, none⟩), .int .i64 1] w' fun e w'' => e = .returned (.int .u64 n) ∧ Rd w'' g l (k + 1) .nilIface ∧ w'.grownBy w'' (some g) := fun w' h => (num_at g l k 1 w' h (by omega) (by omega) (by omega)).mono fun e w'' hp => by rw [NumPost, cut_one hb hn] at hp; exact hp
  have HH := Lib.hid hholds
  have HN := Lib.hid hnum
  have H := Lib.hid h
  have hlen : ((l.take (k + 1 + n)).drop (k + 1)).length = n := by simp; omega
  have HL := Lib.hid hlen
  clear hholds hnum h hb hlen e1 ek
  go_enter Tryd.func17, Tryd.ntmps17
  go_wp2_with (first
    | (go_at_call 27; refine (HH.out _ H.out).mono ?_; rintro e w' ⟨rfl, m, rfl⟩)
    | (go_at_call 26; refine (must_true _ _ _).mono ?_; rintro e w' ⟨rfl, rfl⟩)
    | (go_at_call 18; refine (HN.out (w.drewN m) H.out).mono ?_; rintro e w1 ⟨rfl, hr1, hg1⟩; obtain ⟨A, c, hr2⟩ := hr1; have HR := Lib.hid hr2; clear hr2)
    | (go_at_call 28; refine (next_at g A c l (k + 1) n _ HR.out (by omega)).mono ?_; rintro e w' ⟨rfl, m2, rfl⟩
       have kc := ((((HR.out.cut n (by omega)).1).drewN m2).setCell (p := ⟨g, 1, none⟩) (Nat.le_refl _) (.int .i64 (k + 1 + n : Nat))).str (P := Tryd.prog) Tryd.underlying25 Tryd.underlying5 (c - (k + 1)) 9 Tryd.underlying9; rw [HL.out] at kc; push_cast at kc))
  go_ret
  refine ⟨rfl, ⟨A, c, ?_⟩, ?_⟩
  · simpa using RdAt.put (w := w1.drewN m2) HR.out (k + 1 + n)
  · exact only_setCell (only_drewN (only_trans (only_drewN (only_refl _ _) m) hg1) m2) (.inl rfl) _

def BytesPost (w : World) (g : Nat) (l : List UInt8) (k n : Nat) (e : Ending) (w' : World) : Prop :=
  ∃ v, e = .returned v ∧ Own w' w.heap.size 5 v ((l.take (k + n)).drop k) ∧ Rd w' g l (k + n) .nilIface ∧ w.grownBy w' (some g)

set_option maxHeartbeats 1000000 in
theorem bytes_at (g : Nat) (l : List UInt8) (k n : Nat) (w : World) (h : Rd w g l k .nilIface) (hle : k + n ≤ l.length) (hl : l.length ≤ 140737488355328) :
    Calls Tryd.prog 22 #[.pointer (some ⟨g, 0, none⟩), .int .i64 n] w (BytesPost w g l k n) := by
  obtain ⟨A, c, h⟩ := h
  have hlt := h.2.2.1.lt
  obtain ⟨hcut, hlen⟩ := h.cut n hle
  have hclone := fun (w' : World) (hb : Bs w' g (cutA A c k) ((l.take (k + n)).drop k)) (hg : g ≤ w'.heap.size) => clone_any _ _ (c - k) g w' hb hg (by rw [hlen]; omega)
  rw [hlen] at hclone
  have HC := Lib.hid hclone
  have H := Lib.hid h
  clear hclone hlen hl h
  have hp : 0 ≤ (n : Int) := by omega
  go_enter Tryd.func22, Tryd.ntmps22
  go_wp2_with (first
    | (go_at_call 26; refine (must_true _ _ _).mono ?_; rintro e w' ⟨rfl, rfl⟩)
    | (go_at_call 28; refine (next_at g A c l k n _ H.out hle).mono ?_; rintro e w' ⟨rfl, m, rfl⟩)
    | (go_at_call 25; refine (HC.out _ ((hcut.drewN m).setCell (Nat.le_refl _) _) (by simp [World.setCell]; omega)).mono ?_; rintro e w1 ⟨v, rfl, hown, hbel⟩))
  go_ret
  rw [← Int.natCast_add] at hown hbel
  refine ⟨v, rfl, hown.mono (by simp [World.setCell]), ⟨A, c, (RdAt.put (w := w.drewN m) H.out (k + n)).below hbel (by simp [World.setCell]; exact hlt)⟩, ?_⟩
  exact only_trans (only_setCell (only_drewN (only_refl _ _) m) (.inl rfl) _) (only_of_below hbel _)

theorem at_any (g k : Nat) (l : List UInt8) (e : Value) (w : World) (h : Rd w g l k e) :
    Calls Tryd.prog 21 #[.pointer (some ⟨g, 0, none⟩)] w fun e w' => e = .returned (.int .i64 k) ∧ w = w' := by
  obtain ⟨A, c, h⟩ := h
  obtain ⟨h0, h1, h2, f1, f2⟩ := h.cells
  clear h
  go_enter Tryd.func21, Tryd.ntmps21
  go_wp2
  go_ret
  exact ⟨rfl, rfl⟩

theorem end_nil (g : Nat) (l : List UInt8) (w : World) (h : Rd w g l l.length .nilIface) :
    Calls Tryd.prog 19 #[.pointer (some ⟨g, 0, none⟩)] w fun e w' => e = .returned .nilIface ∧ ∃ n, w' = w.drewN n := by
  obtain ⟨A, c, h⟩ := h
  obtain ⟨h0, h1, h2, f1, f2⟩ := h.cells
  have hleft := fun (w' : World) h => left_at g A c l l.length .nilIface w' h (Nat.le_refl _)
  have e0 : (l.length : Int) - (l.length : Nat) = 0 := by omega
  rw [e0] at hleft
  have HLft := Lib.hid hleft
  have H := Lib.hid h
  clear hleft h e0
  go_enter Tryd.func19, Tryd.ntmps19
  go_wp2_with (go_at_call 20; refine (HLft.out _ H.out).mono ?_; rintro e w' ⟨rfl, n1, rfl⟩)
  go_ret
  exact ⟨rfl, n1, rfl⟩

theorem end_extra (g k : Nat) (l : List UInt8) (w : World) (h : Rd w g l k .nilIface) (hk : k < l.length) :
    Calls Tryd.prog 19 #[.pointer (some ⟨g, 0, none⟩)] w fun e w' => ∃ n, e = .returned (.iface 57 (.pointer (some ⟨w.heap.size, 0, none⟩))) ∧ w' = (w.drewN n).alloc (.cells #[.int .i64 7, .int .i64 k, .nilIface] 60) := by
  obtain ⟨A, c, h⟩ := h
  obtain ⟨h0, h1, h2, f1, f2⟩ := h.cells
  have hleft := fun (w' : World) h => left_at g A c l k .nilIface w' h (Nat.le_of_lt hk)
  have HLft := Lib.hid hleft
  have H := Lib.hid h
  have hd : decide (0 < (l.length : Int) - k) = true := by simp; omega
  clear hleft h
  go_enter Tryd.func19, Tryd.ntmps19
  go_wp2_with (first
    | (go_at_call 20; refine (HLft.out _ H.out).mono ?_; rintro e w' ⟨rfl, n1, rfl⟩)
    | (go_at_call 29; refine (new_some 7 k _ (by decide)).mono ?_; rintro e w' ⟨rfl, rfl⟩))
  go_ret
  exact ⟨n1, rfl, rfl⟩

def ReadPost (w : World) (l : List UInt8) (e : Ending) (w' : World) : Prop :=
  ∃ g, e = .returned (.pointer (some ⟨g, 0, none⟩)) ∧ w.heap.size ≤ g ∧ Rd w' g l 0 .nilIface ∧ Below w.heap.size w w'

theorem read_any (A : Option Addr) (l : List UInt8) (c B : Nat) (w : World) (hb : Bs w B A l) (hB : B ≤ w.heap.size) (hl : l.length ≤ 140737488355328) :
    Calls Tryd.prog 16 #[.slice A l.length c] w (ReadPost w l) := by
  have hclone := Lib.hid (clone_any A l c B w hb hB hl)
  clear hl
  go_enter Tryd.func16, Tryd.ntmps16
  go_wp2_with (go_at_call 25; refine (hclone.out).mono ?_; rintro e w1 ⟨v, rfl, hown, hbel⟩; obtain ⟨A1, c1, rfl, hc1, hc2, hbs, _⟩ := hown.slice_cap)
  go_ret
  exact ⟨w1.heap.size, rfl, hbel.size, ⟨A1, c1, hc1, hc2, Blk.new _ _ _, hbs.alloc (Nat.le_refl _) _⟩, hbel.alloc hbel.size _⟩
end Go.Proofs.YthfmacmchiidlaaDoor
