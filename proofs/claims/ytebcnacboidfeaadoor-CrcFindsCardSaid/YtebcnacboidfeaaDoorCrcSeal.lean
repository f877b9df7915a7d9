/-
  Package crc's Seal and Open, by their contracts. Conditions: the table reads as the program's text lays it; each theorem's own premises.
-/
import Derived.Test.YtebcnacboidfeaaDoorCrcFns
import Derived.Test.YtebcnacboidfeaaDoorConcat
import Derived.BigQuiet
namespace Go.Proofs.YtebcnacboidfeaaDoor
open Go.RowKit

set_option maxRecDepth 100000 in
set_option maxHeartbeats 1000000 in
theorem seal_any (A : Option Addr) (l : List UInt8) (c B : Nat) (w : World) (hb : Bs w B A l) (hB : B ≤ w.heap.size) (ht : Tab w) (hl : l.length + 4 ≤ 140737488355328) :
    Calls Tryd.prog 16 #[.slice A l.length c] w (OwnPost w (sealed l)) := by
  have hof := Lib.hid (of_any A l c B w hb ht (by omega))
  obtain ⟨x, ex⟩ : ∃ x, crc l = x := ⟨_, rfl⟩
  have hx : x < 4294967296 := ex ▸ crc_lt l
  have es : sealed l = l ++ leB x 4 := by rw [← ex]; rfl
  rw [ex] at hof
  rw [es]
  have HE := Lib.hid ex
  clear es ex
  have hput := Lib.hid (put_yes x 4 w (by omega) (by omega) (by omega))
  have e4 : (leB x 4).length = 4 := leB_length x 4
  go_enter Tryd.func16, Tryd.ntmps16
  go_wp2_with (first
    | (go_at_call 12; refine (hof.out).mono ?_; rintro e w' ⟨rfl, rfl⟩)
    | (go_at_call 22; refine (hput.out).mono ?_; intro e w1 hp; obtain ⟨rfl, hbs, hbel⟩ := hp.bs (by decide))
    | (go_at_call 21
       have hlt := hbel.size
       have hcat := concat_two w1.heap.size A (some ⟨w.heap.size, 0, none⟩) l (leB x 4) c 4 w1.heap.size (w1.alloc (.cells #[.slice A l.length c, .slice (some ⟨w.heap.size, 0, none⟩) 4 4] 23)) (by simp) (by rw [e4]; simp) (((hb.more hB).below hbel).more hbel.size |>.alloc (Nat.le_refl _) _) (hbs.alloc (Nat.le_refl _) _) (by simp) (by omega) (by omega)
       refine hcat.mono ?_
       rintro e w2 ⟨v, rfl, hown, hbel2⟩))
  go_ret
  exact ⟨v, rfl, hown.mono (by simp; omega), hbel.trans ((((Below.refl _ _).alloc (Nat.le_refl _) _).trans (hbel2.mono (by simp))).mono hbel.size)⟩

theorem lt_four_no {n : Nat} (h : n < 4) : ((n : Nat) : Int) < 4 := by omega
set_option maxRecDepth 100000 in
set_option maxHeartbeats 1000000 in
theorem open_short (A : Option Addr) (n c : Nat) (w : World) (h : n < 4) :
    Calls Tryd.prog 14 #[.slice A n c] w fun e w' => e = .returned (.tuple #[.slice none 0 0, .int .i64 2]) ∧ w = w' := by
  have h' := lt_four_no h
  go_enter Tryd.func14, Tryd.ntmps14
  go_wp2
  go_ret2
  exact ⟨rfl, rfl⟩

set_option maxRecDepth 100000 in
set_option maxHeartbeats 1000000 in
theorem open_yes (A : Option Addr) (l : List UInt8) (p c B : Nat) (w : World) (hp : l.length = p + 4) (hb : Bs w B A l) (hB : B ≤ w.heap.size) (ht : Tab w) (hl : l.length ≤ 140737488355328) (hc : l.length ≤ c) (ho : opens l) :
    Calls Tryd.prog 14 #[.slice A (p + 4) c] w fun e w' => ∃ v, e = .returned (.tuple #[v, .int .i64 0]) ∧ Own w' w.heap.size 5 v (l.take p) ∧ Below w.heap.size w w' := by
  obtain ⟨b, o, rfl, hbB, hz⟩ := hb.at_ (show 0 < l.length by omega)
  have hb1 : Bs w B (some ⟨b, o, none⟩) (l.take p) := by simpa using hb.cut 0 p (by omega)
  have hb2 : Bs w B (some ⟨b, o + p, none⟩) (l.drop p) := by
    have := hb.cut p l.length (Nat.le_refl _)
    rwa [List.take_length] at this
  have e1 : (l.take p).length = p := by rw [List.length_take]; omega
  have e2 : (l.drop p).length = 4 := by rw [List.length_drop]; omega
  have hget := fun n => get_yes (some ⟨b, o + p, none⟩) (l.drop p) (c - p) B (w.drewN n) (hb2.drewN n) (by omega) (by omega)
  have hof := fun n => of_any (some ⟨b, o, none⟩) (l.take p) c B (w.drewN n) (hb1.drewN n) ht (by omega)
  have hcl := fun n => clone_any (some ⟨b, o, none⟩) (l.take p) c B (w.drewN n) (hb1.drewN n) hB (by omega)
  rw [e2] at hget
  rw [e1] at hof hcl
  have ho' : leN (l.drop p) = crc (l.take p) := by
    have := ho
    unfold opens at this
    rwa [hp, Nat.add_sub_cancel] at this
  have hx : crc (l.take p) < 4294967296 := crc_lt _
  rw [ho'] at hget
  obtain ⟨x, ex⟩ : ∃ x, crc (l.take p) = x := ⟨_, rfl⟩
  rw [ex] at hget hof hx
  have hget := Lib.hid hget
  have hof := Lib.hid hof
  have hcl := Lib.hid hcl
  have hpc : p + 4 ≤ c := by omega
  have hp2 : (p : Int) ≤ 140737488355328 := by omega
  have h4 : ¬ ((p : Int) + 4 < 4) := by omega
  clear hz hb hb1 hb2 ho ho' ex e1 e2 hl hc
  go_enter Tryd.func14, Tryd.ntmps14
  go_wp2
  go_quiet (fail)
  rename_i nq
  go_wp2_with (first
    | (go_at_call 19; refine (hget.out nq).mono ?_; rintro e w' ⟨rfl, rfl⟩)
    | (go_at_call 12; refine (hof.out nq).mono ?_; rintro e w' ⟨rfl, rfl⟩)
    | (go_at_call 20; refine (hcl.out nq).mono ?_; rintro e w' ⟨v, rfl, hown, hbel⟩))
  go_ret2
  exact ⟨v, rfl, hown, (below_drewN (Below.refl _ w) nq).trans hbel⟩

set_option maxRecDepth 100000 in
set_option maxHeartbeats 1000000 in
theorem open_no (A : Option Addr) (l : List UInt8) (p c B : Nat) (w : World) (hp : l.length = p + 4) (hb : Bs w B A l) (ht : Tab w) (hl : l.length ≤ 140737488355328) (hc : l.length ≤ c) (ho : ¬ opens l) :
    Calls Tryd.prog 14 #[.slice A (p + 4) c] w fun e w' => e = .returned (.tuple #[.slice none 0 0, .int .i64 8]) ∧ Below w.heap.size w w' := by
  obtain ⟨b, o, rfl, hbB, hz⟩ := hb.at_ (show 0 < l.length by omega)
  have hb1 : Bs w B (some ⟨b, o, none⟩) (l.take p) := by simpa using hb.cut 0 p (by omega)
  have hb2 : Bs w B (some ⟨b, o + p, none⟩) (l.drop p) := by
    have := hb.cut p l.length (Nat.le_refl _)
    rwa [List.take_length] at this
  have e1 : (l.take p).length = p := by rw [List.length_take]; omega
  have e2 : (l.drop p).length = 4 := by rw [List.length_drop]; omega
  have hget := fun n => get_yes (some ⟨b, o + p, none⟩) (l.drop p) (c - p) B (w.drewN n) (hb2.drewN n) (by omega) (by omega)
  have hof := fun n => of_any (some ⟨b, o, none⟩) (l.take p) c B (w.drewN n) (hb1.drewN n) ht (by omega)
  rw [e2] at hget
  rw [e1] at hof
  have ho' : ¬ leN (l.drop p) = crc (l.take p) := by
    have := ho
    unfold opens at this
    rwa [hp, Nat.add_sub_cancel] at this
  have hx : crc (l.take p) < 4294967296 := crc_lt _
  obtain ⟨x, ex⟩ : ∃ x, crc (l.take p) = x := ⟨_, rfl⟩
  obtain ⟨y, ey⟩ : ∃ y, leN (l.drop p) = y := ⟨_, rfl⟩
  rw [ex] at hof hx ho'
  rw [ey] at hget ho'
  have hget := Lib.hid hget
  have hof := Lib.hid hof
  have hpc : p + 4 ≤ c := by omega
  have hp2 : (p : Int) ≤ 140737488355328 := by omega
  have h4 : ¬ ((p : Int) + 4 < 4) := by omega
  have hne : ¬ (y : Int) = (x : Int) := by omega
  clear hz hb hb1 hb2 ho ho' ex ey e1 e2 hl hc
  go_enter Tryd.func14, Tryd.ntmps14
  go_wp2
  go_quiet (fail)
  rename_i nq
  go_wp2_with (first
    | (go_at_call 19; refine (hget.out nq).mono ?_; rintro e w' ⟨rfl, rfl⟩)
    | (go_at_call 12; refine (hof.out nq).mono ?_; rintro e w' ⟨rfl, rfl⟩))
  go_ret2
  exact ⟨rfl, below_drewN (Below.refl _ w) nq⟩
end Go.Proofs.YtebcnacboidfeaaDoor
