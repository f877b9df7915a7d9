/-
  The reference's Seal and Open, by their contracts. Conditions: each theorem's own premises.
-/
import Derived.Test.YtebcnacboidfeaaDoorCrcRef
import Derived.Test.YtebcnacboidfeaaDoorOctetRef
import Derived.Deep.RegionWith
namespace Go.Proofs.YtebcnacboidfeaaDoor
open Go.RowKit

set_option maxRecDepth 100000 in
set_option maxHeartbeats 1000000 in
theorem refSeal_any (A : Option Addr) (l : List UInt8) (c B : Nat) (w : World) (hb : Bs w B A l) (hB : B ≤ w.heap.size) (hl : l.length + 4 ≤ 140737488355328) :
    Calls Tryd.prog 17 #[.slice A l.length c] w (OwnPost w (sealed l)) := by
  obtain ⟨i0, hi0, hz0, hz1, hz2⟩ := info_parts u8info
  obtain ⟨x, ex⟩ : ∃ x, crc l = x := ⟨_, rfl⟩
  have hx : x < 4294967296 := ex ▸ crc_lt l
  have es : sealed l = l ++ leB x 4 := by rw [← ex]; rfl
  have hof := fun w' (h : Bs w' B A l) => refOf_any A l c B w' h (by omega)
  rw [ex] at hof
  have hof := Lib.hid hof
  rw [es]
  have HE := Lib.hid ex
  clear es ex
  have hput := fun w' => Lib.hid (refPut_yes x 4 w' (by omega) (by omega))
  have e4 : (leB x 4).length = 4 := leB_length x 4
  go_enter Tryd.func17, Tryd.ntmps17
  go_wp2_with (first
    | (at_builtin; refine wpList_append_bytes _ rfl (.tmp 3) (.tmp 4) 23 rfl w.heap.size 5 i0 (.int .u8 0) Tryd.underlying23 hi0 hz0 hz1 hz2 rfl (.slice (some ⟨w.heap.size, 0, none⟩) 0 0) [] rfl (Own.empty w _ _ (Nat.le_refl _)) B A c l rfl (hb.alloc hB _) (by simp; omega) (by simp) ?_
       intro v1 w1 hown1 hg1 _
       have hb1 : Below w.heap.size w w1 := ((Below.refl _ _).alloc (Nat.le_refl _) _).grown hg1 (by simp) (fun k hk => by simp [Value.ownBlock] at hk; subst hk; exact Nat.le_refl _))
    | (go_at_call 13; refine (hof.out w1 (hb.below (hb1.mono hB))).mono ?_; rintro e w' ⟨rfl, rfl⟩)
    | (go_at_call 23; refine ((hput w1).out).mono ?_; intro e w2 hp; obtain ⟨A2, c2, rfl, hbs2, hb2⟩ := hp.bs; rw [e4])
    | (at_builtin; refine wpList_append_bytes_n _ rfl (.tmp 5) (.tmp 9) 23 rfl w.heap.size 5 i0 (.int .u8 0) Tryd.underlying23 hi0 hz0 hz1 hz2 rfl v1 ([] ++ l) rfl (hown1.below hb2) w2.heap.size A2 c2 4 (leB x 4) e4 rfl hbs2 (by simp; omega) (Nat.le_trans hb1.size hb2.size) ?_
       intro v3 w3 hown3 hg3 _))
  go_ret
  rw [List.nil_append] at hown3
  have hb12 := hb1.trans (hb2.mono hb1.size)
  exact ⟨v3, rfl, hown3, hb12.grown hg3 hb12.size (fun k hk => (World.ownsRow.lt hown1 k hk).1)⟩

set_option maxRecDepth 100000 in
set_option maxHeartbeats 1000000 in
theorem refOpen_short (A : Option Addr) (n c : Nat) (w : World) (h : n < 4) :
    Calls Tryd.prog 15 #[.slice A n c] w fun e w' => e = .returned (.tuple #[.slice none 0 0, .int .i64 2]) ∧ w = w' := by
  have h' : (n : Int) < 4 := by omega
  go_enter Tryd.func15, Tryd.ntmps15
  go_wp2
  go_ret2
  exact ⟨rfl, rfl⟩

/-- what a conversion to a string gives, as long as the bytes stay -/
def Conv (P : Program) (t s : TypeId) (w : World) (v : Value) (l : List UInt8) : Prop := ∀ w', Below w.heap.size w w' → (convert t s v).run P w' = .ok (.string ⟨l.toArray⟩) w'
theorem Bs.conv {P : Program} {src e : TypeId} {w : World} {B n : Nat} {A : Option Addr} {l : List UInt8} (h : Bs w B A l) (hB : B ≤ w.heap.size) (hn : l.length = n) (hs : P.underlying src = some (.slice e)) (he : P.underlying e = some (.int .u8)) (c : Nat) (dst : TypeId) (hd : P.underlying dst = some .string) :
    Conv P src dst w (.slice A n c) l := fun _ hb => by
  subst hn
  exact (h.below (hb.mono hB)).str hs he c dst hd

set_option maxRecDepth 100000 in
set_option maxHeartbeats 4000000 in
theorem refOpen_yes (A : Option Addr) (l : List UInt8) (p c : Nat) (w : World) (hp : l.length = p + 4) (hb : Bs w w.heap.size A l) (hl : l.length ≤ 140737488355328) (hc : l.length ≤ c) (ho : opens l) :
    Calls Tryd.prog 15 #[.slice A (p + 4) c] w fun e w' => e = .returned (.tuple #[.slice A p c, .int .i64 0]) ∧ Below w.heap.size w w' := by
  obtain ⟨b, o, rfl, hbB, hz⟩ := hb.at_ (show 0 < l.length by omega)
  have hb1 : Bs w w.heap.size (some ⟨b, o, none⟩) (l.take p) := by simpa using hb.cut 0 p (by omega)
  have e1 : (l.take p).length = p := by rw [List.length_take]; omega
  have hsl : sealed (l.take p) = l := by
    have := (opens_seal (by omega)).1 ho
    rwa [hp, Nat.add_sub_cancel] at this
  have hseal := fun w' (h : Below w.heap.size w w') => refSeal_any (some ⟨b, o, none⟩) (l.take p) c w.heap.size w' (hb1.below h) h.size (by omega)
  rw [e1, hsl] at hseal
  have HS := Lib.hid hseal
  have HC : Conv Tryd.prog 23 9 w (.slice (some ⟨b, o, none⟩) (p + 4) c) l := hb.conv (Nat.le_refl _) hp Tryd.underlying23 Tryd.underlying5 c _ Tryd.underlying9
  unfold Conv at HC
  have hpc : p + 4 ≤ c := by omega
  have hp2 : (p : Int) ≤ 140737488355328 := by omega
  have h4 : ¬ ((p : Int) + 4 < 4) := by omega
  have hpc2 : (p : Int) ≤ (c : Int) := by omega
  have hp0 : (0 : Int) ≤ (p : Int) := by omega
  have hw1 : IntKind.i64.wrap (p : Int) = (p : Int) := IntWalk.i64_in _ (by omega)
  have hw2 : IntKind.i64.wrap ((p : Int) + 4 - 4) = (p : Int) := by rw [Int.add_sub_cancel, hw1]
  have hd : Below w.heap.size w w.drew := (Below.refl _ _).drew
  clear hz hb hb1 ho e1 hl hc hsl hseal
  go_enter Tryd.func15, Tryd.ntmps15
  go_wp2
  go_region_with (go_at_call 17; refine (HS.out _ hd).mono ?_; rintro e w5 ⟨v5, rfl, hown5, hb5⟩; obtain ⟨A5, c5, rfl, hbs5, _⟩ := hown5.slice; have hC5 := hbs5.conv (P := Tryd.prog) (Nat.le_refl _) hp Tryd.underlying23 Tryd.underlying5 c5 9 Tryd.underlying9; have hk : Below w.heap.size w w5 := hd.trans (hb5.mono hd.size); have hr5 := Below.refl w5.heap.size w5; unfold Conv at hC5; clear hbs5 hown5 hb5)
  all_goals (go_wp2; go_ret2; exact ⟨rfl, hk⟩)

set_option maxRecDepth 100000 in
set_option maxHeartbeats 4000000 in
theorem refOpen_no (A : Option Addr) (l : List UInt8) (p c : Nat) (w : World) (hp : l.length = p + 4) (hb : Bs w w.heap.size A l) (hl : l.length ≤ 140737488355328) (hc : l.length ≤ c) (ho : ¬ opens l) :
    Calls Tryd.prog 15 #[.slice A (p + 4) c] w fun e w' => e = .returned (.tuple #[.slice none 0 0, .int .i64 8]) ∧ Below w.heap.size w w' := by
  obtain ⟨b, o, rfl, hbB, hz⟩ := hb.at_ (show 0 < l.length by omega)
  have hb1 : Bs w w.heap.size (some ⟨b, o, none⟩) (l.take p) := by simpa using hb.cut 0 p (by omega)
  have e1 : (l.take p).length = p := by rw [List.length_take]; omega
  have hsl : ¬ sealed (l.take p) = l := by
    have h := fun h => ho ((opens_seal (by omega)).2 h)
    rwa [hp, Nat.add_sub_cancel] at h
  have hml : (sealed (l.take p)).length = p + 4 := by rw [seal_length, e1]
  have hseal := fun w' (h : Below w.heap.size w w') => refSeal_any (some ⟨b, o, none⟩) (l.take p) c w.heap.size w' (hb1.below h) h.size (by omega)
  rw [e1] at hseal
  obtain ⟨m, em⟩ : ∃ m, sealed (l.take p) = m := ⟨_, rfl⟩
  rw [em] at hseal hsl hml
  have hbq : (m == l) = false := beq_eq_false_iff_ne.2 hsl
  clear em
  have HS := Lib.hid hseal
  have HC : Conv Tryd.prog 23 9 w (.slice (some ⟨b, o, none⟩) (p + 4) c) l := hb.conv (Nat.le_refl _) hp Tryd.underlying23 Tryd.underlying5 c _ Tryd.underlying9
  unfold Conv at HC
  have hpc : p + 4 ≤ c := by omega
  have hp2 : (p : Int) ≤ 140737488355328 := by omega
  have h4 : ¬ ((p : Int) + 4 < 4) := by omega
  have hpc2 : (p : Int) ≤ (c : Int) := by omega
  have hp0 : (0 : Int) ≤ (p : Int) := by omega
  have hw1 : IntKind.i64.wrap (p : Int) = (p : Int) := IntWalk.i64_in _ (by omega)
  have hw2 : IntKind.i64.wrap ((p : Int) + 4 - 4) = (p : Int) := by rw [Int.add_sub_cancel, hw1]
  have hd : Below w.heap.size w w.drew := (Below.refl _ _).drew
  clear hz hb hb1 ho e1 hl hc hseal
  go_enter Tryd.func15, Tryd.ntmps15
  go_wp2
  go_region_with (go_at_call 17; refine (HS.out _ hd).mono ?_; rintro e w5 ⟨v5, rfl, hown5, hb5⟩; obtain ⟨A5, c5, rfl, hbs5, _⟩ := hown5.slice; have hC5 := hbs5.conv (P := Tryd.prog) (Nat.le_refl _) hml Tryd.underlying23 Tryd.underlying5 c5 9 Tryd.underlying9; have hk : Below w.heap.size w w5 := hd.trans (hb5.mono hd.size); have hr5 := Below.refl w5.heap.size w5; unfold Conv at hC5; clear hbs5 hown5 hb5)
  all_goals (go_wp2; go_ret2; exact ⟨rfl, hk⟩)
end Go.Proofs.YtebcnacboidfeaaDoor
