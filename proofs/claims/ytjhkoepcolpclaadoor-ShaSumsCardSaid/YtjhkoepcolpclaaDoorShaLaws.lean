/-
  ShaSums: the law answers true and turns nothing that was there. Conditions: the tables read as the program's text lays them; the theorem's own premises.
-/
import Derived.Test.YtjhkoepcolpclaaDoorShaAwake
import Derived.Test.YtjhkoepcolpclaaDoorOctetMk
namespace Go.Proofs.YtjhkoepcolpclaaDoor
open Go.RowKit

set_option maxRecDepth 100000 in
set_option maxHeartbeats 4000000 in
set_option linter.unusedSimpArgs false in
theorem shaSums_calls (A : Option Addr) (l : List UInt8) (c : Nat) (w : World) (hb : Bs w w.heap.size A l) (hc : l.length ≤ c) (hl : l.length ≤ 9223372036854775807) (ht : Tabs w) :
    Calls Tryd.prog 3 #[.slice A l.length c] w fun ev w' => ev = .returned (.bool true) ∧ Below w.heap.size w w' := by
  obtain ⟨i0, hi0, hz0, hz1, hz2⟩ := info_parts u8info
  have HT := Lib.hid ht
  have hfew := Lib.hid (few_any A l c w hc hl)
  obtain ⟨m, em⟩ : ∃ m, l.take 2000 = m := ⟨_, rfl⟩
  have hm : m.length ≤ 2000 := by rw [← em]; simp; omega
  have hmc : m.length ≤ c := by rw [← em]; simp; omega
  have hbm : Bs w w.heap.size A m := by rw [← em]; exact hb.take_ _
  obtain ⟨n, en⟩ : ∃ n, m.length = n := ⟨_, rfl⟩
  have HFew := Lib.hid (show Calls Tryd.prog 8 #[.slice A l.length c] w fun e w' => e = .returned (.slice A n c) ∧ w = w' by rw [← en, ← em]; exact hfew.out)
  have HM := Lib.hid (And.intro hm (And.intro hmc (And.intro hbm en)))
  have hn : n ≤ 2000 := by omega
  clear ht hfew em hm hmc hbm en hb hc
  obtain ⟨ln, eln⟩ : ∃ x, l.length = x := ⟨_, rfl⟩
  rw [eln] at HFew ⊢
  clear eln hl
  go_enter Tryd.func3, Tryd.ntmps3
  go_wp2_with fail
  refine HFew.out.mono ?_
  rintro e w' ⟨rfl, rfl⟩
  go_wp2_with (first
    | (at_builtin; refine wpList_append_bytes_n _ rfl (.tmp 6) (.tmp 7) 22 rfl w.heap.size 5 i0 (.int .u8 0) Tryd.underlying22 hi0 hz0 hz1 hz2 rfl (.slice (some ⟨w.heap.size, 0, none⟩) 0 0) [] rfl (Own.empty w _ _ (Nat.le_refl _)) w.heap.size A c n m HM.out.2.2.2 rfl (HM.out.2.2.1.alloc (Nat.le_refl _) _) (by have := HM.out.1; simp; omega) (by simp) ?_; intro v1 w1 hown1 hg1 _)
    | fail)
  have hB1 : Below w.heap.size w w1 := ((Below.refl _ _).alloc (Nat.le_refl _) _).grown hg1 (by simp) (fun k hk => by simp [Value.ownBlock] at hk; subst hk; exact Nat.le_refl _)
  rw [List.nil_append] at hown1
  obtain ⟨A1, c1, rfl, hbs1, _⟩ := hown1.slice
  rw [HM.out.2.2.2]
  have H1 := Lib.hid (And.intro hB1 (And.intro hbs1 (HT.out.on hB1 (Nat.le_refl _))))
  clear hown1 hg1 hbs1 hB1
  try go_wp2_with fail
  refine (sum_any A m n c w1 HM.out.2.2.2 H1.out.2.2 ((HM.out.2.2.1.below H1.out.1).more H1.out.1.size) (by have := HM.out.2.1; have := HM.out.2.2.2; omega) (by omega)).mono ?_
  rintro e w2 ⟨rfl, hw2⟩
  obtain ⟨L, eL⟩ : ∃ L, sha m = L := ⟨_, rfl⟩
  have hL : L.length = 32 := by rw [← eL]; exact sha_length _
  rw [eL]
  have hq := fun w => eq32 L hL w
  obtain ⟨X, eX⟩ : ∃ X, (bv L).toArray = X := ⟨_, rfl⟩
  rw [eX] at hq ⊢
  have H2 := Lib.hid (And.intro (H1.out.1.trans (hw2.mono H1.out.1.size)) (And.intro (H1.out.2.1.below hw2) (And.intro (H1.out.2.2.on hw2 (Nat.le_refl _)) (And.intro eL eX))))
  have hs2 := hw2.size
  have HS2 := Lib.hid hs2
  clear hw2 eL eX hL hs2
  go_wp2_with fail
  have hrs := refSum_any A1 m n c1 w2 HM.out.2.2.2 (H2.out.2.1.more HS2.out) (by omega)
  rw [H2.out.2.2.2.1, H2.out.2.2.2.2] at hrs
  refine hrs.mono ?_
  rintro e w3 ⟨rfl, hw3⟩
  have H3 := Lib.hid (And.intro (H2.out.1.trans (hw3.mono H2.out.1.size)) (H2.out.2.2.1.on hw3 (Nat.le_refl _)))
  have hs3 := hw3.size
  have k1 := ((HM.out.2.2.1.below H3.out.1)).str (P := Tryd.prog) Tryd.underlying22 Tryd.underlying5 c 9 Tryd.underlying9
  have k2 := (H2.out.2.1.below (hw3.mono HS2.out)).str (P := Tryd.prog) Tryd.underlying22 Tryd.underlying5 c1 9 Tryd.underlying9
  rw [HM.out.2.2.2] at k1 k2
  have hg := eqg32
  clear hrs hw3 hs3
  go_wp2_with fail
  refine (shaAwake_true w3 H3.out.2).mono ?_
  rintro e w4 ⟨rfl, hw4⟩
  go_wp2_with fail
  go_ret
  exact ⟨rfl, H3.out.1.trans (hw4.mono H3.out.1.size)⟩
end Go.Proofs.YtjhkoepcolpclaaDoor
