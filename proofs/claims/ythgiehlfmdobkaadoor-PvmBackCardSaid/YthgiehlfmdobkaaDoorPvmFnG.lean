/-
  Package pvm's exchange, by its contract. Conditions: the theorem's own premises.
-/
import Derived.Test.YthgiehlfmdobkaaDoorPvmFnC
import Derived.BigQuiet
namespace Go.Proofs.YthgiehlfmdobkaaDoor
open Go.RowKit

theorem find_none {mem : List Int} {r : Int} {c : Nat} (hm : mem.length ≤ 1000000) (h : wrap64 (r + c) < 0 ∨ (mem.length : Int) ≤ wrap64 (r + c)) : findM mem r c = none := by
  unfold findM
  rw [if_neg]
  unfold wrap64 at h
  omega
theorem find_some {mem : List Int} {r : Int} {c k : Nat} (hr : R64 r) (hc : c < 256) (h : wrap64 (r + c) = (k : Int)) (hk : k < mem.length) : findM mem r c = some k := by
  unfold findM
  unfold R64 at hr
  have e : r + (c : Int) = (k : Int) := by unfold wrap64 at h; omega
  rw [if_pos (by omega), e, Int.toNat_natCast]

def exchM (op a b c : Nat) (M : Mach) : Mach × Int := match findM M.mem (M.r b) c with
  | none => (M, 81)
  | some k => (if op = 13 then setR M a (M.mem.getD k 0) else { M with mem := M.mem.set k (M.r a) }, 0)
theorem exch_none {op a b c : Nat} {M : Mach} (h : findM M.mem (M.r b) c = none) : exchM op a b c M = (M, 81) := by unfold exchM; rw [h]
theorem exch_some {op a b c k : Nat} {M : Mach} (h : findM M.mem (M.r b) c = some k) : exchM op a b c M = (if op = 13 then setR M a (M.mem.getD k 0) else { M with mem := M.mem.set k (M.r a) }, 0) := by unfold exchM; rw [h]
def ExPost (B g : Nat) (A : Option Addr) (n cp : Nat) (w : World) (r : Mach × Int) (e : Ending) (w' : World) : Prop := e = .returned (.int .i64 r.2) ∧ MV B w' g r.1 A n cp ∧ Kept (FF g A) w w'

set_option maxRecDepth 100000 in
set_option maxHeartbeats 4000000 in
set_option linter.unusedSimpArgs false in
theorem pvExch {B g : Nat} {M : Mach} {A : Option Addr} {n cp : Nat} (w : World) (hv : MV B w g M A n cp) (hn : n ≤ 1000000) (op a b c : Nat) (hi : Ins.ok ⟨op, a, b, c⟩) (ha : a < 8) (hb : b < 8) (hop : op = 13 ∨ op = 14) :
    Calls Tryd.prog 60 #[.pointer (some ⟨g, 0, none⟩), .agg #[.int .u8 (op : Int), .int .u8 (a : Int), .int .u8 (b : Int), .int .u8 (c : Int)]] w (ExPost B g A n cp w (exchM op a b c M)) := by
  obtain ⟨X, t, er⟩ : ∃ X t, exchM op a b c M = (X, t) := ⟨_, _, rfl⟩
  rw [er]
  have HR := Lib.hid er
  clear er
  obtain ⟨z, ez⟩ : ∃ z, wrap64 (M.r b + c) = z := ⟨_, rfl⟩
  have hin : (c : Int) < 256 := by have := hi.2.2.2; dsimp only at this; omega
  have HV := Lib.hid (And.intro hv (And.intro hn (And.intro hi (And.intro ha (And.intro hb hop)))))
  have ai : (a : Int) < 8 := by omega
  have bi : (b : Int) < 8 := by omega
  have a0 : (0 : Int) ≤ (a : Int) := by omega
  have b0 : (0 : Int) ≤ (b : Int) := by omega
  clear hv hi hn hop ha hb
  go_enter Tryd.func60, Tryd.ntmps60
  go_wp2_with (first
    | (refine wpList_box rfl 61 (.tmp 1) rfl (a4 op a b c).toArray rfl ?_; intro w1 hb1 hw1 hz1)
    | fail)
  have hv1 := HV.out.1.below hw1
  have cr1 := hv1.cr HV.out.2.2.2.2.1
  have i0' : w1.cell? ⟨w.heap.size, 0, none⟩ = some (.int .u8 (op : Int)) := by rw [hb1.cell]; rfl
  have i1' : w1.cell? ⟨w.heap.size, 1, none⟩ = some (.int .u8 (a : Int)) := by rw [hb1.cell]; rfl
  have i2' : w1.cell? ⟨w.heap.size, 2, none⟩ = some (.int .u8 (b : Int)) := by rw [hb1.cell]; rfl
  have i3' : w1.cell? ⟨w.heap.size, 3, none⟩ = some (.int .u8 (c : Int)) := by rw [hb1.cell]; rfl
  have HW := Lib.hid (And.intro hv1 (And.intro hb1 (And.intro hw1 hz1)))
  clear hv1 hb1 hw1 hz1
  go_quiet (fail)
  rw [ez]
  have hv2 : MV B (w1.drewN nq) g M A n cp := HW.out.1.drewN nq
  have hb2 : Blk (w1.drewN nq) w.heap.size 61 (a4 op a b c).toArray := HW.out.2.1.drewN nq
  have hw2 : Below w.heap.size w (w1.drewN nq) := below_drewN HW.out.2.2.1 nq
  have hz2 : (w1.drewN nq).heap.size = w.heap.size + 1 := HW.out.2.2.2
  obtain ⟨w2, ew2⟩ : ∃ W, w1.drewN nq = W := ⟨_, rfl⟩
  rw [ew2] at hv2 hb2 hw2 hz2 ⊢
  have cm := hv2.cm
  have i0'' : w2.cell? ⟨w.heap.size, 0, none⟩ = some (.int .u8 (op : Int)) := by rw [hb2.cell]; rfl
  have HX := Lib.hid (And.intro hv2 (And.intro hb2 (And.intro hw2 hz2)))
  have HE := Lib.hid ez
  clear hv2 hb2 hw2 hz2 ew2 cr1 i0' i1' i2' i3' HW ez
  have hkp := Lib.hid (Kept.of_below (F := FF g A) HX.out.2.2.1)
  by_cases h0 : z < 0
  · have hf := find_none (mem := M.mem) (r := M.r b) (c := c) (by rw [HV.out.1.len]; exact HV.out.2.1) (.inl (by rw [HE.out]; exact h0))
    have hf := (HR.out.symm.trans (exch_none hf)).symm
    cases hf
    go_wp2_with fail
    go_ret
    exact ⟨rfl, HX.out.1, hkp.out⟩
  · by_cases h1 : z ≥ (n : Int)
    · have hf := find_none (mem := M.mem) (r := M.r b) (c := c) (by rw [HV.out.1.len]; exact HV.out.2.1) (.inr (by rw [HE.out, HV.out.1.len]; exact h1))
      have hf := (HR.out.symm.trans (exch_none hf)).symm
      cases hf
      go_wp2_with fail
      go_ret
      exact ⟨rfl, HX.out.1, hkp.out⟩
    · obtain ⟨k, rfl⟩ : ∃ k : Nat, z = (k : Int) := ⟨z.toNat, by omega⟩
      have hkn : k < n := by omega
      have hf := find_some (mem := M.mem) (r := M.r b) (c := c) (HV.out.1.ok.r b) (by omega) HE.out (by rw [HV.out.1.len]; exact hkn)
      have hf := (HR.out.symm.trans (exch_some hf)).symm
      cases hf
      obtain ⟨gA, rfl⟩ : ∃ gA, A = some ⟨gA, 0, none⟩ := by
        rcases HX.out.1.row.2 with ⟨_, e⟩ | ⟨gA, _, _, e, _⟩
        · omega
        · cases e; exact ⟨gA, rfl⟩
      have ck : w2.cell? ⟨gA, k, none⟩ = some (.int .i64 (M.mem.getD k 0)) := by
        have := World.ownsRow.cellAt HX.out.1.row k (by omega)
        rw [zv_get (by rw [HV.out.1.len]; exact hkn)] at this
        exact this
      have k0 : (0 : Int) ≤ (k : Int) := by omega
      have k1 : (k : Int) < (n : Int) := by omega
      have i1'' : w2.cell? ⟨w.heap.size, 1, none⟩ = some (.int .u8 (a : Int)) := by rw [HX.out.2.1.cell]; rfl
      have fa := HX.out.1.fz (1 + a)
      have ca := HX.out.1.cr HV.out.2.2.2.1
      rcases HV.out.2.2.2.2.2 with rfl | rfl
      · clear h0 h1
        go_wp2_with fail
        go_region
        have hfin : MV B (w2.drew.setCell ⟨g, 1 + a, none⟩ (.int .i64 (M.mem.getD k 0))) g (setR M a (M.mem.getD k 0)) (some ⟨gA, 0, none⟩) n cp :=
          (HX.out.1.drewN 1).set (1 + a) _ (mcells_r M _ n cp _ a HV.out.2.2.2.1) rfl (ok_setR HX.out.1.ok a (by
            rcases Nat.lt_or_ge k M.mem.length with hk | hk
            · exact HX.out.1.ok.mem _ (by simp [List.getD, hk])
            · rw [show M.mem.getD k 0 = 0 by simp [List.getD, hk]]; exact r64_0))
        have hkf : Kept (FF g (some ⟨gA, 0, none⟩)) w (w2.drew.setCell ⟨g, 1 + a, none⟩ (.int .i64 (M.mem.getD k 0))) :=
          Kept.trans hkp.out (Kept.undr (Kept.set (FF g (some ⟨gA, 0, none⟩)) w2.drew ⟨g, 1 + a, none⟩ (.int .i64 (M.mem.getD k 0)) (.inl (.inl rfl)))) (fun _ => .inl)
        go_wp2_with fail
        go_ret
        exact ⟨rfl, hfin, hkf⟩
      · have fk := World.ownsRow.frozenAt HX.out.1.row k
        clear h0 h1
        go_wp2_with fail
        go_region
        have hfin : MV B (w2.drew.setCell ⟨gA, k, none⟩ (.int .i64 (M.r a))) g { M with mem := M.mem.set k (M.r a) } (some ⟨gA, 0, none⟩) n cp :=
          (HX.out.1.drewN 1).word k _ (HX.out.1.ok.r a)
        have hkf : Kept (FF g (some ⟨gA, 0, none⟩)) w (w2.drew.setCell ⟨gA, k, none⟩ (.int .i64 (M.r a))) :=
          Kept.trans hkp.out (Kept.undr (Kept.set (FF g (some ⟨gA, 0, none⟩)) w2.drew ⟨gA, k, none⟩ (.int .i64 (M.r a)) (.inl (.inr rfl)))) (fun _ => .inl)
        go_wp2_with fail
        go_ret
        exact ⟨rfl, hfin, hkf⟩
end Go.Proofs.YthgiehlfmdobkaaDoor
