/-
  The disk's reference: laid, by its contract. Conditions: the theorem's own premises.
-/
import Derived.Test.YtdhaikcmgegfoaaDiskRef1
namespace Go.Proofs.Ytdhaikcmgegfoaa
open Go.RowKit

theorem rdisk_zero : (Try.prog.info? 45).map (·.zero) = some (some (.agg (refCells none none none 0 0 0 ⟨[], [], false, 0, []⟩).toArray)) := by kernel_rfl
theorem bodyPost_rowo {P : Program} {w : World} {fn : Func} {R : Ending → World → Prop} {a : Act} {p : Tmp} {ty : TypeId} (hr : fn.results = #[.cell p ty]) (g : Nat) (hp : a.tmps.getD p undef = .pointer (some ⟨g, 0, none⟩)) (t : TypeId) (cs : Array Value) (d : TypeDesc)
    (hg : Blk w g t cs) (hu : P.underlying ty = some d) (hd : agg? d = true) (hi : (P.info? ty).map (·.size) = some cs.size) (hdef : a.defers = []) (hR : R (.returned (.agg cs)) w) : bodyPost P fn R .ret a w :=
  bodyPost_row hr g hp t cs d hg hu hd hi hdef hR
/-- a slice of n elements that doesn't lie in block g -/
def Far (A : Option Addr) (n g : Nat) : Prop := 0 < n → ∀ b o, A = some ⟨b, o, none⟩ → b ≠ g
theorem vs_grown {w w' : World} {B n g : Nat} {A : Option Addr} {vs : List Value} (h : Vs w B A vs) (hB : B ≤ w.heap.size) (hg : w.grownBy w' (some g)) (hf : Far A n g) (hn : 0 < vs.length → 0 < n) : Vs w' B A vs := fun h0 => by
  obtain ⟨b, o, e, hb, hc⟩ := h h0
  refine ⟨b, o, e, hb, fun j v hj => ?_⟩
  rw [← hc j v hj]
  exact World.cell?_of_block (hg.block b (by omega) (fun e2 => hf (hn h0) b o e (Option.some.inj e2)))
theorem far_below {w : World} {B n g : Nat} {A : Option Addr} {vs : List Value} (h : Vs w B A vs) (hg : B ≤ g) (hn : 0 < n → 0 < vs.length) : Far A n g := fun h0 b o e => by
  obtain ⟨b', o', e', hb, _⟩ := h (hn h0)
  rw [e] at e'
  injection e' with e'
  injection e' with e1
  omega
theorem far_row {w : World} {base n m size g c : Nat} {t : TypeId} {A : Option Addr} {vs : List Value} (h : w.ownsRow base t size (.slice A n c) n vs) (hg : g < base) : Far A m g := fun _ b o e => by
  subst e
  have := (World.ownsRow.lt h b rfl).1
  omega
def FarD (A W S : Option Addr) (d : Dk) (g : Nat) : Prop := Far A d.has.length g ∧ Far W d.waits.length g ∧ Far S d.surv.length g
/-- what the cells name doesn't lie in block g -/
def RefFar (cells : List Value) (d : Dk) (g : Nat) : Prop := ∀ A W S ca cw cs, cells = refCells A W S ca cw cs d → FarD A W S d g
theorem ref_far {A W S : Option Addr} {ca cw cs : Nat} {d : Dk} {g : Nat} (h : FarD A W S d g) : RefFar (refCells A W S ca cw cs d) d g := fun A' W' S' ca' cw' cs' e => by
  simp only [refCells, List.cons.injEq, Value.slice.injEq] at e
  obtain ⟨⟨rfl, _, _⟩, ⟨rfl, _, _⟩, _, _, ⟨rfl, _, _⟩, _⟩ := e
  exact h
def RefPost (w : World) (cs0 : List Value) (d0 : Dk) (d : Dk) (f : Value → Value) (e : Ending) (w' : World) : Prop :=
  ∃ cs, e = .returned (f (.agg cs.toArray)) ∧ RefIs w' w'.heap.size cs d ∧ (∀ g, g < w.heap.size → RefFar cs0 d0 g → RefFar cs d g) ∧ Below w.heap.size w w'

set_option maxRecDepth 100000 in
set_option maxHeartbeats 1000000 in
theorem laid_any (w : World) (cs : List Value) (d : Dk) (h : RefIs w w.heap.size cs d) (hw : d.waits.length ≤ 4294967296) (all : Bool) (S : Option Addr) (surv : List Bool) (c : Nat) (hS : Vs w w.heap.size S (bvs surv)) :
    Calls Try.prog 44 #[.agg cs.toArray, .bool all, .slice S surv.length c] w (RefPost w cs d (d.laid all surv) (fun v => v)) := by
  obtain ⟨hok, A0, W, S0, ca0, cw, cs0, ecs, hA0, hW, hS0⟩ := h
  subst ecs
  obtain ⟨X, hX⟩ : ∃ X, (refCells A0 W S0 ca0 cw cs0 d).toArray = X := ⟨_, rfl⟩
  rw [hX]
  have HX := Lib.hid hX
  have HP := Lib.hid (And.intro hA0 (And.intro hW (And.intro hS0 hS)))
  have HO := Lib.hid (And.intro hok hw)
  clear hX hA0 hW hS0 hS hok hw
  obtain ⟨ns, ens⟩ : ∃ n, surv.length = n := ⟨_, rfl⟩
  rw [ens]
  go_enter Try.func44, Try.ntmps44
  go_wp2_with (first
    | (refine wpList_box rfl 45 (.tmp 0) rfl X rfl ?_; intro w1 hb1 hw1 hz1; refine stopped ?_)
    | fail)
  refine go_on ?_
  refine wpList_alloc rfl 45 rfl _ rdisk_zero ?_
  intro w2 hb2 hw2 hz2
  simp only [Act.put, List.setIfInBounds_toArray, List.set_cons_zero, List.set_cons_succ]
  rw [← HX.out] at hb1
  obtain ⟨g3, e3⟩ : ∃ g, w.heap.size = g := ⟨_, rfl⟩
  obtain ⟨g6, e6⟩ : ∃ g, w1.heap.size = g := ⟨_, rfl⟩
  rw [e3] at hb1 hz1 hw1
  rw [e6] at hb2 hz2 hw2
  rw [e3, e6]
  have h36 : g6 = g3 + 1 := by omega
  have hbb : Below g3 w w2 := hw1.trans (hw2.mono (by omega))
  have HB := Lib.hid (And.intro (hb1.below hw2 (by omega)) (And.intro hb2 (And.intro hbb (And.intro h36 (And.intro hz2 e3)))))
  clear hb1 hb2 hw1 hw2 hz1 hz2 hbb e3 e6 h36
  go_wp2_with fail
  go_loopw [7] (fun i wz => ∃ (k : Nat) (A : Option Addr) (ca : Nat), k ≤ d.waits.length ∧ i = .int .i64 (k : Int) ∧ Blk wz g3 45 (refCells A W S0 ca cw cs0 { d with has := lay all surv 0 (d.waits.take k) d.has }).toArray ∧ Vs wz wz.heap.size A (svs (lay all surv 0 (d.waits.take k) d.has)) ∧ Below g3 w wz ∧ g6 < wz.heap.size ∧ Blk wz g6 45 (refCells none none none 0 0 0 ⟨[], [], false, 0, []⟩).toArray ∧ (∀ g, g < g6 + 1 → Far A0 d.has.length g → Far A d.has.length g)) (fun i _ => d.waits.length - (intOf i).toNat)
  case atStart =>
    have hgt : w.heap.size ≤ w2.heap.size := by have := HB.out.2.2.2; omega
    exact ⟨0, A0, ca0, by omega, rfl, HB.out.1, (HP.out.1.below (HB.out.2.2.2.2.2 ▸ HB.out.2.2.1)).more hgt, HB.out.2.2.1, by have := HB.out.2.2.2.2.1; omega, HB.out.2.1, fun _ _ h => h⟩
  case round =>
    obtain ⟨k, A, ca, hk, rfl, hblk, hvs, hbel, hsz, hb6, hf⟩ := hrel
    obtain ⟨nh, enh⟩ : ∃ n, d.has.length = n := ⟨_, rfl⟩
    obtain ⟨nw, enw⟩ : ∃ n, d.waits.length = n := ⟨_, rfl⟩
    have hc1 : wr.cell? ⟨g3, 1, none⟩ = some (.slice W nw cw) := by rw [hblk.cell, ← enw]; rfl
    have HI := Lib.hid (And.intro hblk (And.intro hvs (And.intro hbel (And.intro hsz (And.intro hb6 hf)))))
    have HN := Lib.hid (And.intro enh (And.intro enw ens))
    rw [enw] at hk
    have HWB : nw ≤ 4294967296 := enw ▸ HO.out.2
    clear hblk hvs hbel hsz hb6 hf
    by_cases hlt : k < nw
    · obtain ⟨x1, x2⟩ := wvs_get (l := d.waits) (j := k) (by rw [enw]; exact hlt)
      have hbel' : Below w.heap.size w wr := HB.out.2.2.2.2.2 ▸ HI.out.2.2.1
      obtain ⟨b, o, eW, hbW, hcW⟩ := (HP.out.2.1.below hbel') (by rw [wvs_length, HN.out.2.1]; omega)
      rw [HB.out.2.2.2.2.2] at hbW
      have y1 := hcW _ _ x1
      have y2 := hcW _ _ x2
      rw [← Nat.add_assoc] at y2
      obtain ⟨q, eq⟩ : ∃ q, d.waits.getD k (0, []) = q := ⟨_, rfl⟩
      rw [eq] at y1 y2
      have hq : q ∈ d.waits := by
        rw [← eq]
        have : k < d.waits.length := by rw [HN.out.2.1]; exact hlt
        simp [List.getD, this]
      have hqa := HO.out.1.at_ q hq
      obtain ⟨p, ep⟩ : ∃ p, q.1 = p := ⟨_, rfl⟩
      obtain ⟨sk, esk⟩ : ∃ s, q.2 = s := ⟨_, rfl⟩
      obtain ⟨st, est⟩ : ∃ st, sv sk = .string st := ⟨_, rfl⟩
      rw [ep] at y1 hqa
      rw [esk, est] at y2
      have hc0 : wr.cell? ⟨g3, 0, none⟩ = some (.slice A nh ca) := by
        rw [HI.out.1.cell, ← HN.out.1, ← lay_length all surv (d.waits.take k) 0 d.has]
        rfl
      have hstep := lay_step all surv d.has d.waits k (by rw [HN.out.2.1]; exact hlt)
      rw [eq, ep, esk] at hstep
      obtain ⟨L, eL⟩ : ∃ L, lay all surv 0 (d.waits.take k) d.has = L := ⟨_, rfl⟩
      have hLl : L.length = nh := by rw [← eL, lay_length, HN.out.1]
      have HVL : Vs wr wr.heap.size A (svs L) := eL ▸ HI.out.2.1
      have HBk : Blk wr g3 45 (refCells A W S0 ca cw cs0 { d with has := L }).toArray := eL ▸ HI.out.1
      have hp : p < L.length := by rw [hLl, ← HN.out.1]; exact hqa.1
      have hL256 : L.length ≤ 256 := by rw [hLl, ← HN.out.1]; exact HO.out.1.small
      rw [eL] at hstep
      have HQ := Lib.hid (And.intro HVL (And.intro HBk (And.intro hp (And.intro hL256 (And.intro hstep (And.intro hbW hLl))))))
      have hk0 : (0 : Int) ≤ (k : Int) := by omega
      have hk1 : (k : Int) < (nw : Int) := by omega
      have HEW := Lib.hid eW
      have HST := Lib.hid est
      subst eW
      clear HVL HBk hp hL256 hstep hbW hLl x1 x2 hcW hq hqa eq ep esk eL est enh enw ens
      cases all
      · by_cases hks : k < ns
        · obtain ⟨b8, o8, eS, _, hc8⟩ := (HP.out.2.2.2.below hbel') (by rw [bvs_length, HN.out.2.2]; omega)
          have y8 := hc8 k _ (bvs_get (by rw [HN.out.2.2]; exact hks))
          subst eS
          have hks1 : (k : Int) < (ns : Int) := by omega
          obtain ⟨x8, e8⟩ : ∃ x, surv.getD k false = x := ⟨_, rfl⟩
          rw [e8] at y8
          have HE8 := Lib.hid e8
          clear hc8 e8
          cases x8
          · have hst2 := HQ.out.2.2.2.2.1
            rw [HE8.out, Bool.false_or, if_neg (by decide)] at hst2
            have HS2 := Lib.hid hst2
            clear hst2
            go_wp2_with fail
            go_roundw
            case rel =>
              refine ⟨k + 1, A, ca, ?_, by go_num, ?_, ?_, HI.out.2.2.1, HI.out.2.2.2.1, HI.out.2.2.2.2⟩
              · rw [HN.out.2.1]; omega
              · rw [HS2.out]; exact HQ.out.2.1
              · rw [HS2.out]; exact HQ.out.1
            case measure =>
              have := HN.out.2.1
              simp [intOf]
              omega
          · have hst2 := HQ.out.2.2.2.2.1
            rw [HE8.out, Bool.false_or, if_pos rfl] at hst2
            have HS2 := Lib.hid hst2
            clear hst2
            go_wp2_with fail
            have hS0 : (fun w' : World => w'.cell? ⟨g3, 1, none⟩ = some (.slice (some ⟨b, o, none⟩) nw cw) ∧ w'.cell? ⟨b, o + k * 2, none⟩ = some (.int .i64 (p : Int)) ∧ w'.cell? ⟨b, o + k * 2 + 1, none⟩ = some (.string st)) wr.drew := ⟨hc1, y1, y2⟩
            refine wp_region_held_drew (S := fun w' => w'.cell? ⟨g3, 1, none⟩ = some (.slice (some ⟨b, o, none⟩) nw cw) ∧ w'.cell? ⟨b, o + k * 2, none⟩ = some (.int .i64 (p : Int)) ∧ w'.cell? ⟨b, o + k * 2 + 1, none⟩ = some (.string st)) (by kernel_rfl) hS0 (fun hHeld => ?_)
            refine wpAnyH_take (i := 2) (v := ?_) (List.getElem?_toArray.trans (List.getElem?_cons_succ.trans (List.getElem?_cons_succ.trans (List.getElem?_cons_zero)))) (by kernel_rfl) (by kernel_rfl) (by kernel_rfl) (fun _ _ _ h => h) (Or.inl ⟨by rfl, ?_⟩) (by assumption) ?_
            rotate_left
            · intro w' hSw; (try dsimp only at hSw); go_simp; try with_reducible rfl
            try simp only [Act.put, List.setIfInBounds_toArray, List.set_cons_zero, List.set_cons_succ]
            refine wpAnyH_take (i := 3) (v := ?_) (List.getElem?_toArray.trans (List.getElem?_cons_succ.trans (List.getElem?_cons_succ.trans (List.getElem?_cons_succ.trans (List.getElem?_cons_zero))))) (by kernel_rfl) (by kernel_rfl) (by kernel_rfl) (fun _ _ _ h => h) (Or.inl ⟨by rfl, ?_⟩) (by assumption) ?_
            rotate_left
            · intro w' hSw; (try dsimp only at hSw); go_simp; try with_reducible rfl
            try simp only [Act.put, List.setIfInBounds_toArray, List.set_cons_zero, List.set_cons_succ]
            refine wpAnyH_take (i := 4) (v := ?_) (List.getElem?_toArray.trans (List.getElem?_cons_succ.trans (List.getElem?_cons_succ.trans (List.getElem?_cons_succ.trans (List.getElem?_cons_succ.trans (List.getElem?_cons_zero)))))) (by kernel_rfl) (by kernel_rfl) (by kernel_rfl) (fun _ _ _ h => h) (Or.inl ⟨by rfl, ?_⟩) (by assumption) ?_
            rotate_left
            · intro w' hSw; (try dsimp only at hSw); go_simp; try with_reducible rfl
            try simp only [Act.put, List.setIfInBounds_toArray, List.set_cons_zero, List.set_cons_succ]
            refine wpAnyH_take (i := 5) (v := ?_) (List.getElem?_toArray.trans (List.getElem?_cons_succ.trans (List.getElem?_cons_succ.trans (List.getElem?_cons_succ.trans (List.getElem?_cons_succ.trans (List.getElem?_cons_succ.trans (List.getElem?_cons_zero))))))) (by kernel_rfl) (by kernel_rfl) (by kernel_rfl) (fun _ _ _ h => h) (Or.inl ⟨by rfl, ?_⟩) (by assumption) ?_
            rotate_left
            · intro w' hSw; (try dsimp only at hSw); go_simp; try with_reducible rfl
            try simp only [Act.put, List.setIfInBounds_toArray, List.set_cons_zero, List.set_cons_succ]
            refine wpAnyH_take (i := 6) (v := ?_) (List.getElem?_toArray.trans (List.getElem?_cons_succ.trans (List.getElem?_cons_succ.trans (List.getElem?_cons_succ.trans (List.getElem?_cons_succ.trans (List.getElem?_cons_succ.trans (List.getElem?_cons_succ.trans (List.getElem?_cons_zero)))))))) (by kernel_rfl) (by kernel_rfl) (by kernel_rfl) (fun _ _ _ h => h) (Or.inl ⟨by rfl, ?_⟩) (by assumption) ?_
            rotate_left
            · intro w' hSw; (try dsimp only at hSw); go_simp; try with_reducible rfl
            try simp only [Act.put, List.setIfInBounds_toArray, List.set_cons_zero, List.set_cons_succ]
            refine wpAnyH_take (i := 7) (v := ?_) (List.getElem?_toArray.trans (List.getElem?_cons_succ.trans (List.getElem?_cons_succ.trans (List.getElem?_cons_succ.trans (List.getElem?_cons_succ.trans (List.getElem?_cons_succ.trans (List.getElem?_cons_succ.trans (List.getElem?_cons_succ.trans (List.getElem?_cons_zero))))))))) (by kernel_rfl) (by kernel_rfl) (by kernel_rfl) (fun _ _ _ h => h) (Or.inl ⟨by rfl, ?_⟩) (by assumption) ?_
            rotate_left
            · intro w' hSw; (try dsimp only at hSw); go_simp; try with_reducible rfl
            try simp only [Act.put, List.setIfInBounds_toArray, List.set_cons_zero, List.set_cons_succ]
            refine wpAnyH_take (i := 8) (v := ?_) (List.getElem?_toArray.trans (List.getElem?_cons_succ.trans (List.getElem?_cons_succ.trans (List.getElem?_cons_succ.trans (List.getElem?_cons_succ.trans (List.getElem?_cons_succ.trans (List.getElem?_cons_succ.trans (List.getElem?_cons_succ.trans (List.getElem?_cons_succ.trans (List.getElem?_cons_zero)))))))))) (by kernel_rfl) (by kernel_rfl) (by kernel_rfl) (fun _ _ _ h => h) (Or.inl ⟨by rfl, ?_⟩) (by assumption) ?_
            rotate_left
            · intro w' hSw; (try dsimp only at hSw); go_simp; try with_reducible rfl
            try simp only [Act.put, List.setIfInBounds_toArray, List.set_cons_zero, List.set_cons_succ]
            refine wpAnyH_take (i := 9) (v := ?_) (List.getElem?_toArray.trans (List.getElem?_cons_succ.trans (List.getElem?_cons_succ.trans (List.getElem?_cons_succ.trans (List.getElem?_cons_succ.trans (List.getElem?_cons_succ.trans (List.getElem?_cons_succ.trans (List.getElem?_cons_succ.trans (List.getElem?_cons_succ.trans (List.getElem?_cons_succ.trans (List.getElem?_cons_zero))))))))))) (by kernel_rfl) (by kernel_rfl) (by kernel_rfl) (fun _ _ _ h => h) (Or.inl ⟨by rfl, ?_⟩) (by assumption) ?_
            rotate_left
            · intro w' hSw; (try dsimp only at hSw); go_simp; try with_reducible rfl
            try simp only [Act.put, List.setIfInBounds_toArray, List.set_cons_zero, List.set_cons_succ]
            refine wpAnyH_take (i := 10) (v := ?_) (List.getElem?_toArray.trans (List.getElem?_cons_succ.trans (List.getElem?_cons_succ.trans (List.getElem?_cons_succ.trans (List.getElem?_cons_succ.trans (List.getElem?_cons_succ.trans (List.getElem?_cons_succ.trans (List.getElem?_cons_succ.trans (List.getElem?_cons_succ.trans (List.getElem?_cons_succ.trans (List.getElem?_cons_succ.trans (List.getElem?_cons_zero)))))))))))) (by kernel_rfl) (by kernel_rfl) (by kernel_rfl) (fun _ _ _ h => h) (Or.inl ⟨by rfl, ?_⟩) (by assumption) ?_
            rotate_left
            · intro w' hSw; (try dsimp only at hSw); go_simp; try with_reducible rfl
            try simp only [Act.put, List.setIfInBounds_toArray, List.set_cons_zero, List.set_cons_succ]
            refine wpAnyH_take (i := 11) (v := ?_) (List.getElem?_toArray.trans (List.getElem?_cons_succ.trans (List.getElem?_cons_succ.trans (List.getElem?_cons_succ.trans (List.getElem?_cons_succ.trans (List.getElem?_cons_succ.trans (List.getElem?_cons_succ.trans (List.getElem?_cons_succ.trans (List.getElem?_cons_succ.trans (List.getElem?_cons_succ.trans (List.getElem?_cons_succ.trans (List.getElem?_cons_succ.trans (List.getElem?_cons_zero))))))))))))) (by kernel_rfl) (by kernel_rfl) (by kernel_rfl) (fun _ _ _ h => h) (Or.inl ⟨by rfl, ?_⟩) (by assumption) ?_
            rotate_left
            · intro w' hSw; (try dsimp only at hSw); go_simp; try with_reducible rfl
            try simp only [Act.put, List.setIfInBounds_toArray, List.set_cons_zero, List.set_cons_succ]
            refine wpAnyH_take (i := 12) (v := ?_) (List.getElem?_toArray.trans (List.getElem?_cons_succ.trans (List.getElem?_cons_succ.trans (List.getElem?_cons_succ.trans (List.getElem?_cons_succ.trans (List.getElem?_cons_succ.trans (List.getElem?_cons_succ.trans (List.getElem?_cons_succ.trans (List.getElem?_cons_succ.trans (List.getElem?_cons_succ.trans (List.getElem?_cons_succ.trans (List.getElem?_cons_succ.trans (List.getElem?_cons_succ.trans (List.getElem?_cons_zero)))))))))))))) (by kernel_rfl) (by kernel_rfl) (by kernel_rfl) (fun _ _ _ h => h) (Or.inl ⟨by rfl, ?_⟩) (by assumption) ?_
            rotate_left
            · intro w' hSw; (try dsimp only at hSw); go_simp; try with_reducible rfl
            try simp only [Act.put, List.setIfInBounds_toArray, List.set_cons_zero, List.set_cons_succ]
            refine wpAnyH_take (i := 13) (v := ?_) (List.getElem?_toArray.trans (List.getElem?_cons_succ.trans (List.getElem?_cons_succ.trans (List.getElem?_cons_succ.trans (List.getElem?_cons_succ.trans (List.getElem?_cons_succ.trans (List.getElem?_cons_succ.trans (List.getElem?_cons_succ.trans (List.getElem?_cons_succ.trans (List.getElem?_cons_succ.trans (List.getElem?_cons_succ.trans (List.getElem?_cons_succ.trans (List.getElem?_cons_succ.trans (List.getElem?_cons_succ.trans (List.getElem?_cons_zero))))))))))))))) (by kernel_rfl) (by kernel_rfl) (by kernel_rfl) (fun _ _ _ h => h) (Or.inl ⟨by rfl, ?_⟩) (by assumption) ?_
            rotate_left
            · intro w' hSw; (try dsimp only at hSw); go_simp; try with_reducible rfl
            try simp only [Act.put, List.setIfInBounds_toArray, List.set_cons_zero, List.set_cons_succ]
            refine wpAnyH_ready (rs := [0]) (by kernel_rfl) (by simp) ?_
            refine AllReadyH.cons (List.getElem?_toArray.trans (List.getElem?_cons_zero)) (fun K hK => ?_) AllReadyH.nil
            go_simp
            refine hK.out _ _ hS0 (fun hHeld => ?_)
            clear hK K
            try simp only [Act.put, List.setIfInBounds_toArray, List.set_cons_zero, List.set_cons_succ]
            refine wpAnyH_ready (rs := [1]) (by kernel_rfl) (by simp) ?_
            refine AllReadyH.cons (List.getElem?_toArray.trans (List.getElem?_cons_succ.trans (List.getElem?_cons_zero))) (fun K hK => ?_) AllReadyH.nil
            go_simp
            refine hK.out _ _ hS0 (fun hHeld => ?_)
            clear hK K
            try simp only [Act.put, List.setIfInBounds_toArray, List.set_cons_zero, List.set_cons_succ]
            refine wpAnyH_ready (rs := [14]) (by kernel_rfl) (by simp) ?_
            refine AllReadyH.cons (List.getElem?_toArray.trans (List.getElem?_cons_succ.trans (List.getElem?_cons_succ.trans (List.getElem?_cons_succ.trans (List.getElem?_cons_succ.trans (List.getElem?_cons_succ.trans (List.getElem?_cons_succ.trans (List.getElem?_cons_succ.trans (List.getElem?_cons_succ.trans (List.getElem?_cons_succ.trans (List.getElem?_cons_succ.trans (List.getElem?_cons_succ.trans (List.getElem?_cons_succ.trans (List.getElem?_cons_succ.trans (List.getElem?_cons_succ.trans (List.getElem?_cons_zero)))))))))))))))) (fun K hK => ?_) AllReadyH.nil
            go_simp
            have HWT := with_any wr.drew A ca L p sk HQ.out.2.2.1 HQ.out.2.2.2.1 HQ.out.1
            rw [HQ.out.2.2.2.2.2.2, HST.out] at HWT
            refine HWT.mono ?_
            rintro e w5 ⟨A5, c5, rfl, hrow5, hb5⟩
            have hbr : Below wr.heap.size wr w5 := below_undr hb5
            have h3 : g3 < wr.heap.size := by have := HI.out.2.2.2.1; have := HB.out.2.2.2.1; omega
            have hbl : b < wr.heap.size := Nat.lt_trans HQ.out.2.2.2.2.2.1 h3
            have z0 := (hbr.cell (p := ⟨g3, 0, none⟩) h3).trans hc0
            have hS5 : w5.cell? ⟨g3, 1, none⟩ = some (.slice (some ⟨b, o, none⟩) nw cw) ∧ w5.cell? ⟨b, o + k * 2, none⟩ = some (.int .i64 (p : Int)) ∧ w5.cell? ⟨b, o + k * 2 + 1, none⟩ = some (.string st) :=
              ⟨(hbr.cell (p := ⟨g3, 1, none⟩) h3).trans hc1, (hbr.cell (p := ⟨b, o + k * 2, none⟩) hbl).trans y1, (hbr.cell (p := ⟨b, o + k * 2 + 1, none⟩) hbl).trans y2⟩
            have hblk5 := HQ.out.2.1.below hbr h3
            have hfr5 := hblk5.frozen 0
            refine hK.out _ _ hS5 (fun hHeld => ?_)
            clear hK K
            try simp only [Act.put, List.setIfInBounds_toArray, List.set_cons_zero, List.set_cons_succ]
            refine wpAnyH_ready (rs := [15]) (by kernel_rfl) (by simp) ?_
            refine AllReadyH.cons (List.getElem?_toArray.trans (List.getElem?_cons_succ.trans (List.getElem?_cons_succ.trans (List.getElem?_cons_succ.trans (List.getElem?_cons_succ.trans (List.getElem?_cons_succ.trans (List.getElem?_cons_succ.trans (List.getElem?_cons_succ.trans (List.getElem?_cons_succ.trans (List.getElem?_cons_succ.trans (List.getElem?_cons_succ.trans (List.getElem?_cons_succ.trans (List.getElem?_cons_succ.trans (List.getElem?_cons_succ.trans (List.getElem?_cons_succ.trans (List.getElem?_cons_succ.trans (List.getElem?_cons_zero))))))))))))))))) (fun K hK => ?_) AllReadyH.nil
            go_simp
            refine hK.out _ _ hS5 (fun hHeld => ?_)
            clear hK K
            try simp only [Act.put, List.setIfInBounds_toArray, List.set_cons_zero, List.set_cons_succ]
            refine wpAnyH_ready (rs := [16]) (by kernel_rfl) (by simp) ?_
            refine AllReadyH.cons (List.getElem?_toArray.trans (List.getElem?_cons_succ.trans (List.getElem?_cons_succ.trans (List.getElem?_cons_succ.trans (List.getElem?_cons_succ.trans (List.getElem?_cons_succ.trans (List.getElem?_cons_succ.trans (List.getElem?_cons_succ.trans (List.getElem?_cons_succ.trans (List.getElem?_cons_succ.trans (List.getElem?_cons_succ.trans (List.getElem?_cons_succ.trans (List.getElem?_cons_succ.trans (List.getElem?_cons_succ.trans (List.getElem?_cons_succ.trans (List.getElem?_cons_succ.trans (List.getElem?_cons_succ.trans (List.getElem?_cons_zero)))))))))))))))))) (fun K hK => ?_) AllReadyH.nil
            go_simp
            have hne1 : ∀ v, (w5.setCell ⟨g3, 0, none⟩ v).cell? ⟨g3, 1, none⟩ = w5.cell? ⟨g3, 1, none⟩ := fun v => World.cell?_setCell_other _ _ _ _ (by intro e; injection e with e1 e2; omega)
            have hne2 : ∀ v x, (w5.setCell ⟨g3, 0, none⟩ v).cell? ⟨b, x, none⟩ = w5.cell? ⟨b, x, none⟩ := fun v x => World.cell?_setCell_other _ _ _ _ (by have := HQ.out.2.2.2.2.2.1; intro e; injection e with e1 e2; omega)
            refine hK.out _ _ ⟨(hne1 _).trans hS5.1, (hne2 _ _).trans hS5.2.1, (hne2 _ _).trans hS5.2.2⟩ (fun _ => ?_)
            clear hK K
            refine wpAnyH_done (by kernel_rfl) ?_ _
            have HR := Lib.hid (And.intro hrow5 (And.intro hblk5 (And.intro hbr h3)))
            clear hrow5 hblk5 hbr h3 hb5 hS5 hHeld hne1 hne2 HWT
            go_wp2_with fail
            go_roundw
            case rel =>
              have hg6 : w5.grownBy (w5.setCell ⟨g3, 0, none⟩ (.slice A5 L.length c5)) (some g3) := only_setCell (only_refl _ _) (.inl rfl) _
              refine ⟨k + 1, A5, c5, ?_, by go_num, ?_, ?_, ?_, ?_, ?_, fun g hg _ => far_row HR.out.1 (by have := HI.out.2.2.2.1; simp; omega)⟩
              · rw [HN.out.2.1]; omega
              · rw [HS2.out]
                have := HR.out.2.1.set_ 0 (.slice A5 L.length c5)
                simpa [refCells] using this
              · rw [HS2.out]
                obtain ⟨A9, c9, hv9, _, _, hvs9, _⟩ := vs_of_row (row_kept HR.out.1 hg6 HR.out.2.2.2)
                injection hv9 with hA9
                subst hA9
                exact hvs9
              · exact (HI.out.2.2.1.trans (HR.out.2.2.1.mono (Nat.le_of_lt HR.out.2.2.2))).setCell (Nat.le_refl _) _
              · have h1 := HI.out.2.2.2.1
                have h2 := HR.out.2.2.1.size
                simp
                omega
              · refine (HI.out.2.2.2.2.1.below HR.out.2.2.1 HI.out.2.2.2.1).far ?_ _
                have := HB.out.2.2.2.1
                simp
                omega
            case measure =>
              have := HN.out.2.1
              simp [intOf]
              omega
        · have hst2 := HQ.out.2.2.2.2.1
          have hno : surv.getD k false = false := by
            have : surv.length ≤ k := by rw [HN.out.2.2]; omega
            simp [List.getD, this]
          rw [hno, Bool.false_or, if_neg (by decide)] at hst2
          have HS2 := Lib.hid hst2
          clear hst2 hno
          have hks1 : ¬ (k : Int) < (ns : Int) := by omega
          go_wp2_with fail
          go_roundw
          case rel =>
            refine ⟨k + 1, A, ca, ?_, by go_num, ?_, ?_, HI.out.2.2.1, HI.out.2.2.2.1, HI.out.2.2.2.2⟩
            · rw [HN.out.2.1]; omega
            · rw [HS2.out]; exact HQ.out.2.1
            · rw [HS2.out]; exact HQ.out.1
          case measure =>
            have := HN.out.2.1
            simp [intOf]
            omega
      · have hst2 := HQ.out.2.2.2.2.1
        rw [Bool.true_or, if_pos rfl] at hst2
        have HS2 := Lib.hid hst2
        clear hst2
        go_wp2_with fail
        have hS0 : (fun w' : World => w'.cell? ⟨g3, 1, none⟩ = some (.slice (some ⟨b, o, none⟩) nw cw) ∧ w'.cell? ⟨b, o + k * 2, none⟩ = some (.int .i64 (p : Int)) ∧ w'.cell? ⟨b, o + k * 2 + 1, none⟩ = some (.string st)) wr.drew := ⟨hc1, y1, y2⟩
        refine wp_region_held_drew (S := fun w' => w'.cell? ⟨g3, 1, none⟩ = some (.slice (some ⟨b, o, none⟩) nw cw) ∧ w'.cell? ⟨b, o + k * 2, none⟩ = some (.int .i64 (p : Int)) ∧ w'.cell? ⟨b, o + k * 2 + 1, none⟩ = some (.string st)) (by kernel_rfl) hS0 (fun hHeld => ?_)
        refine wpAnyH_take (i := 2) (v := ?_) (List.getElem?_toArray.trans (List.getElem?_cons_succ.trans (List.getElem?_cons_succ.trans (List.getElem?_cons_zero)))) (by kernel_rfl) (by kernel_rfl) (by kernel_rfl) (fun _ _ _ h => h) (Or.inl ⟨by rfl, ?_⟩) (by assumption) ?_
        rotate_left
        · intro w' hSw; (try dsimp only at hSw); go_simp; try with_reducible rfl
        try simp only [Act.put, List.setIfInBounds_toArray, List.set_cons_zero, List.set_cons_succ]
        refine wpAnyH_take (i := 3) (v := ?_) (List.getElem?_toArray.trans (List.getElem?_cons_succ.trans (List.getElem?_cons_succ.trans (List.getElem?_cons_succ.trans (List.getElem?_cons_zero))))) (by kernel_rfl) (by kernel_rfl) (by kernel_rfl) (fun _ _ _ h => h) (Or.inl ⟨by rfl, ?_⟩) (by assumption) ?_
        rotate_left
        · intro w' hSw; (try dsimp only at hSw); go_simp; try with_reducible rfl
        try simp only [Act.put, List.setIfInBounds_toArray, List.set_cons_zero, List.set_cons_succ]
        refine wpAnyH_take (i := 4) (v := ?_) (List.getElem?_toArray.trans (List.getElem?_cons_succ.trans (List.getElem?_cons_succ.trans (List.getElem?_cons_succ.trans (List.getElem?_cons_succ.trans (List.getElem?_cons_zero)))))) (by kernel_rfl) (by kernel_rfl) (by kernel_rfl) (fun _ _ _ h => h) (Or.inl ⟨by rfl, ?_⟩) (by assumption) ?_
        rotate_left
        · intro w' hSw; (try dsimp only at hSw); go_simp; try with_reducible rfl
        try simp only [Act.put, List.setIfInBounds_toArray, List.set_cons_zero, List.set_cons_succ]
        refine wpAnyH_take (i := 5) (v := ?_) (List.getElem?_toArray.trans (List.getElem?_cons_succ.trans (List.getElem?_cons_succ.trans (List.getElem?_cons_succ.trans (List.getElem?_cons_succ.trans (List.getElem?_cons_succ.trans (List.getElem?_cons_zero))))))) (by kernel_rfl) (by kernel_rfl) (by kernel_rfl) (fun _ _ _ h => h) (Or.inl ⟨by rfl, ?_⟩) (by assumption) ?_
        rotate_left
        · intro w' hSw; (try dsimp only at hSw); go_simp; try with_reducible rfl
        try simp only [Act.put, List.setIfInBounds_toArray, List.set_cons_zero, List.set_cons_succ]
        refine wpAnyH_take (i := 6) (v := ?_) (List.getElem?_toArray.trans (List.getElem?_cons_succ.trans (List.getElem?_cons_succ.trans (List.getElem?_cons_succ.trans (List.getElem?_cons_succ.trans (List.getElem?_cons_succ.trans (List.getElem?_cons_succ.trans (List.getElem?_cons_zero)))))))) (by kernel_rfl) (by kernel_rfl) (by kernel_rfl) (fun _ _ _ h => h) (Or.inl ⟨by rfl, ?_⟩) (by assumption) ?_
        rotate_left
        · intro w' hSw; (try dsimp only at hSw); go_simp; try with_reducible rfl
        try simp only [Act.put, List.setIfInBounds_toArray, List.set_cons_zero, List.set_cons_succ]
        refine wpAnyH_take (i := 7) (v := ?_) (List.getElem?_toArray.trans (List.getElem?_cons_succ.trans (List.getElem?_cons_succ.trans (List.getElem?_cons_succ.trans (List.getElem?_cons_succ.trans (List.getElem?_cons_succ.trans (List.getElem?_cons_succ.trans (List.getElem?_cons_succ.trans (List.getElem?_cons_zero))))))))) (by kernel_rfl) (by kernel_rfl) (by kernel_rfl) (fun _ _ _ h => h) (Or.inl ⟨by rfl, ?_⟩) (by assumption) ?_
        rotate_left
        · intro w' hSw; (try dsimp only at hSw); go_simp; try with_reducible rfl
        try simp only [Act.put, List.setIfInBounds_toArray, List.set_cons_zero, List.set_cons_succ]
        refine wpAnyH_take (i := 8) (v := ?_) (List.getElem?_toArray.trans (List.getElem?_cons_succ.trans (List.getElem?_cons_succ.trans (List.getElem?_cons_succ.trans (List.getElem?_cons_succ.trans (List.getElem?_cons_succ.trans (List.getElem?_cons_succ.trans (List.getElem?_cons_succ.trans (List.getElem?_cons_succ.trans (List.getElem?_cons_zero)))))))))) (by kernel_rfl) (by kernel_rfl) (by kernel_rfl) (fun _ _ _ h => h) (Or.inl ⟨by rfl, ?_⟩) (by assumption) ?_
        rotate_left
        · intro w' hSw; (try dsimp only at hSw); go_simp; try with_reducible rfl
        try simp only [Act.put, List.setIfInBounds_toArray, List.set_cons_zero, List.set_cons_succ]
        refine wpAnyH_take (i := 9) (v := ?_) (List.getElem?_toArray.trans (List.getElem?_cons_succ.trans (List.getElem?_cons_succ.trans (List.getElem?_cons_succ.trans (List.getElem?_cons_succ.trans (List.getElem?_cons_succ.trans (List.getElem?_cons_succ.trans (List.getElem?_cons_succ.trans (List.getElem?_cons_succ.trans (List.getElem?_cons_succ.trans (List.getElem?_cons_zero))))))))))) (by kernel_rfl) (by kernel_rfl) (by kernel_rfl) (fun _ _ _ h => h) (Or.inl ⟨by rfl, ?_⟩) (by assumption) ?_
        rotate_left
        · intro w' hSw; (try dsimp only at hSw); go_simp; try with_reducible rfl
        try simp only [Act.put, List.setIfInBounds_toArray, List.set_cons_zero, List.set_cons_succ]
        refine wpAnyH_take (i := 10) (v := ?_) (List.getElem?_toArray.trans (List.getElem?_cons_succ.trans (List.getElem?_cons_succ.trans (List.getElem?_cons_succ.trans (List.getElem?_cons_succ.trans (List.getElem?_cons_succ.trans (List.getElem?_cons_succ.trans (List.getElem?_cons_succ.trans (List.getElem?_cons_succ.trans (List.getElem?_cons_succ.trans (List.getElem?_cons_succ.trans (List.getElem?_cons_zero)))))))))))) (by kernel_rfl) (by kernel_rfl) (by kernel_rfl) (fun _ _ _ h => h) (Or.inl ⟨by rfl, ?_⟩) (by assumption) ?_
        rotate_left
        · intro w' hSw; (try dsimp only at hSw); go_simp; try with_reducible rfl
        try simp only [Act.put, List.setIfInBounds_toArray, List.set_cons_zero, List.set_cons_succ]
        refine wpAnyH_take (i := 11) (v := ?_) (List.getElem?_toArray.trans (List.getElem?_cons_succ.trans (List.getElem?_cons_succ.trans (List.getElem?_cons_succ.trans (List.getElem?_cons_succ.trans (List.getElem?_cons_succ.trans (List.getElem?_cons_succ.trans (List.getElem?_cons_succ.trans (List.getElem?_cons_succ.trans (List.getElem?_cons_succ.trans (List.getElem?_cons_succ.trans (List.getElem?_cons_succ.trans (List.getElem?_cons_zero))))))))))))) (by kernel_rfl) (by kernel_rfl) (by kernel_rfl) (fun _ _ _ h => h) (Or.inl ⟨by rfl, ?_⟩) (by assumption) ?_
        rotate_left
        · intro w' hSw; (try dsimp only at hSw); go_simp; try with_reducible rfl
        try simp only [Act.put, List.setIfInBounds_toArray, List.set_cons_zero, List.set_cons_succ]
        refine wpAnyH_take (i := 12) (v := ?_) (List.getElem?_toArray.trans (List.getElem?_cons_succ.trans (List.getElem?_cons_succ.trans (List.getElem?_cons_succ.trans (List.getElem?_cons_succ.trans (List.getElem?_cons_succ.trans (List.getElem?_cons_succ.trans (List.getElem?_cons_succ.trans (List.getElem?_cons_succ.trans (List.getElem?_cons_succ.trans (List.getElem?_cons_succ.trans (List.getElem?_cons_succ.trans (List.getElem?_cons_succ.trans (List.getElem?_cons_zero)))))))))))))) (by kernel_rfl) (by kernel_rfl) (by kernel_rfl) (fun _ _ _ h => h) (Or.inl ⟨by rfl, ?_⟩) (by assumption) ?_
        rotate_left
        · intro w' hSw; (try dsimp only at hSw); go_simp; try with_reducible rfl
        try simp only [Act.put, List.setIfInBounds_toArray, List.set_cons_zero, List.set_cons_succ]
        refine wpAnyH_take (i := 13) (v := ?_) (List.getElem?_toArray.trans (List.getElem?_cons_succ.trans (List.getElem?_cons_succ.trans (List.getElem?_cons_succ.trans (List.getElem?_cons_succ.trans (List.getElem?_cons_succ.trans (List.getElem?_cons_succ.trans (List.getElem?_cons_succ.trans (List.getElem?_cons_succ.trans (List.getElem?_cons_succ.trans (List.getElem?_cons_succ.trans (List.getElem?_cons_succ.trans (List.getElem?_cons_succ.trans (List.getElem?_cons_succ.trans (List.getElem?_cons_zero))))))))))))))) (by kernel_rfl) (by kernel_rfl) (by kernel_rfl) (fun _ _ _ h => h) (Or.inl ⟨by rfl, ?_⟩) (by assumption) ?_
        rotate_left
        · intro w' hSw; (try dsimp only at hSw); go_simp; try with_reducible rfl
        try simp only [Act.put, List.setIfInBounds_toArray, List.set_cons_zero, List.set_cons_succ]
        refine wpAnyH_ready (rs := [0]) (by kernel_rfl) (by simp) ?_
        refine AllReadyH.cons (List.getElem?_toArray.trans (List.getElem?_cons_zero)) (fun K hK => ?_) AllReadyH.nil
        go_simp
        refine hK.out _ _ hS0 (fun hHeld => ?_)
        clear hK K
        try simp only [Act.put, List.setIfInBounds_toArray, List.set_cons_zero, List.set_cons_succ]
        refine wpAnyH_ready (rs := [1]) (by kernel_rfl) (by simp) ?_
        refine AllReadyH.cons (List.getElem?_toArray.trans (List.getElem?_cons_succ.trans (List.getElem?_cons_zero))) (fun K hK => ?_) AllReadyH.nil
        go_simp
        refine hK.out _ _ hS0 (fun hHeld => ?_)
        clear hK K
        try simp only [Act.put, List.setIfInBounds_toArray, List.set_cons_zero, List.set_cons_succ]
        refine wpAnyH_ready (rs := [14]) (by kernel_rfl) (by simp) ?_
        refine AllReadyH.cons (List.getElem?_toArray.trans (List.getElem?_cons_succ.trans (List.getElem?_cons_succ.trans (List.getElem?_cons_succ.trans (List.getElem?_cons_succ.trans (List.getElem?_cons_succ.trans (List.getElem?_cons_succ.trans (List.getElem?_cons_succ.trans (List.getElem?_cons_succ.trans (List.getElem?_cons_succ.trans (List.getElem?_cons_succ.trans (List.getElem?_cons_succ.trans (List.getElem?_cons_succ.trans (List.getElem?_cons_succ.trans (List.getElem?_cons_succ.trans (List.getElem?_cons_zero)))))))))))))))) (fun K hK => ?_) AllReadyH.nil
        go_simp
        have HWT := with_any wr.drew A ca L p sk HQ.out.2.2.1 HQ.out.2.2.2.1 HQ.out.1
        rw [HQ.out.2.2.2.2.2.2, HST.out] at HWT
        refine HWT.mono ?_
        rintro e w5 ⟨A5, c5, rfl, hrow5, hb5⟩
        have hbr : Below wr.heap.size wr w5 := below_undr hb5
        have h3 : g3 < wr.heap.size := by have := HI.out.2.2.2.1; have := HB.out.2.2.2.1; omega
        have hbl : b < wr.heap.size := Nat.lt_trans HQ.out.2.2.2.2.2.1 h3
        have z0 := (hbr.cell (p := ⟨g3, 0, none⟩) h3).trans hc0
        have hS5 : w5.cell? ⟨g3, 1, none⟩ = some (.slice (some ⟨b, o, none⟩) nw cw) ∧ w5.cell? ⟨b, o + k * 2, none⟩ = some (.int .i64 (p : Int)) ∧ w5.cell? ⟨b, o + k * 2 + 1, none⟩ = some (.string st) :=
          ⟨(hbr.cell (p := ⟨g3, 1, none⟩) h3).trans hc1, (hbr.cell (p := ⟨b, o + k * 2, none⟩) hbl).trans y1, (hbr.cell (p := ⟨b, o + k * 2 + 1, none⟩) hbl).trans y2⟩
        have hblk5 := HQ.out.2.1.below hbr h3
        have hfr5 := hblk5.frozen 0
        refine hK.out _ _ hS5 (fun hHeld => ?_)
        clear hK K
        try simp only [Act.put, List.setIfInBounds_toArray, List.set_cons_zero, List.set_cons_succ]
        refine wpAnyH_ready (rs := [15]) (by kernel_rfl) (by simp) ?_
        refine AllReadyH.cons (List.getElem?_toArray.trans (List.getElem?_cons_succ.trans (List.getElem?_cons_succ.trans (List.getElem?_cons_succ.trans (List.getElem?_cons_succ.trans (List.getElem?_cons_succ.trans (List.getElem?_cons_succ.trans (List.getElem?_cons_succ.trans (List.getElem?_cons_succ.trans (List.getElem?_cons_succ.trans (List.getElem?_cons_succ.trans (List.getElem?_cons_succ.trans (List.getElem?_cons_succ.trans (List.getElem?_cons_succ.trans (List.getElem?_cons_succ.trans (List.getElem?_cons_succ.trans (List.getElem?_cons_zero))))))))))))))))) (fun K hK => ?_) AllReadyH.nil
        go_simp
        refine hK.out _ _ hS5 (fun hHeld => ?_)
        clear hK K
        try simp only [Act.put, List.setIfInBounds_toArray, List.set_cons_zero, List.set_cons_succ]
        refine wpAnyH_ready (rs := [16]) (by kernel_rfl) (by simp) ?_
        refine AllReadyH.cons (List.getElem?_toArray.trans (List.getElem?_cons_succ.trans (List.getElem?_cons_succ.trans (List.getElem?_cons_succ.trans (List.getElem?_cons_succ.trans (List.getElem?_cons_succ.trans (List.getElem?_cons_succ.trans (List.getElem?_cons_succ.trans (List.getElem?_cons_succ.trans (List.getElem?_cons_succ.trans (List.getElem?_cons_succ.trans (List.getElem?_cons_succ.trans (List.getElem?_cons_succ.trans (List.getElem?_cons_succ.trans (List.getElem?_cons_succ.trans (List.getElem?_cons_succ.trans (List.getElem?_cons_succ.trans (List.getElem?_cons_zero)))))))))))))))))) (fun K hK => ?_) AllReadyH.nil
        go_simp
        have hne1 : ∀ v, (w5.setCell ⟨g3, 0, none⟩ v).cell? ⟨g3, 1, none⟩ = w5.cell? ⟨g3, 1, none⟩ := fun v => World.cell?_setCell_other _ _ _ _ (by intro e; injection e with e1 e2; omega)
        have hne2 : ∀ v x, (w5.setCell ⟨g3, 0, none⟩ v).cell? ⟨b, x, none⟩ = w5.cell? ⟨b, x, none⟩ := fun v x => World.cell?_setCell_other _ _ _ _ (by have := HQ.out.2.2.2.2.2.1; intro e; injection e with e1 e2; omega)
        refine hK.out _ _ ⟨(hne1 _).trans hS5.1, (hne2 _ _).trans hS5.2.1, (hne2 _ _).trans hS5.2.2⟩ (fun _ => ?_)
        clear hK K
        refine wpAnyH_done (by kernel_rfl) ?_ _
        have HR := Lib.hid (And.intro hrow5 (And.intro hblk5 (And.intro hbr h3)))
        clear hrow5 hblk5 hbr h3 hb5 hS5 hHeld hne1 hne2 HWT
        go_wp2_with fail
        go_roundw
        case rel =>
          have hg6 : w5.grownBy (w5.setCell ⟨g3, 0, none⟩ (.slice A5 L.length c5)) (some g3) := only_setCell (only_refl _ _) (.inl rfl) _
          refine ⟨k + 1, A5, c5, ?_, by go_num, ?_, ?_, ?_, ?_, ?_, fun g hg _ => far_row HR.out.1 (by have := HI.out.2.2.2.1; simp; omega)⟩
          · rw [HN.out.2.1]; omega
          · rw [HS2.out]
            have := HR.out.2.1.set_ 0 (.slice A5 L.length c5)
            simpa [refCells] using this
          · rw [HS2.out]
            obtain ⟨A9, c9, hv9, _, _, hvs9, _⟩ := vs_of_row (row_kept HR.out.1 hg6 HR.out.2.2.2)
            injection hv9 with hA9
            subst hA9
            exact hvs9
          · exact (HI.out.2.2.1.trans (HR.out.2.2.1.mono (Nat.le_of_lt HR.out.2.2.2))).setCell (Nat.le_refl _) _
          · have h1 := HI.out.2.2.2.1
            have h2 := HR.out.2.2.1.size
            simp
            omega
          · refine (HI.out.2.2.2.2.1.below HR.out.2.2.1 HI.out.2.2.2.1).far ?_ _
            have := HB.out.2.2.2.1
            simp
            omega
        case measure =>
          have := HN.out.2.1
          simp [intOf]
          omega
    · obtain rfl : k = nw := by omega
      have hlay : lay all surv 0 (d.waits.take k) d.has = lay all surv 0 d.waits d.has := by rw [List.take_of_length_le (by rw [HN.out.2.1]; omega)]
      have hfr := HI.out.1.frozen 1
      have hnl : ¬ (k : Int) < (k : Int) := by omega
      clear enh enw ens
      go_wp2_with (first | (with_reducible refine st_load 45 ?_; refine stopped ?_) | fail)
      refine go_on ?_
      have hb3 := HI.out.1.set_ 1 (.slice none 0 0)
      have hb6 := HI.out.2.2.2.2.1.far (p := ⟨g3, 1, none⟩) (by have := HB.out.2.2.2.1; simp; omega) (.slice none 0 0)
      have hbel := HI.out.2.2.1.setCell (p := ⟨g3, 1, none⟩) (Nat.le_refl _) (.slice none 0 0)
      have hg3 : wr.grownBy (wr.setCell ⟨g3, 1, none⟩ (.slice none 0 0)) (some g3) := only_setCell (only_refl _ _) (.inl rfl) _
      have hlen : (lay all surv 0 (d.waits.take k) d.has).length = d.has.length := lay_length _ _ _ _ _
      have hf3 := HI.out.2.2.2.2.2 g3 (by have := HB.out.2.2.2.1; omega) (far_below HP.out.1 (by have := HB.out.2.2.2.2.2; omega) (by rw [svs_length]; exact id))
      have hf6 := HI.out.2.2.2.2.2 g6 (by omega) (far_below HP.out.1 (by have := HB.out.2.2.2; omega) (by rw [svs_length]; exact id))
      have hvs := vs_grown HI.out.2.1 (Nat.le_refl _) hg3 hf3 (by rw [svs_length, hlen]; exact id)
      rw [hlay] at hb3 hvs
      have hb3' : Blk (wr.setCell ⟨g3, 1, none⟩ (.slice none 0 0)) g3 45 (refCells A none S0 ca 0 cs0 (d.laid all surv)).toArray := by
        have e : (refCells A none S0 ca 0 cs0 (d.laid all surv)).toArray = ((refCells A W S0 ca cw cs0 { d with has := lay all surv 0 d.waits d.has }).toArray).setIfInBounds 1 (.slice none 0 0) := by
          simp [refCells, Dk.laid]
        rw [e]
        exact hb3
      obtain ⟨D, eD⟩ : ∃ D, d.laid all surv = D := ⟨_, rfl⟩
      have hDs : D.surv = d.surv ∧ D.waits = [] ∧ D.has = lay all surv 0 d.waits d.has := by rw [← eD]; exact ⟨rfl, rfl, rfl⟩
      have hok : D.ok := eD ▸ Dk.laid_ok HO.out.1 all surv
      rw [eD] at hb3'
      refine wpList_load_at rfl 45 (.tmp 3) rfl g3 0 rfl (refCells A none S0 ca 0 cs0 D).toArray _ (Blk.cells hb3') Try.underlying45 rfl rdisk_size ?_
      refine wpList_store_whole rfl 45 (.tmp 6) (.tmp 45) rfl g6 (refCells A none S0 ca 0 cs0 D) rfl rfl 45 (refCells none none none 0 0 0 ⟨[], [], false, 0, []⟩) hb6 rdisk_size rfl (refCells_one _ _ _ _ _ _ _) ?_
      intro w10 hb10 hg10
      simp only [Act.put, List.setIfInBounds_toArray, List.set_cons_zero, List.set_cons_succ]
      repeat (first | go_values | go_skip | go_guarded | go_step)
      refine bodyPost_rowo rfl g6 rfl 45 _ _ hb10 Try.underlying45 rfl rdisk_size rfl ?_
      have h36 := HB.out.2.2.2.1
      have hsz : g3 ≤ wr.heap.size := by have := HI.out.2.2.2.1; omega
      have hba : Below g3 w w10 := hbel.trans (only_below hg10 (by simpa using hsz) (fun g' e => by cases e; omega))
      have hvs10 := vs_grown hvs (by simp) hg10 hf6 (by rw [svs_length, lay_length]; exact id)
      have hsl : wr.heap.size ≤ w10.heap.size := by have := hg10.size; simpa using this
      rw [← HB.out.2.2.2.2.2] at hba
      show RefPost w _ d (d.laid all surv) (fun v => v) _ _
      rw [eD]
      refine ⟨_, rfl, ⟨hok, A, none, S0, ca, 0, cs0, rfl, ?_, ?_, ?_⟩, ?_, hba⟩
      · rw [hDs.2.2]
        exact hvs10.more hsl
      · rw [hDs.2.1]
        exact Vs.nil_
      · rw [hDs.1]
        exact (HP.out.2.2.1.below hba).more hba.size
      · intro g hg hfar
        have h0 := hfar _ _ _ _ _ _ rfl
        refine ref_far ⟨?_, ?_, ?_⟩
        · rw [hDs.2.2, lay_length]
          exact HI.out.2.2.2.2.2 g (by have := HB.out.2.2.2; omega) h0.1
        · rw [hDs.2.1]
          intro h
          simp at h
        · rw [hDs.1]
          exact h0.2.2
end Go.Proofs.Ytdhaikcmgegfoaa
