/-
  Package pvm's Restore of what Save wrote, by its contract. Conditions: the theorem's own premises.
-/
import Derived.Test.YthgiehlfmdobkaaDoorPvmFnW
import Derived.Test.YthgiehlfmdobkaaDoorPvmFnE
namespace Go.Proofs.YthgiehlfmdobkaaDoor
open Go.RowKit

theorem made_zv (n : Nat) : madeCells #[Value.int .i64 0] n = (zv (List.replicate n 0)).toArray := by
  apply Array.ext'
  rw [toList_madeCells_one]
  simp [zv]
/-- Restore on its way: the reader, the machine, the result -/
structure ReAt (w W : World) (gr gm : Nat) (l : List UInt8) (k : Nat) (cells : List Value) : Prop where
  rd : Rd W gr l k .nilIface
  blk : Blk W gm 27 cells.toArray
  rz : Blk W w.heap.size 27 (mcells (newM 0) none 0 0).toArray
  bel : Below w.heap.size w W
  o1 : w.heap.size < gr
  o2 : gr < gm
section
variable {w W W' : World} {gr gm k k' : Nat} {l : List UInt8} {cells : List Value}
theorem ReAt.num (h : ReAt w W gr gm l k cells) (hr : Rd W' gr l k' .nilIface) (hg : W.grownBy W' (some gr)) : ReAt w W' gr gm l k' cells :=
  ⟨hr, h.blk.grown hg (fun e => by have := h.o2; simp only [Option.some.injEq] at e; omega), h.rz.grown hg (fun e => by have := h.o1; simp only [Option.some.injEq] at e; omega), h.bel.grown hg h.bel.size (fun j e => by cases e; exact Nat.le_of_lt h.o1), h.o1, h.o2⟩
theorem ReAt.set (h : ReAt w W gr gm l k cells) (i : Nat) (u : Value) : ReAt w (W.setCell ⟨gm, i, none⟩ u) gr gm l k (cells.set i u) :=
  ⟨h.rd.below ((Below.refl gm W).setCell (p := ⟨gm, i, none⟩) (Nat.le_refl _) u) h.o2, by have := h.blk.set_ i u; rwa [List.setIfInBounds_toArray] at this, h.rz.far (p := ⟨gm, i, none⟩) (by have := h.o1; have := h.o2; show w.heap.size ≠ gm; omega) u, h.bel.setCell (by have := h.o1; have := h.o2; show w.heap.size ≤ gm; omega) u, h.o1, h.o2⟩
theorem ReAt.below (h : ReAt w W gr gm l k cells) (hb : Below W.heap.size W W') : ReAt w W' gr gm l k cells :=
  ⟨h.rd.below hb h.rd.lt, h.blk.below hb h.blk.lt, h.rz.below hb h.rz.lt, h.bel.trans (hb.mono h.bel.size), h.o1, h.o2⟩
theorem ReAt.words (h : ReAt w W gr gm l k cells) (hr : Rd W' gr l k' .nilIface) {c' : List Value} (hb : Blk W' gm 27 c'.toArray) (hk : Kept (fun j => j = gr ∨ j = gm) W W') : ReAt w W' gr gm l k' c' :=
  ⟨hr, hb, hk.blk h.rz (by have := h.o1; have := h.o2; omega), h.bel.trans (hk.below (fun j e => by have := h.o1; have := h.o2; omega) h.bel.size), h.o1, h.o2⟩
theorem ReAt.words2 (h : ReAt w W gr gm l k cells) (hr : Rd W' gr l k' .nilIface) {b : Nat} (hb : gm < b) (hk : Kept (fun j => j = gr ∨ j = b) W W') : ReAt w W' gr gm l k' cells :=
  ⟨hr, hk.blk h.blk (by have := h.o2; omega), hk.blk h.rz (by have := h.o1; have := h.o2; omega), h.bel.trans (hk.below (fun j e => by have := h.o1; have := h.o2; omega) h.bel.size), h.o1, h.o2⟩
end
def NumSays (gr : Nat) (l : List UInt8) (k' : Nat) (v : Nat) (W : World) (e : Ending) (w' : World) : Prop := e = .returned (.int .u64 (v : Int)) ∧ Rd w' gr l k' .nilIface ∧ W.grownBy w' (some gr)
theorem numSays {gr : Nat} {l a b : List UInt8} {k s v : Nat} (hl : l = a ++ leB v s ++ b) (ha : a.length = k) (h1 : 1 ≤ s) (h8 : s ≤ 8) (hv : v < 256 ^ s) (W : World) (hr : Rd W gr l k .nilIface) : Calls Tryd.prog 39 #[.pointer (some ⟨gr, 0, none⟩), .int .i64 s] W (NumSays gr l (k + s) v W) := by
  have h := num_at gr l k s W hr h1 h8 (by rw [hl, List.length_append, List.length_append, leB_length, ha]; omega)
  unfold NumPost at h
  have hc : (l.take (k + s)).drop k = leB v s := by rw [hl]; exact cut_mid _ _ _ ha (leB_length v s)
  rw [hc, leN_leB, Nat.mod_eq_of_lt hv] at h
  exact h

set_option maxRecDepth 100000 in
set_option maxHeartbeats 4000000 in
set_option linter.unusedSimpArgs false in
theorem pvBack (M : Mach) (hok : MOk M) (hmay : mayM M = true) (A : Option Addr) (n cp : Nat) (hl : (saveM M).length = n) (_hc : n ≤ cp) (w : World) (hA : Bs w w.heap.size A (saveM M)) : Calls Tryd.prog 18 #[.slice A n cp] w (RestPost w M) := by
  have hsf := save_form hmay
  have hsl := saveM_len (M := M)
  have hfacts := of_decide_eq_true hmay
  obtain ⟨np, ep⟩ : ∃ np : Nat, M.p = (np : Int) := ⟨M.p.toNat, by omega⟩
  obtain ⟨ns, es⟩ : ∃ ns : Nat, M.s = (ns : Int) := ⟨M.s.toNat, by omega⟩
  obtain ⟨nt, et⟩ : ∃ nt : Nat, M.t = (nt : Int) := ⟨M.t.toNat, by omega⟩
  obtain ⟨q, eq⟩ : ∃ q, M.mem.length = q := ⟨_, rfl⟩
  obtain ⟨l, el⟩ : ∃ l, saveM M = l := ⟨_, rfl⟩
  rw [ep, es, et, Int.toNat_natCast, Int.toNat_natCast, Int.toNat_natCast, eq] at hsf
  rw [el] at hsf hsl hl hA
  subst hl
  have hq64 : q ≤ 64 := by rw [← eq]; exact hfacts.2.2.1
  have hnp : (np : Int) < 65536 := by omega
  have hns : (ns : Int) < 256 := by omega
  have hnt : (nt : Int) < 256 := by omega
  have hR : ((List.range 8).map M.r).length = 8 := by simp
  have hRB := wordB_len ((List.range 8).map M.r)
  have hmB := wordB_len M.mem
  rw [hR] at hRB
  rw [eq] at hmB
  have htot : l.length = 69 + 8 * q := by rw [hsf]; simp only [List.length_append, leB_length, hRB, hmB]
  have N0 := fun gr W => numSays (gr := gr) (l := l) (a := []) (k := 0) (s := 2) (v := np) (b := leB ns 1 ++ leB nt 1 ++ wordB ((List.range 8).map M.r) ++ leB q 1 ++ wordB M.mem) (by rw [hsf]; simp only [List.nil_append, List.append_assoc]) rfl (by decide) (by decide) (by show np < 65536; omega) W
  have N1 := fun gr W => numSays (gr := gr) (l := l) (a := leB np 2) (k := 2) (s := 1) (v := ns) (b := leB nt 1 ++ wordB ((List.range 8).map M.r) ++ leB q 1 ++ wordB M.mem) (by rw [hsf]; simp only [List.append_assoc]) (leB_length np 2) (by decide) (by decide) (by show ns < 256; omega) W
  have N2 := fun gr W => numSays (gr := gr) (l := l) (a := leB np 2 ++ leB ns 1) (k := 3) (s := 1) (v := nt) (b := wordB ((List.range 8).map M.r) ++ leB q 1 ++ wordB M.mem) (by rw [hsf]; simp only [List.append_assoc]) (by simp only [List.length_append, leB_length]) (by decide) (by decide) (by show nt < 256; omega) W
  have N3 := fun gr W => numSays (gr := gr) (l := l) (a := leB np 2 ++ leB ns 1 ++ leB nt 1 ++ wordB ((List.range 8).map M.r)) (k := 68) (s := 1) (v := q) (b := wordB M.mem) hsf (by simp only [List.length_append, leB_length, hRB]) (by decide) (by decide) (by show q < 256; omega) W
  have C1 : ∀ k, k < 8 → (l.take (4 + 8 * k + 8)).drop (4 + 8 * k) = leB (u64N (((List.range 8).map M.r).getD k 0)) 8 := fun k hk => word_at (a := leB np 2 ++ leB ns 1 ++ leB nt 1) (b := leB q 1 ++ wordB M.mem) (by rw [hsf]; simp only [List.append_assoc]) (by simp only [List.length_append, leB_length]) (by rw [hR]; exact hk)
  have C2 : ∀ k, k < q → (l.take (69 + 8 * k + 8)).drop (69 + 8 * k) = leB (u64N (M.mem.getD k 0)) 8 := fun k hk => word_at (a := leB np 2 ++ leB ns 1 ++ leB nt 1 ++ wordB ((List.range 8).map M.r) ++ leB q 1) (b := []) (by rw [List.append_nil]; exact hsf) (by simp only [List.length_append, leB_length, hRB]) (by rw [eq]; exact hk)
  have H := Lib.hid (And.intro hA (And.intro hok (And.intro ep (And.intro es (And.intro et (And.intro eq (And.intro htot (And.intro hsl hmay))))))))
  have HN := Lib.hid (And.intro N0 (And.intro N1 (And.intro N2 (And.intro N3 (And.intro C1 (And.intro C2 hR))))))
  have hmk := fun W => makeWords W q (by omega) .u64
  rw [made_zv] at hmk
  have HM := Lib.hid hmk
  clear hsf hsl hfacts hA hok ep es et eq htot hR hRB hmB N0 N1 N2 N3 C1 C2 el hmay hmk
  go_enter Tryd.func18, Tryd.ntmps18
  go_wp2_with (first
    | (with_reducible refine st_alloc 27 ?_; refine stopped ?_)
    | fail)
  refine go_on ?_
  refine wpList_alloc rfl 27 rfl (mcells (newM 0) none 0 0).toArray mach_zero ?_
  intro w1 hb1 hw1 hz1
  simp only [Act.put, List.setIfInBounds_toArray, List.set_cons_zero, List.set_cons_succ]
  go_wp2_with (first
    | (go_at_call 38; refine stopped ?_)
    | fail)
  refine go_on ?_
  refine (read_any A l cp w.heap.size w1 (H.out.1.below hw1) hw1.size (by have := H.out.2.2.2.2.2.2.2.1; omega)).mono ?_
  rintro e w2 ⟨gr, rfl, hgr, hrd2, hb2⟩
  dsimp only
  go_wp2_with (first
    | (with_reducible refine st_alloc 27 ?_; refine stopped ?_)
    | fail)
  refine go_on ?_
  refine wpList_alloc rfl 27 rfl (mcells (newM 0) none 0 0).toArray mach_zero ?_
  intro w3 hb3 hw3 hz3
  have R3 := Lib.hid (ReAt.mk (w := w) (hrd2.below hw3 hrd2.lt) hb3 ((hb1.below hb2 hb1.lt).below hw3 (Nat.lt_of_lt_of_le hb1.lt hb2.size)) ((hw1.trans (hb2.mono hw1.size)).trans (hw3.mono (Nat.le_trans hw1.size hb2.size))) (by omega) hrd2.lt)
  obtain ⟨gm, egm⟩ : ∃ x, w2.heap.size = x := ⟨_, rfl⟩
  rw [egm] at R3
  simp only [Act.put, List.setIfInBounds_toArray, List.set_cons_zero, List.set_cons_succ]
  rw [egm]
  clear hb1 hw1 hz1 hgr hrd2 hb2 hb3 hw3 hz3 egm
  go_wp2_with (first
    | (go_at_call 39; refine stopped ?_)
    | fail)
  refine go_on ?_
  refine (HN.out.1 gr w3 R3.out.rd).mono ?_
  rintro e x4 ⟨rfl, hrd4, hg4⟩
  have Q4 := Lib.hid (R3.out.num hrd4 hg4)
  clear hrd4 hg4
  dsimp only
  have hf4 := Q4.out.blk.frozen 0
  have hc4 : x4.cell? ⟨gm, 0, none⟩ = some (.int .i64 0) := by rw [Q4.out.blk.cell]; rfl
  go_wp2_with (first
    | (go_at_call 39; refine stopped ?_)
    | fail)
  have R4 := Lib.hid (Q4.out.set 0 (.int .i64 (np : Int)))
  obtain ⟨w4, ew4⟩ : ∃ W, x4.setCell ⟨gm, 0, none⟩ (.int .i64 (np : Int)) = W := ⟨_, rfl⟩
  rw [ew4] at R4
  clear hf4 hc4 Q4
  rw [ew4]
  clear ew4
  refine go_on ?_
  refine (HN.out.2.1 gr w4 R4.out.rd).mono ?_
  rintro e x5 ⟨rfl, hrd5, hg5⟩
  have Q5 := Lib.hid (R4.out.num hrd5 hg5)
  clear hrd5 hg5
  dsimp only
  have hf5 := Q5.out.blk.frozen 10
  have hc5 : x5.cell? ⟨gm, 10, none⟩ = some (.int .i64 0) := by rw [Q5.out.blk.cell]; rfl
  go_wp2_with (first
    | (go_at_call 39; refine stopped ?_)
    | fail)
  have R5 := Lib.hid (Q5.out.set 10 (.int .i64 (ns : Int)))
  obtain ⟨w5, ew5⟩ : ∃ W, x5.setCell ⟨gm, 10, none⟩ (.int .i64 (ns : Int)) = W := ⟨_, rfl⟩
  rw [ew5] at R5
  clear hf5 hc5 Q5
  rw [ew5]
  clear ew5
  refine go_on ?_
  refine (HN.out.2.2.1 gr w5 R5.out.rd).mono ?_
  rintro e x6 ⟨rfl, hrd6, hg6⟩
  have Q6 := Lib.hid (R5.out.num hrd6 hg6)
  clear hrd6 hg6
  dsimp only
  have hf6 := Q6.out.blk.frozen 11
  have hc6 : x6.cell? ⟨gm, 11, none⟩ = some (.int .i64 0) := by rw [Q6.out.blk.cell]; rfl
  go_wp2_with (first
    | (go_at_call 40; refine stopped ?_)
    | fail)
  have R6 := Lib.hid (Q6.out.set 11 (.int .i64 (nt : Int)))
  obtain ⟨w6, ew6⟩ : ∃ W, x6.setCell ⟨gm, 11, none⟩ (.int .i64 (nt : Int)) = W := ⟨_, rfl⟩
  rw [ew6] at R6
  clear hf6 hc6 Q6
  rw [ew6]
  clear ew6
  refine go_on ?_
  refine (pvReadWords w6 gr l 4 gm 27 ((((mcells (newM 0) none 0 0).set 0 (.int .i64 (np : Int))).set 10 (.int .i64 (ns : Int))).set 11 (.int .i64 (nt : Int))) 1 ((List.range 8).map M.r) 8 8 R6.out.rd R6.out.blk R6.out.o2 (show 1 + 8 ≤ 12 by decide) HN.out.2.2.2.2.2.2 (fun x hx => by obtain ⟨j, _, rfl⟩ := List.mem_map.1 hx; exact H.out.2.1.r j) (by decide) (by have := H.out.2.2.2.2.2.2.1; omega) HN.out.2.2.2.2.1).mono ?_
  rintro e w7 ⟨rfl, hrd7, hb7, hk7⟩
  rw [show splice ((((mcells (newM 0) none 0 0).set 0 (.int .i64 (np : Int))).set 10 (.int .i64 (ns : Int))).set 11 (.int .i64 (nt : Int))) 1 (zv ((List.range 8).map M.r)) = mcells { M with p := (np : Int), mem := [], s := (ns : Int), t := (nt : Int) } none 0 0 from rfl] at hb7
  have R7 := Lib.hid (R6.out.words hrd7 hb7 hk7)
  clear hrd7 hb7 hk7
  dsimp only
  go_wp2_with (first
    | (go_at_call 39; refine stopped ?_)
    | fail)
  refine go_on ?_
  refine (HN.out.2.2.2.1 gr w7 R7.out.rd).mono ?_
  rintro e x8 ⟨rfl, hrd8, hg8⟩
  have Q8 := Lib.hid (R7.out.num hrd8 hg8)
  clear hrd8 hg8
  dsimp only
  have hf8 := Q8.out.blk.frozen 9
  have hc8 : x8.cell? ⟨gm, 9, none⟩ = some (.slice none 0 0) := by rw [Q8.out.blk.cell]; rfl
  have hmk := HM.out x8
  obtain ⟨zs, ezs⟩ : ∃ zs, (zv (List.replicate q 0)).toArray = zs := ⟨_, rfl⟩
  rw [ezs] at hmk
  have hgl : gm < x8.heap.size := Q8.out.blk.lt
  go_wp2_with (first
    | (go_at_call 40; refine stopped ?_)
    | fail)
  have hsz8 : (x8.setCell ⟨gm, 9, none⟩ (.slice (some ⟨x8.heap.size, 0, none⟩) q q)).heap.size = x8.heap.size := by simp [World.setCell]
  have hbw := Blk.new (x8.setCell ⟨gm, 9, none⟩ (.slice (some ⟨x8.heap.size, 0, none⟩) q q)) 2 zs
  rw [hsz8] at hbw
  have R8 := Lib.hid ((Q8.out.set 9 (.slice (some ⟨x8.heap.size, 0, none⟩) q q)).below (below_alloc _ (.cells zs 2)))
  rw [show (mcells { M with p := (np : Int), mem := [], s := (ns : Int), t := (nt : Int) } none 0 0).set 9 (.slice (some ⟨x8.heap.size, 0, none⟩) q q) = mcells { M with p := (np : Int), mem := [], s := (ns : Int), t := (nt : Int) } (some ⟨x8.heap.size, 0, none⟩) q q from rfl] at R8
  obtain ⟨gw, egw⟩ : ∃ x, x8.heap.size = x := ⟨_, rfl⟩
  obtain ⟨w8, ew8⟩ : ∃ W, (x8.setCell ⟨gm, 9, none⟩ (.slice (some ⟨x8.heap.size, 0, none⟩) q q)).alloc (.cells zs 2) = W := ⟨_, rfl⟩
  rw [ew8] at hbw R8 ⊢
  rw [egw] at hbw R8 hgl ⊢
  rw [← ezs] at hbw
  clear ew8 egw hsz8 hmk ezs hf8 hc8 Q8
  refine go_on ?_
  refine (pvReadWords w8 gr l 69 gw 2 (zv (List.replicate q 0)) 0 M.mem q q R8.out.rd hbw (by have := R8.out.o2; omega) (by rw [zv_length, List.length_replicate]; omega) H.out.2.2.2.2.2.1 H.out.2.1.mem hq64 (by have := H.out.2.2.2.2.2.2.1; omega) HN.out.2.2.2.2.2.1).mono ?_
  rintro e w9 ⟨rfl, hrd9, hb9, hk9⟩
  rw [splice_whole _ _ (by rw [zv_length, zv_length, List.length_replicate]; exact H.out.2.2.2.2.2.1.symm)] at hb9
  have hM : ({ M with p := (np : Int), mem := M.mem, s := (ns : Int), t := (nt : Int) } : Mach) = M := by rw [← H.out.2.2.1, ← H.out.2.2.2.1, ← H.out.2.2.2.2.1]
  have R9 := Lib.hid (R8.out.words2 hrd9 hgl hk9)
  rw [show mcells { M with p := (np : Int), mem := [], s := (ns : Int), t := (nt : Int) } (some ⟨gw, 0, none⟩) q q = mcells { M with p := (np : Int), mem := M.mem, s := (ns : Int), t := (nt : Int) } (some ⟨gw, 0, none⟩) q q from rfl, hM] at R9
  have HB9 := Lib.hid hb9
  clear hbw hrd9 hb9 hk9 hM
  dsimp only
  go_wp2_with (first
    | (with_reducible refine st_load 27 ?_; refine stopped ?_)
    | fail)
  have hat : MachAt w9 M (some ⟨gw, 0, none⟩) q q := ⟨H.out.2.2.2.2.2.1, Nat.le_refl _, vs_of_blk HB9.out HB9.out.lt, H.out.2.1⟩
  have hmy := pvMay w9 M (some ⟨gw, 0, none⟩) q q hat
  rw [H.out.2.2.2.2.2.2.2.2] at hmy
  have HY := Lib.hid hmy
  clear hmy hat
  refine go_on ?_
  refine wpList_load_at rfl 27 (.tmp 5) rfl gm 0 rfl (mcells M (some ⟨gw, 0, none⟩) q q).toArray _ (Blk.cells R9.out.blk) Tryd.underlying27 rfl mach_size ?_
  simp only [Act.put, List.setIfInBounds_toArray, List.set_cons_zero, List.set_cons_succ]
  go_wp2_with (first
    | (go_at_call 16; refine HY.out.mono ?_; rintro e w10 ⟨rfl, hb10⟩; have R10 := Lib.hid (R9.out.below hb10); have HB10 := Lib.hid (HB9.out.below hb10 HB9.out.lt); clear hb10)
    | (go_at_call 41; refine (must_true _ _ _).mono ?_; rintro e w' ⟨rfl, rfl⟩)
    | (go_at_call 42; refine stopped ?_)
    | fail)
  have hrd := R10.out.rd
  rw [show 69 + 8 * q = l.length from H.out.2.2.2.2.2.2.1.symm] at hrd
  have hend := end_nil gr l w10 hrd
  refine go_on ?_
  refine hend.mono ?_
  rintro e w' ⟨rfl, m, rfl⟩
  have hblk : Blk (w10.drewN m) gm 27 (mcells M (some ⟨gw, 0, none⟩) q q).toArray := R10.out.blk.drewN m
  have hrz : Blk (w10.drewN m) w.heap.size 27 (mcells (newM 0) none 0 0).toArray := R10.out.rz.drewN m
  have hbl : Below w.heap.size w (w10.drewN m) := below_drewN R10.out.bel m
  have hbw : Blk (w10.drewN m) gw 2 (zv M.mem).toArray := HB10.out.drewN m
  obtain ⟨w11, ew11⟩ : ∃ W, w10.drewN m = W := ⟨_, rfl⟩
  rw [ew11] at hblk hrz hbl hbw
  dsimp only
  rw [ew11]
  have HE := Lib.hid (And.intro hblk (And.intro hrz (And.intro hbl hbw)))
  clear hblk hrz hbl hbw ew11 hend hrd
  go_wp2_with (first
    | (with_reducible refine st_load 27 ?_; refine stopped ?_)
    | fail)
  refine go_on ?_
  refine wpList_load_at rfl 27 (.tmp 5) rfl gm 0 rfl (mcells M (some ⟨gw, 0, none⟩) q q).toArray _ (Blk.cells HE.out.1) Tryd.underlying27 rfl mach_size ?_
  refine wpList_store_whole rfl 27 (.tmp 2) (.tmp 43) rfl w.heap.size (mcells M (some ⟨gw, 0, none⟩) q q) rfl rfl 27 (mcells (newM 0) none 0 0) HE.out.2.1 mach_size rfl (mcells_one _ _ _ _) ?_
  intro w12 hb12 hg12
  have hbw12 := HE.out.2.2.2.grown hg12 (fun e => by have := R9.out.o1; have := R9.out.o2; simp only [Option.some.injEq] at e; omega)
  have hbl12 : Below w.heap.size w w12 := HE.out.2.2.1.grown hg12 HE.out.2.2.1.size (fun j e => by cases e; exact Nat.le_refl _)
  have hrow := row_of_blk (base := w.heap.size) (n := q) (size := 1) hbw12 (by have := R9.out.o1; have := R9.out.o2; omega) (by rw [zv_length, H.out.2.2.2.2.2.1]; omega) (by unfold maxLen; omega)
  have hfin : RestPost w M (.returned (.tuple #[.agg (mcells M (some ⟨gw, 0, none⟩) q q).toArray, .nilIface])) w12 := by
    refine ⟨some ⟨gw, 0, none⟩, q, ?_, ?_, ?_, hbl12⟩
    · rw [H.out.2.2.2.2.2.1]; rfl
    · rw [H.out.2.2.2.2.2.1]; exact Nat.le_refl _
    · rw [H.out.2.2.2.2.2.1]; exact hrow
  simp only [Act.put, List.setIfInBounds_toArray, List.set_cons_zero, List.set_cons_succ]
  go_wp2_with fail
  exact bodyPost_rowv rfl w.heap.size rfl _ rfl 27 _ _ hb12 Tryd.underlying27 rfl mach_size rfl hfin
end Go.Proofs.YthgiehlfmdobkaaDoor
