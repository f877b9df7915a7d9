/-
  Package gram's study on its way: the state that each step hands on. Conditions: each theorem's own premises.
-/
import Derived.Test.YthfbmihpdkkcjaaDoorGramGrow
import Derived.Test.YthfbmihpdkkcjaaDoorGramStM
import Derived.Deep.CutRange
import Derived.Deep.LoopGhost
import Derived.Deep.CutBlock
namespace Go.Proofs.YthfbmihpdkkcjaaDoor
open Go.RowKit

/-- a round's progress: so much was known at its beginning; where nothing was noted, Q -/
def Pr (c0 : Nat) (F : Fc) (b : Bool) (Q : Prop) : Prop := c0 ≤ F.cnt ∧ (b = true → c0 < F.cnt) ∧ (b = false → Q)
theorem Fc.cnt_mono {F : Fc} (hF : F.Ok) {i : Nat} (hi : i < 82) {s : S4} : F.cnt ≤ (F.setS i ((F.at i).or s)).cnt := by
  unfold Fc.cnt
  refine countP_le (fun k _ h => ?_)
  rw [Fc.at_setS hF hi]
  split
  · rename_i e; rw [S4.has_or, ← e, h, Bool.true_or]
  · exact h
structure Stg (w : World) (G : Gm) (gv : List Value) (gm g gr : Nat) (W : World) (F : Fc) (b : Bool) (M c0 : Nat) (Q : Fc → Prop) : Prop where
  f : FcAt W g F
  r : Blk W gr 4 #[.bool b]
  m : Blk W gm 25 gv.toArray
  ok : F.Ok
  bel : Below w.heap.size w W
  l1 : w.heap.size ≤ g
  l2 : w.heap.size ≤ gr
  l3 : w.heap.size ≤ gm
  snd : Snd G F
  rm : F.RmLe M
  pr : Pr c0 F b (Q F)
section
variable {w : World} {G : Gm} {gv : List Value} {gm g gr : Nat} {W W' : World} {F : Fc} {b : Bool} {M c0 : Nat} {Q : Fc → Prop}
theorem Stg.below (h : Stg w G gv gm g gr W F b M c0 Q) (hb : Below W.heap.size W W') : Stg w G gv gm g gr W' F b M c0 Q :=
  ⟨FcAt.below h.f hb h.f.lt, Blk.below h.r hb h.r.lt, Blk.below h.m hb h.m.lt, h.ok, h.bel.trans (hb.mono h.bel.size), h.l1, h.l2, h.l3, h.snd, h.rm, h.pr⟩
theorem Stg.imp {Q' : Fc → Prop} (h : Stg w G gv gm g gr W F b M c0 Q) (hq : Q F → Q' F) : Stg w G gv gm g gr W F b M c0 Q' :=
  ⟨h.f, h.r, h.m, h.ok, h.bel, h.l1, h.l2, h.l3, h.snd, h.rm, h.pr.1, h.pr.2.1, fun e => hq (h.pr.2.2 e)⟩
theorem Stg.more {M' : Nat} (h : Stg w G gv gm g gr W F b M c0 Q) (hM : M ≤ M') : Stg w G gv gm g gr W F b M' c0 Q :=
  ⟨h.f, h.r, h.m, h.ok, h.bel, h.l1, h.l2, h.l3, h.snd, fun i => ⟨(h.rm i).1, by have := (h.rm i).2; omega⟩, h.pr⟩
theorem Stg.keep (h : Stg w G gv gm g gr W F b M c0 Q) (hk : Kept (fun j => j = g ∨ j = gr) W W') {gx : Nat} {t : TypeId} {cs : Array Value} (hx : Blk W gx t cs) (h1 : t ≠ 61) (h2 : t ≠ 4) : Blk W' gx t cs :=
  hk.blk hx (fun e => by
    rcases e with rfl | rfl
    · exact Blk.apart hx h.f h1 rfl
    · exact Blk.apart hx h.r h2 rfl)
theorem Stg.grow (h : Stg w G gv gm g gr W F b M c0 Q) {i : Nat} (hi : i < 82) {s : S4} (hs : s.Ok) (hS : Snd G (F.setS i ((F.at i).or s))) {e : Ending} (hp : GrowPost W g gr F b i s e W') :
    ∃ F' b', Stg w G gv gm g gr W' F' b' M c0 (fun E => Q E ∧ E = F ∧ ∀ c, s.has c = true → (E.at i).has c = true) := by
  obtain ⟨_, h1, h2, hk⟩ := hp
  refine ⟨F.setS i ((F.at i).or s), b || decide ((F.at i).or s ≠ F.at i), h1, h2, h.keep hk h.m (by decide) (by decide), Fc.setS_ok h.ok i (S4.or_ok (h.ok.at i) hs), h.bel.trans (hk.below (fun j e => by
    rcases e with rfl | rfl
    · exact h.l1
    · exact h.l2) h.bel.size), h.l1, h.l2, h.l3, hS, h.rm, ?_⟩
  have hm := Fc.cnt_mono h.ok hi (s := s)
  by_cases hd : (F.at i).or s = F.at i
  · rw [decide_eq_false (fun hn => hn hd), Bool.or_false, hd, Fc.setS_self h.ok hi]
    exact ⟨h.pr.1, h.pr.2.1, fun e => ⟨h.pr.2.2 e, rfl, fun c hc => or_same hd hc⟩⟩
  · have hlt := Fc.cnt_setS h.ok hi hs hd
    rw [decide_eq_true hd, Bool.or_true]
    exact ⟨Nat.le_trans h.pr.1 hm, fun _ => Nat.lt_of_le_of_lt h.pr.1 hlt, fun e => by cases e⟩
theorem stL_setR (F : Fc) (i : Nat) (r : Int) : ∀ (l : List Sg) (acc : S4), (F.setR i r).stL acc l = F.stL acc l
  | [], _ => rfl
  | s :: t, acc => by
    unfold Fc.stL
    simp only [Fc.at_setR, stL_setR F i r t]
theorem txtL_setR (F : Fc) (i : Nat) (r : Int) (l : List Sg) : (F.setR i r).txtL l = F.txtL l := rfl
theorem vanL_setR (F : Fc) (i : Nat) (r : Int) (l : List Sg) : (F.setR i r).vanL l = F.vanL l := rfl
theorem aft_setR (F : Fc) (i : Nat) (r : Int) (X : Int) (l : List Sg) : (F.setR i r).aft X l = F.aft X l := by
  unfold Fc.aft
  rw [stL_setR]
  rfl
theorem Cls.setR {G : Gm} {F : Fc} {j : Nat} (h : Cls G F j) (i : Nat) (r : Int) : Cls G (F.setR i r) j :=
  ⟨h.t, h.v, fun c hc hh => h.s c hc (by rwa [stL_setR] at hh), h.f, fun p hp h0 c hc hh => h.o p hp h0 c hc (by rwa [aft_setR] at hh)⟩
theorem Fc.cnt_setR (F : Fc) (i : Nat) (r : Int) : (F.setR i r).cnt = F.cnt := rfl
theorem Fc.cells_setR {F : Fc} (hF : F.Ok) {i o : Nat} (hi : i < 16) (ho : o = 328 + i) (r : Int) : F.cells.toArray.setIfInBounds o (.int .i64 r) = (F.setR i r).cells.toArray := by
  subst ho
  rw [List.setIfInBounds_toArray]
  unfold Fc.cells Fc.setR
  rw [List.set_append_right _ _ (by rw [scs_length, hF.n]; omega), scs_length, hF.n, show 328 + i - 4 * 82 = i by omega, List.map_set]
theorem Stg.room (h : Stg w G gv gm g gr W F b M c0 Q) {i o : Nat} (hi : i < 16) (ho : o = 328 + i) {r : Nat} (hr : r ≤ M + 8) (hd : Dep G (i : Int) r) {Q' : Fc → Prop} (hq : Q F → Q' (F.setR i r)) :
    Stg w G gv gm g gr (W.setCell ⟨g, o, none⟩ (.int .i64 (r : Int))) (F.setR i r) b (M + 8) c0 Q' := by
  have hgr : g ≠ gr := Blk.apart h.f h.r (by decide)
  have hgm : g ≠ gm := Blk.apart h.f h.m (by decide)
  refine ⟨?_, Blk.far h.r (p := ⟨g, o, none⟩) (Ne.symm hgr) _, Blk.far h.m (p := ⟨g, o, none⟩) (Ne.symm hgm) _, Fc.setR_ok h.ok i r, h.bel.setCell h.l1 _, h.l1, h.l2, h.l3, h.snd.setR h.ok hi (by rw [Int.toNat_natCast]; exact hd), fun j => ?_, ?_⟩
  · have := Blk.set_ h.f o (.int .i64 (r : Int))
    rw [Fc.cells_setR h.ok hi ho] at this
    exact this
  · rw [Fc.room_setR h.ok hi]
    split
    · omega
    · exact ⟨(h.rm j).1, by have := (h.rm j).2; omega⟩
  · exact ⟨h.pr.1, h.pr.2.1, fun e => hq (h.pr.2.2 e)⟩
theorem Stg.drew (h : Stg w G gv gm g gr W F b M c0 Q) : Stg w G gv gm g gr W.drew F b M c0 Q := h.below (Below.refl _ _).drew
end
/-- what is closed, step by step, of form number i -/
def QC0 (G : Gm) (i : Nat) (F : Fc) : Prop := ∀ j, j < i → Cls G F j
def QC1 (G : Gm) (i : Nat) (F : Fc) : Prop := QC0 G i F ∧ (F.txtL (G.fs.getD i f0).b = true → (F.at 0).has (G.fs.getD i f0).n.toNat = true)
def QC2 (G : Gm) (i : Nat) (F : Fc) : Prop := QC1 G i F ∧ (F.vanL (G.fs.getD i f0).b = true → (F.at 1).has (G.fs.getD i f0).n.toNat = true)
def QC3 (G : Gm) (i : Nat) (F : Fc) : Prop := QC2 G i F ∧ ∀ c, (F.stL S4.z (G.fs.getD i f0).b).has c = true → (F.at (34 + i)).has c = true
def QC4 (G : Gm) (i : Nat) (F : Fc) : Prop := QC3 G i F ∧ ∀ c, (F.at (34 + i)).has c = true → (F.at (2 + (G.fs.getD i f0).n.toNat)).has c = true
def QC5 (G : Gm) (i q : Nat) (F : Fc) : Prop := QC4 G i F ∧ ∀ p, p < q → 0 ≤ ((G.fs.getD i f0).b.getD p ⟨0, 0, 0⟩).n → ∀ c, (F.aft (G.fs.getD i f0).n ((G.fs.getD i f0).b.drop (p + 1))).has c = true → (F.at (18 + ((G.fs.getD i f0).b.getD p ⟨0, 0, 0⟩).n.toNat)).has c = true
theorem qc_end {G : Gm} {i q : Nat} {F : Fc} (hq : (G.fs.getD i f0).b.length ≤ q) (h : QC5 G i q F) : QC0 G (i + 1) F := fun j hj => by
  obtain ⟨⟨⟨⟨⟨h0, h1⟩, h2⟩, h3⟩, h4⟩, h5⟩ := h
  rcases Nat.lt_or_ge j i with h | h
  · exact h0 j h
  · obtain rfl : j = i := by omega
    exact ⟨h1, h2, fun c _ => h3 c, fun c _ => h4 c, fun p hp h0 c _ => h5 p (by omega) h0 c⟩
theorem qc1_setR {G : Gm} {i : Nat} {F : Fc} (h : QC1 G i F) (k : Nat) (r : Int) : QC1 G i (F.setR k r) := ⟨fun j hj => (h.1 j hj).setR k r, h.2⟩
section
variable {w : World} {G : Gm} {gv : List Value} {gm g gr : Nat} {W W' : World} {F : Fc} {b : Bool} {M c0 i X : Nat} {f : Fm} {e : Ending}
theorem Stg.s1 (h : Stg w G gv gm g gr W F b M c0 (QC0 G i)) (hf : f ∈ G.fs) (hfi : G.fs.getD i f0 = f) (eX : f.n = (X : Int)) (hX : X < 16) (hb : BodyOk f.b) (ht : F.txtL f.b = true) (hp : GrowPost W g gr F b 0 (S4.one X) e W') :
    ∃ F' b', Stg w G gv gm g gr W' F' b' M c0 (QC1 G i) := by
  have hT : Txt G (X : Int) := by rw [← eX]; exact txt_of hf (txtL_sound h.snd hb ht)
  obtain ⟨F', b', h'⟩ := h.grow (i := 0) (s := S4.one X) (by decide) (S4.btw_ok _ _) (h.snd.setS h.ok (by decide) (fun _ Y hY hh => by
    rw [S4.has_one (by omega) (by omega), decide_eq_true_iff] at hh
    rw [hh]; exact hT) (fun e => by omega) (fun Y _ e => by omega) (fun Y _ e => by omega) (fun j _ e => by omega)) hp
  exact ⟨F', b', h'.imp fun hq => ⟨hq.1, fun _ => by
    rw [hfi, eX, Int.toNat_natCast]
    exact hq.2.2 X (by rw [S4.has_one (by omega) (by omega)]; exact decide_eq_true rfl)⟩⟩
theorem Stg.s1no (h : Stg w G gv gm g gr W F b M c0 (QC0 G i)) (hfi : G.fs.getD i f0 = f) (ht : F.txtL f.b = false) : Stg w G gv gm g gr W F b M c0 (QC1 G i) :=
  h.imp fun hq => ⟨hq, fun h2 => by rw [hfi, ht] at h2; cases h2⟩
theorem Stg.s2 (h : Stg w G gv gm g gr W F b M c0 (QC1 G i)) (hf : f ∈ G.fs) (hfi : G.fs.getD i f0 = f) (eX : f.n = (X : Int)) (hX : X < 16) (hb : BodyOk f.b) (ht : F.vanL f.b = true) (hd : Dep G (X : Int) (F.room X).toNat) (hp : GrowPost W g gr F b 1 (S4.one X) e W') :
    ∃ F' b', Stg w G gv gm g gr W' F' b' M c0 (QC2 G i) := by
  have hT : Van G (X : Int) := by rw [← eX]; exact van_of hf (vanL_sound h.snd hb ht)
  obtain ⟨F', b', h'⟩ := h.grow (i := 1) (s := S4.one X) (by decide) (S4.btw_ok _ _) (h.snd.setS h.ok (by decide) (fun e => by omega) (fun _ Y hY hh => by
    rw [S4.has_one (by omega) (by omega), decide_eq_true_iff] at hh
    rw [hh]; exact ⟨hT, hd⟩) (fun Y _ e => by omega) (fun Y _ e => by omega) (fun j _ e => by omega)) hp
  exact ⟨F', b', h'.imp fun hq => ⟨hq.1, fun _ => by
    rw [hfi, eX, Int.toNat_natCast]
    exact hq.2.2 X (by rw [S4.has_one (by omega) (by omega)]; exact decide_eq_true rfl)⟩⟩
theorem Stg.s2no (h : Stg w G gv gm g gr W F b M c0 (QC1 G i)) (hfi : G.fs.getD i f0 = f) (ht : F.vanL f.b = false) : Stg w G gv gm g gr W F b M c0 (QC2 G i) :=
  h.imp fun hq => ⟨hq, fun h2 => by rw [hfi, ht] at h2; cases h2⟩
theorem Stg.s3 (h : Stg w G gv gm g gr W F b M c0 (QC2 G i)) (hn : G.fs.length ≤ 48) (hi : i < G.fs.length) (hfi : G.fs.getD i f0 = f) (hb : BodyOk f.b) (hp : GrowPost W g gr F b (34 + i) (F.stL S4.z f.b) e W') :
    ∃ F' b', Stg w G gv gm g gr W' F' b' M c0 (QC3 G i) := by
  obtain ⟨F', b', h'⟩ := h.grow (i := 34 + i) (by omega) (Fc.stL_ok h.ok _ _ S4.z_ok) (h.snd.setS h.ok (by omega) (fun e => by omega) (fun e => by omega) (fun Y _ e => by omega) (fun Y _ e => by omega) (fun j hj e c hc hh => by
    obtain rfl : j = i := by omega
    rw [hfi]; exact stL_sound0 h.snd hc hb hh)) hp
  exact ⟨F', b', h'.imp fun hq => ⟨hq.1, fun c hc => by
    rw [hfi, hq.2.1] at hc
    exact hq.2.2 c hc⟩⟩
theorem Stg.s4 (h : Stg w G gv gm g gr W F b M c0 (QC3 G i)) (hi : i < G.fs.length) (hf : f ∈ G.fs) (hfi : G.fs.getD i f0 = f) (eX : f.n = (X : Int)) (hX : X < 16) (hp : GrowPost W g gr F b (2 + X) (F.at (34 + i)) e W') :
    ∃ F' b', Stg w G gv gm g gr W' F' b' M c0 (QC4 G i) := by
  obtain ⟨F', b', h'⟩ := h.grow (i := 2 + X) (by omega) (h.ok.at _) (h.snd.setS h.ok (by omega) (fun e => by omega) (fun e => by omega) (fun Y _ e c hc hh => by
    obtain rfl : Y = X := by omega
    rw [← eX]
    have := h.snd.l i c hi hc hh
    rw [hfi] at this
    exact fir_of hf this) (fun Y hY e => by omega) (fun j _ e => by omega)) hp
  exact ⟨F', b', h'.imp fun hq => ⟨hq.1, fun c hc => by
    rw [hfi, eX, Int.toNat_natCast]
    rw [hq.2.1] at hc
    exact hq.2.2 c hc⟩⟩
theorem Stg.s5 {q Y : Nat} (h : Stg w G gv gm g gr W F b M c0 (QC5 G i q)) (hf : f ∈ G.fs) (hfi : G.fs.getD i f0 = f) (eX : f.n = (X : Int)) (hX : X < 16) (hb : BodyOk f.b) (hq : q < f.b.length) (eY : (f.b.getD q ⟨0, 0, 0⟩).n = (Y : Int)) (hY : Y < 16) (hp : GrowPost W g gr F b (18 + Y) (F.aft X (f.b.drop (q + 1))) e W') :
    ∃ F' b', Stg w G gv gm g gr W' F' b' M c0 (QC5 G i (q + 1)) := by
  obtain ⟨F', b', h'⟩ := h.grow (i := 18 + Y) (by omega) (Fc.aft_ok h.ok _ _) (h.snd.setS h.ok (by omega) (fun e => by omega) (fun e => by omega) (fun Z hZ e => by omega) (fun Z _ e c hc hh => by
    obtain rfl : Z = Y := by omega
    rw [← eY]
    have e2 : f.b = f.b.take q ++ f.b.getD q ⟨0, 0, 0⟩ :: f.b.drop (q + 1) := by
      rw [List.getD_eq_getElem?_getD, List.getElem?_eq_getElem hq, Option.getD_some, ← List.drop_eq_getElem_cons hq, List.take_append_drop]
    exact aft_sound h.snd hc hf ⟨by omega, by omega⟩ (hb.drop _) e2 (by omega) (by rw [eX]; exact hh)) (fun j _ e => by omega)) hp
  exact ⟨F', b', h'.imp fun hz => ⟨hz.1.1, fun p hp h0 c hc => by
    rcases Nat.lt_or_ge p q with h8 | h8
    · exact hz.1.2 p h8 h0 c hc
    · obtain rfl : p = q := by omega
      rw [hfi, eY, Int.toNat_natCast]
      rw [hfi, hz.2.1, eX] at hc
      exact hz.2.2 c hc⟩⟩
theorem Stg.s5no {q : Nat} (h : Stg w G gv gm g gr W F b M c0 (QC5 G i q)) (hfi : G.fs.getD i f0 = f) (hneg : (f.b.getD q ⟨0, 0, 0⟩).n < 0) : Stg w G gv gm g gr W F b M c0 (QC5 G i (q + 1)) :=
  h.imp fun hz => ⟨hz.1, fun p hp h0 c hc => by
    rcases Nat.lt_or_ge p q with h8 | h8
    · exact hz.2 p h8 h0 c hc
    · obtain rfl : p = q := by omega
      rw [hfi] at h0
      omega⟩
theorem Stg.rm_le (h : Stg w G gv gm g gr W F b M c0 (QC1 G i)) (hb : f.b.length ≤ 8) : rmF F.rm f.b ≤ M + 8 := by
  have := rmF_le (f := F.rm) (M := M) (fun s => by have := h.rm s.n.toNat; unfold Fc.rm; omega) f.b
  omega
theorem Stg.dep (h : Stg w G gv gm g gr W F b M c0 (QC1 G i)) (hf : f ∈ G.fs) (hb : BodyOk f.b) (ht : F.vanL f.b = true) : Dep G f.n (rmF F.rm f.b) :=
  dep_of hf fun s hs => by
    have h1 := vanL_nonneg ht s hs
    have h16 := hb.n s hs
    have := h.snd.d s.n.toNat (by omega) h1.2
    rw [Int.toNat_of_nonneg h1.1] at this
    exact ⟨h1.1, this⟩
end
/-- between two rounds -/
structure StH (w : World) (G : Gm) (gv : List Value) (gm g gr : Nat) (W : World) (F : Fc) (b : Bool) (M : Nat) : Prop where
  f : FcAt W g F
  r : Blk W gr 4 #[.bool b]
  m : Blk W gm 25 gv.toArray
  ok : F.Ok
  bel : Below w.heap.size w W
  l1 : w.heap.size ≤ g
  l2 : w.heap.size ≤ gr
  l3 : w.heap.size ≤ gm
  snd : Snd G F
  rm : F.RmLe M
theorem Stg.head {w : World} {G : Gm} {gv : List Value} {gm g gr : Nat} {W : World} {F : Fc} {b : Bool} {M c0 : Nat} {Q : Fc → Prop} (h : Stg w G gv gm g gr W F b M c0 Q) : StH w G gv gm g gr W F b M :=
  ⟨h.f, h.r, h.m, h.ok, h.bel, h.l1, h.l2, h.l3, h.snd, h.rm⟩
theorem StH.begin {w : World} {G : Gm} {gv : List Value} {gm g gr : Nat} {W : World} {F : Fc} {b : Bool} {M : Nat} {Q : Fc → Prop} (h : StH w G gv gm g gr W F b M) (hq : Q F) : Stg w G gv gm g gr (W.setCell ⟨gr, 0, none⟩ (.bool false)) F false M F.cnt Q := by
  have hgr : g ≠ gr := Blk.apart h.f h.r (by decide)
  have hmr : gm ≠ gr := Blk.apart h.m h.r (by decide)
  exact ⟨Blk.far h.f (p := ⟨gr, 0, none⟩) hgr _, Blk.set_ h.r 0 (.bool false), Blk.far h.m (p := ⟨gr, 0, none⟩) hmr _, h.ok, h.bel.setCell h.l2 _, h.l1, h.l2, h.l3, h.snd, h.rm, Nat.le_refl _, (fun e => by cases e), fun _ => hq⟩
/-- nothing known -/
def Fc.nil : Fc := ⟨List.replicate 82 S4.z, List.replicate 16 0⟩
theorem Fc.nil_at (i : Nat) : Fc.nil.at i = S4.z := by
  unfold Fc.at Fc.nil
  simp only [List.getD_eq_getElem?_getD, List.getElem?_replicate]
  split <;> rfl
theorem Fc.nil_room (i : Nat) : Fc.nil.room i = 0 := by
  unfold Fc.room Fc.nil
  simp only [List.getD_eq_getElem?_getD, List.getElem?_replicate]
  split <;> rfl
theorem Fc.nil_ok : Fc.nil.Ok := ⟨by simp [Fc.nil], by simp [Fc.nil], fun s hs => by
  rw [List.eq_of_mem_replicate hs]; exact S4.z_ok⟩
theorem Fc.nil_cnt : Fc.nil.cnt = 0 := by
  unfold Fc.cnt
  rw [List.countP_eq_zero]
  intro k _
  rw [Fc.nil_at, S4.has_z]
  decide
theorem Fc.nil_snd (G : Gm) : Snd G Fc.nil :=
  ⟨fun X _ h => (by rw [Fc.nil_at, S4.has_z] at h; cases h), fun X _ h => (by rw [Fc.nil_at, S4.has_z] at h; cases h), fun X c _ _ h => (by rw [Fc.nil_at, S4.has_z] at h; cases h), fun X c _ _ h => (by rw [Fc.nil_at, S4.has_z] at h; cases h), fun i c _ _ h => (by rw [Fc.nil_at, S4.has_z] at h; cases h), fun X _ h => (by rw [Fc.nil_at, S4.has_z] at h; cases h)⟩
set_option maxRecDepth 100000 in
theorem facts_built : Tryd.prog.built 61 [] = some Fc.nil.cells.toArray := by kernel_rfl
theorem facts_size : (Tryd.prog.info? 61).map (·.size) = some 344 := by kernel_rfl
theorem form_zero : (Tryd.prog.info? 46).map (·.zero) = some (some (.agg (formV 0 none 0 0).toArray)) := by kernel_rfl
theorem form_one (X : Int) (A : Option Addr) (n cp : Nat) : ∀ v ∈ formV X A n cp, v.oneCell' = true := by
  intro v hv
  simp only [formV, List.mem_cons, List.not_mem_nil, or_false] at hv
  rcases hv with rfl | rfl <;> rfl
theorem wpList_build_ag {P : Program} {w : World} {ops : Array Oper} {rest : List Oper} {o : Oper} {a : Act} {Q : Exit → Act → World → Prop} (hg : o.guard = none) (t : TypeId) (parts : Array (Nat × Operand)) (ho : o.op = .build t parts) (cells : Array Value)
    (hf : P.built t (parts.map fun (i, x) => (i, a.eval x)).toList = some cells) (h : wpList P ops Q rest (a.put o.dst (.agg cells)) w) : wpList P ops Q (o :: rest) a w := by
  refine wpList_build hg t parts ho (by rw [hf]; rfl) ?_
  rw [hf]
  exact h
/-- what study answers -/
def StudyPost (w : World) (G : Gm) (e : Ending) (w' : World) : Prop :=
  ∃ (g : Nat) (F : Fc), e = .returned (.pointer (some ⟨g, 0, none⟩)) ∧ w.heap.size ≤ g ∧ FcAt w' g F ∧ F.Ok ∧ Know G F ∧ F.RmLe 16000000 ∧ Below w.heap.size w w'
theorem fvs_form {w : World} {B : Nat} {A : Option Addr} {L : List FmV} (h : Vs w B A (fvs L)) {k : Nat} {x : FmV} (hx : L[k]? = some x) : ∃ b o, A = some ⟨b, o, none⟩ ∧ b < B ∧ ∀ W, Below B w W → Cells W b (o + k * 2) (formV x.f.n x.A x.f.b.length x.c).toArray := by
  have hk : k < L.length := (List.getElem?_eq_some_iff.1 hx).1
  obtain ⟨b, o, e, hb, hc⟩ := h (by rw [fvs_length]; omega)
  refine ⟨b, o, e, hb, fun W hW j v hv => ?_⟩
  rw [List.getElem?_toArray] at hv
  have := hc _ _ (fvs_get hx hv)
  rw [hW.cell (p := ⟨b, o + k * 2 + j, none⟩) hb, Nat.add_assoc]
  exact this
end Go.Proofs.YthfbmihpdkkcjaaDoor
