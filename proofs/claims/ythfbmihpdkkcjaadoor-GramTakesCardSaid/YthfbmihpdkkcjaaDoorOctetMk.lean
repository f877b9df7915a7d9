/-
  Package octet's Text and bytes.Clone, by their contracts. Conditions: each theorem's own premises.
-/
import Derived.Test.YthfbmihpdkkcjaaDoorOctet
import Derived.Maps.AppendAt
import Derived.OwnWalk
import Derived.WalkSpells
import Derived.Lib.AppendStr
import Derived.Laws.BitsAllLaws
namespace Go.Proofs.YthfbmihpdkkcjaaDoor
open Go.RowKit

section
variable {P : Program} (w : World)
theorem run_append_bytes_nil (base : Nat) (t ty e : TypeId) (i : TypeInfo) (ht : P.underlying t = some (.slice e)) (hi : P.info? e = some i)
    (v : Value) (l : List UInt8) (hown : Own w base e v l) (c : Nat) : (Builtin.append_ #[t, t] ty #[v, .slice none 0 c]).run P w = .ok v w := by
  rcases hown.2 with ⟨rfl, _⟩ | ⟨g, cap, cur, rfl, _, _, hnc, _⟩
  · simp [Builtin.append_, run_underlying ht, sizeOf, typeInfo, hi, Builtin.lenOf, Builtin.firstCells]
  · simp [Builtin.append_, run_underlying ht, sizeOf, typeInfo, hi, Builtin.lenOf, Builtin.firstCells, hnc, storeCells]

theorem run_append_bytes (base : Nat) (t ty e : TypeId) (i : TypeInfo) (z : Value) (ht : P.underlying t = some (.slice e)) (hi : P.info? e = some i) (hz : i.zero = some z)
    (hsize : i.size = 1) (hby : i.bytes = 1) (hzs : z.cells.size = 1)
    (v : Value) (l : List UInt8) (hown : Own w base e v l) (B : Nat) (A : Option Addr) (c : Nat) (m : List UInt8) (hr : Bs w B A m)
    (hbytes : l.length + m.length ≤ 140737488355328) (hbase : base ≤ w.heap.size) :
    ∃ v' w', (Builtin.append_ #[t, t] ty #[v, .slice A m.length c]).run P w = .ok v' w' ∧ Own w' base e v' (l ++ m) ∧ w.grownBy w' v.ownBlock ∧
      (v'.ownBlock = v.ownBlock ∨ v'.ownBlock = some w.heap.size) := by
  have e0 : (l ++ m).length = l.length + m.length := List.length_append
  rcases A with _ | ad
  · have hm : m = [] := by
      rcases Nat.eq_zero_or_pos m.length with h0 | h0
      · exact List.eq_nil_of_length_eq_zero h0
      · obtain ⟨_, _, h, _⟩ := hr h0
        cases h
    subst hm
    exact ⟨v, w, run_append_bytes_nil w base t ty e i ht hi v l hown c, by simpa using hown, only_refl w _, .inl rfl⟩
  · have hcells : ∀ j u, (bv m)[j]? = some u → w.cell? (ad.add j) = some u := by
      intro j u hu
      have hj : j < m.length := by
        have := (List.getElem?_eq_some_iff.1 hu).1
        simpa [bv_length] using this
      obtain ⟨b, o, h, _, hc⟩ := hr (by omega)
      injection h with h
      subst h
      rw [Addr.add_lit, hc j hj]
      rw [bv_get hj] at hu
      exact hu
    obtain ⟨v', w', hrun, h2, h3, _, h5⟩ := run_append_own_at (P := P) w base t ty e i z 1 1 ht hi hz hsize hby hzs (by decide) v l.length (bv l) hown ad m.length c (bv m) (by simp [bv_length]) hcells (bv_one m) (by simp only [maxLen]; omega) (by omega) hbase
    refine ⟨v', w', hrun, ?_, h3, h5⟩
    unfold Own
    rw [e0, bv_append]
    exact h2

theorem wpList_append_bytes {ops : Array Oper} {rest : List Oper} {o : Oper} {a : Act} {Q : Exit → Act → World → Prop} (hgd : o.guard = none) (s x : Operand) (t : TypeId)
    (ho : o.op = .call { callee := .builtin .append, args := #[s, x], argTypes := #[t, t] })
    (base : Nat) (e : TypeId) (i : TypeInfo) (z : Value) (ht : P.underlying t = some (.slice e)) (hi : P.info? e = some i) (hz : i.zero = some z)
    (hsize : i.size = 1) (hby : i.bytes = 1) (hzs : z.cells.size = 1)
    (v : Value) (l : List UInt8) (hs : a.eval s = v) (hown : Own w base e v l)
    (B : Nat) (A : Option Addr) (c : Nat) (m : List UInt8) (hx : a.eval x = .slice A m.length c) (hr : Bs w B A m)
    (hbytes : l.length + m.length ≤ 140737488355328) (hbase : base ≤ w.heap.size)
    (h : ∀ v' w', Own w' base e v' (l ++ m) → w.grownBy w' v.ownBlock → (v'.ownBlock = v.ownBlock ∨ v'.ownBlock = some w.heap.size) → wpList P ops Q rest (a.put o.dst v') w') :
    wpList P ops Q (o :: rest) a w := by
  refine wpList_plain hgd fun K hK => ?_
  obtain ⟨v', w', hr, h2, h3, h4⟩ := run_append_bytes (P := P) w base t o.type e i z ht hi hz hsize hby hzs v l hown B A c m hr hbytes hbase
  unfold Oper.wp execOp
  simp only [ho, resolve, invoke, builtin, Sem.run_bind, Sem.run_pure, Result.andThen_ok, List.map_toArray, List.map_cons, List.map_nil, hs, hx, hr]
  exact hK _ _ (h v' w' h2 h3 h4)
end

def OwnPost (w : World) (l : List UInt8) (e : Ending) (w' : World) : Prop :=
  ∃ v, e = .returned v ∧ Own w' w.heap.size 5 v l ∧ Below w.heap.size w w'

theorem le_alloc (w : World) (o : Obj) : w.heap.size ≤ (w.alloc o).heap.size := by simp
theorem xor_lt (x : UInt8) : (UInt8.ofNat (x.toNat ^^^ 255)).toNat = x.toNat ^^^ 255 := by
  have hx : x.toNat < 256 := x.toNat_lt
  have hy : x.toNat ^^^ 255 < 2 ^ 8 := Nat.xor_lt_two_pow (by omega) (by omega)
  rw [UInt8.toNat_ofNat']
  omega
theorem xor_u8 (x : UInt8) : bits BinOp.xor IntKind.u8 ((x.toNat : Nat) : Int) 255 = ((x.toNat ^^^ 255 : Nat) : Int) :=
  u8_xor_nat x.toNat 255 x.toNat_lt (by decide)

def OwnK (w : World) (base : Nat) (A : Option Addr) (k c : Nat) : Prop := ∃ lx : List UInt8, lx.length = k ∧ Own w base 5 (.slice A k c) lx
theorem OwnK.round {w : World} {base k c j : Nat} {A : Option Addr} (h : OwnK w base A k c) (hj : j < k) :
    ∃ (g : Nat) (x : UInt8), A = some ⟨g, 0, none⟩ ∧ base ≤ g ∧ w.cell? ⟨g, j, none⟩ = some (.int .u8 (x.toNat : Int)) ∧ w.frozen? ⟨g, j, none⟩ = false ∧
      ∀ y : UInt8, OwnK (w.setCell ⟨g, j, none⟩ (.int .u8 (y.toNat : Int))) base A k c := by
  obtain ⟨lx, hlx, hown⟩ := h
  have hrow := hown.row hlx
  rcases hrow.2 with ⟨h0, hk⟩ | ⟨g, cap, cur, hv, hg, _⟩
  · omega
  · injection hv with hA hk hc
    subst hA hc
    refine ⟨g, lx[j]'(by omega), rfl, hg, ?_, hrow.frozenAt j, fun y => ?_⟩
    · rw [hrow.cellAt j (by omega), bv_get (by omega)]
    · have hst := (hrow.stored j (.int .u8 (y.toNat : Int))).1
      have e : (bv lx).set j (.int .u8 (y.toNat : Int)) = bv (lx.set j y) := by simp [bv, List.map_set]
      rw [e] at hst
      exact ⟨lx.set j y, by simpa using hlx, Own.of_row hst (by simpa using hlx)⟩

theorem wpList_append_bytes_n {P : Program} (w : World) {ops : Array Oper} {rest : List Oper} {o : Oper} {a : Act} {Q : Exit → Act → World → Prop} (hgd : o.guard = none) (s x : Operand) (t : TypeId)
    (ho : o.op = .call { callee := .builtin .append, args := #[s, x], argTypes := #[t, t] })
    (base : Nat) (e : TypeId) (i : TypeInfo) (z : Value) (ht : P.underlying t = some (.slice e)) (hi : P.info? e = some i) (hz : i.zero = some z)
    (hsize : i.size = 1) (hby : i.bytes = 1) (hzs : z.cells.size = 1)
    (v : Value) (l : List UInt8) (hs : a.eval s = v) (hown : Own w base e v l)
    (B : Nat) (A : Option Addr) (c n : Nat) (m : List UInt8) (hm : m.length = n) (hx : a.eval x = .slice A n c) (hr : Bs w B A m)
    (hbytes : l.length + m.length ≤ 140737488355328) (hbase : base ≤ w.heap.size)
    (h : ∀ v' w', Own w' base e v' (l ++ m) → w.grownBy w' v.ownBlock → (v'.ownBlock = v.ownBlock ∨ v'.ownBlock = some w.heap.size) → wpList P ops Q rest (a.put o.dst v') w') :
    wpList P ops Q (o :: rest) a w := by
  subst hm
  exact wpList_append_bytes w hgd s x t ho base e i z ht hi hz hsize hby hzs v l hs hown B A c m hx hr hbytes hbase h

end Go.Proofs.YthfbmihpdkkcjaaDoor
