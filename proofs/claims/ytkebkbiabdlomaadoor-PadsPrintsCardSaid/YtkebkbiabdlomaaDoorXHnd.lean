/-
  append and calls in a region that draws its order, taken by hand.
-/
import Derived.Test.YtkebkbiabdlomaaDoorXTxm
import Derived.Test.YtkebkbiabdlomaaDoorXNum
import Derived.Test.YtkebkbiabdlomaaDoorXPad
import Derived.OrdersHeld
import Derived.Deep.RegionWith
set_option linter.unusedSimpArgs false
set_option linter.unusedVariables false
namespace Go.Proofs.YtkebkbiabdlomaaDoor
open Go.RowKit Classical
theorem takeH {P : Program} {ops : Array Oper} {Q : Exit → Act → World → Prop} {md : Region.Mode} {S : World → Prop} {i : Nat} {oi : Oper} {v : Value} {fuel : Nat} {listed : Array Bool} {a : Act} {w : World} (a' : Act) (hi : ops[i]? = some oi)
    (hs : Region.noSelect ops = true) (hf : Region.free md ops listed i = true) (hr : (Region.ready md ops listed).contains i = true)
    (hQ : ∀ c a w, Q (.panic c) (a.put oi.dst v) w → Q (.panic c) a w) (hy : YieldsIf P ops S oi v a) (hS : S w) (ha : a.put oi.dst v = a')
    (h : wpAnyH P md ops Q S fuel (listed.setIfInBounds i true) a' w) : wpAnyH P md ops Q S (fuel + 1) listed a w :=
  wpAnyH_take hi hs hf hr hQ hy hS (by rw [ha]; exact h)
theorem run_appM (ty : TypeId) {l m : List UInt8} {v : Value} {W w0 : World} {base : Nat} (hown : Txm W base v l) (hb : Fr base w0 W) (hm0 : 0 < m.length) (hlm : l.length + m.length ≤ 17592186044416) :
    ∃ v' w', (Builtin.append_ #[42, 9] ty #[v, .string ⟨m.toArray⟩]).run Tryd.prog W = .ok v' w' ∧ Txt w' base v' (l ++ m) ∧ Fr base w0 w' := by
  have hbase := hb.size
  obtain ⟨i0, hi, hz0, hz1, hz2⟩ := info_parts Tryd.infoByte
  have hm : (ByteArray.mk m.toArray).size = m.length := by simp [ByteArray.size]
  rcases hown with hown | ⟨g, fz, e, hg, hh⟩
  · obtain ⟨v', w', hr, h1, h2, _⟩ := Lib.run_append_own_string (P := Tryd.prog) W base 42 9 ty 5 i0 (by kernel_rfl) (by kernel_rfl) hi hz0 hz1 hz2 v l.length (Lib.byteCells l) hown ⟨m.toArray⟩ (by rw [hm]; unfold maxLen; omega) (by rw [hm]; omega) hbase
    rw [hm, Lib.strCells_eq] at h1
    refine ⟨v', w', hr, ?_, hb.below.grown h2 hbase hown.row, hb.others.grown h2 hown.rows, ?_⟩
    · unfold Txt; rw [List.length_append, Lib.byteCells_append]; exact h1
    · have := h2.size; omega
  · have hS : Src Tryd.prog 1 9 (.string ⟨m.toArray⟩) m.length (Lib.byteCells m) W := by
      have := Src.ofString (P := Tryd.prog) W (tx := 9) (by kernel_rfl) ⟨m.toArray⟩
      rw [hm] at this
      exact this
    have hold : (Builtin.firstCells i0.size l.length (.slice (some ⟨g, 0, none⟩) l.length l.length)).run Tryd.prog W.drew = .ok (Lib.byteCells l).toArray W.drew := by
      rw [hz1]
      refine run_firstCells_some W.drew 1 l.length ⟨g, 0, none⟩ l.length l.length (Lib.byteCells l) (by rw [Lib.byteCells_length]; omega) fun j u hu => ?_
      have hc := cell_of_row W.drew g j _ _ fz (show W.drew.heap[g]? = _ from hh)
      rw [List.getElem?_toArray, hu] at hc
      by_cases hj0 : j = 0
      · subst hj0; simpa [Addr.add] using hc
      · simpa [Addr.add, hj0] using hc
    have hr := run_append_grow_src (P := Tryd.prog) W 42 9 ty 5 i0 (.int .u8 0) (by kernel_rfl) hi hz0 (some ⟨g, 0, none⟩) l.length l.length (Lib.byteCells l) hold (.string ⟨m.toArray⟩) m.length (Lib.byteCells m) (by rw [hz1]; exact hS) (by omega) (by omega) (growslice_fits (by omega) (by rw [hz2]; omega))
    have hcap := grownCap_ge W (l.length + m.length) l.length 5
    have hcap2 := grownCap_le_maxLen W (l.length + m.length) l.length 5 (by unfold maxLen; omega)
    refine ⟨_, _, by rw [e]; exact hr, ?_, hb.below.drew.alloc hbase _, hb.others.drew.alloc _, by simp; omega⟩
    unfold Txt
    rw [List.length_append, Lib.byteCells_append]
    refine ⟨by simp [Lib.byteCells_length], .inr ⟨W.heap.size, _, _, rfl, hbase, heap_alloc_new W.drew _, hcap, hcap2, ?_, ?_⟩⟩
    · have hc1 : (Value.int .u8 0).cells.size = 1 := rfl
      rw [Array.size_append, size_zeroCells, hc1]
      simp [Lib.byteCells_length]
      omega
    · rw [Array.toList_append]
      exact List.take_left' (by simp [Lib.byteCells_length])
theorem wpOp_app {ops : Array Oper} {Q : Exit → Act → World → Prop} {i : Nat} {K : Act → World → Prop} {a : Act} {w w0 : World} {op : Oper} (hi : ops[i]? = some op) (hw : Region.wanted op (yielded ops a.tmps) = true) (s x : Operand)
    (ho : op.op = .call { callee := .builtin .append, args := #[s, x], argTypes := #[42, 9] }) {l m : List UInt8} {v : Value} {base : Nat} (hown : Txm w base v l) (hb : Fr base w0 w)
    (hs : a.eval s = v) (hx : a.eval x = .string ⟨m.toArray⟩) (hm0 : 0 < m.length) (hlm : l.length + m.length ≤ 17592186044416)
    (a' : Value → Act) (ha : ∀ v', a.put op.dst v' = a' v') (h : ∀ v' w', Txt w' base v' (l ++ m) → Fr base w0 w' → K (a' v') w') : wpOp Tryd.prog ops Q i K a w := by
  obtain ⟨v', w', hr, h1, h2⟩ := run_appM op.type hown hb hm0 hlm
  unfold wpOp
  rw [hi]
  simp only [hw, if_true]
  left
  unfold Oper.wp execOp
  simp only [ho, resolve, invoke, builtin, Sem.run_bind, Sem.run_pure, Result.andThen_ok, List.map_toArray, List.map_cons, List.map_nil, hs, hx, hr]
  show K (a.put op.dst v') w'
  rw [ha]
  exact h v' w' h1 h2
theorem wpOp_calls {P : Program} {ops : Array Oper} {Q : Exit → Act → World → Prop} {i : Nat} {K : Act → World → Prop} {a : Act} {w : World} {o : Oper} {f : FuncId} {args : Array Value} {R : Value → World → Prop}
    (hi : ops[i]? = some o) (hw : Region.wanted o (yielded ops a.tmps) = true) (he : (execOp a.eval o).run P w = .ok (.enter f args) w)
    (hc : Calls P f args w fun e w' => ∃ v, R v w' ∧ e = .returned v) (a' : Value → Act) (ha : ∀ v', a.put o.dst v' = a' v') (h : ∀ v w', R v w' → K (a' v) w') : wpOp P ops Q i K a w := by
  unfold wpOp
  rw [hi]
  simp only [hw, if_true]
  left
  unfold Oper.wp
  rw [he, Oper.upon_enter]
  refine hc.mono ?_
  rintro e w' ⟨v, hR, rfl⟩
  show K (a.put o.dst v) w'
  rw [ha]
  exact h v w' hR
theorem appendUint_r {w w0 : World} {base u : Nat} {i : Int} {v : Value} {l : List UInt8} (ei : i = (u : Int)) (hu : u < 18446744073709551616) (hl : l.length ≤ 17592186044000) (hb : Fr base w0 w) (H : Txt w base v l) (htab : Lib.TabBelow Tryd.prog base w0 "internal/strconv.uint64pow10" .u64 Lib.pow10Tab) :
    Calls Tryd.prog 23 #[v, .int .u64 i, .int .i64 10] w fun e w' => ∃ v', (Txt w' base v' (l ++ Lib.decDigits u) ∧ Fr base w0 w') ∧ e = .returned v' := by
  subst ei
  refine (appendUint_any w base u v l hu hl hb.size H (htab.on hb.below)).mono ?_
  rintro e w' ⟨v', h1, he, h2⟩
  exact ⟨v', ⟨h1, hb.trans h2⟩, he⟩
theorem appendInt_r {w w0 : World} {base u : Nat} {i : Int} {v : Value} {l : List UInt8} (ei : i = (u : Int)) (hu : u ≤ 9223372036854775807) (hl : l.length ≤ 17592186044000) (hb : Fr base w0 w) (H : Txt w base v l) (htab : Lib.TabBelow Tryd.prog base w0 "internal/strconv.uint64pow10" .u64 Lib.pow10Tab) :
    Calls Tryd.prog 25 #[v, .int .i64 i, .int .i64 10] w fun e w' => ∃ v', (Txt w' base v' (l ++ Lib.decDigits u) ∧ Fr base w0 w') ∧ e = .returned v' := by
  subst ei
  refine (appendInt_any w base u v l hu hl hb.size H (htab.on hb.below)).mono ?_
  rintro e w' ⟨v', h1, he, h2⟩
  exact ⟨v', ⟨h1, hb.trans h2⟩, he⟩
theorem appendPad_r {w w0 : World} {base : Nat} {i : Int} {v : Value} {l : List UInt8} (i0 : 0 ≤ i) (i1 : i ≤ 255) (hl : l.length ≤ 17592186044000) (hb : Fr base w0 w) (H : Txt w base v l) :
    Calls Tryd.prog 24 #[v, .int .u8 i] w fun e w' => ∃ v', (Txt w' base v' (l ++ padT i.toNat 8) ∧ Fr base w0 w') ∧ e = .returned v' := by
  obtain ⟨p, rfl⟩ := Int.eq_ofNat_of_zero_le i0
  refine (appendPad_any w base p v l (by omega) hl hb.size H).mono ?_
  rintro e w' ⟨v', h1, he, h2⟩
  exact ⟨v', ⟨by simpa using h1, hb.trans h2⟩, he⟩
end Go.Proofs.YtkebkbiabdlomaaDoor
