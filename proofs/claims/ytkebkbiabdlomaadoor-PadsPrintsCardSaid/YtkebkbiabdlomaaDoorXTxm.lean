/-
  A text whose row may have a mark, and append to it.
-/
import Derived.Test.YtkebkbiabdlomaaDoorXTxt
import Derived.Deep.AppendSrc
set_option linter.unusedSimpArgs false
set_option linter.unusedVariables false
namespace Go.Proofs.YtkebkbiabdlomaaDoor
open Go.RowKit Classical
/-- The value v is this text; its row may have a mark, where it is full. -/
def Txm (w : World) (base : Nat) (v : Value) (l : List UInt8) : Prop :=
  Txt w base v l ∨ ∃ g fz, v = .slice (some ⟨g, 0, none⟩) l.length l.length ∧ base ≤ g ∧ w.heap[g]? = some (.cells (Lib.byteCells l).toArray 5 fz)
theorem Txm.row {w : World} {base : Nat} {v : Value} {l : List UInt8} (h : Txm w base v l) : ∀ k, v.ownBlock = some k → base ≤ k := by
  rcases h with h | ⟨g, fz, rfl, hg, _⟩
  · exact h.row
  · intro k hk; cases hk; exact hg
theorem Txm.keep {w w' : World} {base B : Nat} {v : Value} {l : List UInt8} (h : Txm w base v l) (hB : w.heap.size ≤ B) (hb : Below B w w') : Txm w' base v l := by
  rcases h with h | ⟨g, fz, rfl, hg, hh⟩
  · exact .inl (h.keep hB hb)
  · exact .inr ⟨g, fz, rfl, hg, (hb.block g (Nat.lt_of_lt_of_le (Array.getElem?_eq_some_iff.1 hh).1 hB)).trans hh⟩
/-- append to it, of a string that is not empty. -/
theorem wpList_appM {ops : Array Oper} {rest : List Oper} {o : Oper} {a : Act} {Q : Exit → Act → World → Prop} (hgd : o.guard = none) (s x : Operand)
    (ho : o.op = .call { callee := .builtin .append, args := #[s, x], argTypes := #[42, 9] }) {l m : List UInt8} {v : Value} {W w0 : World} {base : Nat} (hown : Txm W base v l) (hb : Fr base w0 W)
    (hs : a.eval s = v) (hx : a.eval x = .string ⟨m.toArray⟩) (hm0 : 0 < m.length) (hlm : l.length + m.length ≤ 17592186044416)
    (h : ∀ v' w', Txt w' base v' (l ++ m) → Fr base w0 w' → wpList Tryd.prog ops Q rest (a.put o.dst v') w') : wpList Tryd.prog ops Q (o :: rest) a W := by
  have hbase := hb.size
  rcases hown with hown | ⟨g, fz, e, hg, hh⟩
  · exact wpList_appS hgd s x ho hown hb hs hx hlm h
  · obtain ⟨i0, hi, hz0, hz1, hz2⟩ := info_parts Tryd.infoByte
    have hm : (ByteArray.mk m.toArray).size = m.length := by simp [ByteArray.size]
    have hS : Src Tryd.prog 1 9 (.string ⟨m.toArray⟩) m.length (Lib.byteCells m) W := by
      have := Src.ofString (P := Tryd.prog) W (tx := 9) (by kernel_rfl) ⟨m.toArray⟩
      rw [hm] at this
      exact this
    have hold : (Builtin.firstCells i0.size l.length (.slice (some ⟨g, 0, none⟩) l.length l.length)).run Tryd.prog W.drew = .ok (Lib.byteCells l).toArray W.drew := by
      rw [hz1]
      refine run_firstCells_some W.drew 1 l.length ⟨g, 0, none⟩ l.length l.length (Lib.byteCells l) (by rw [Lib.byteCells_length]; omega) fun j u hu => ?_
      have hc := cell_of_row W.drew g j _ _ fz (show W.drew.heap[g]? = _ from hh)
      rw [List.getElem?_toArray, hu] at hc
      by_cases hj0 : j = 0
      · subst hj0; simpa [Addr.add] using hc
      · simpa [Addr.add, hj0] using hc
    have hr := run_append_grow_src (P := Tryd.prog) W 42 9 o.type 5 i0 (.int .u8 0) (by kernel_rfl) hi hz0 (some ⟨g, 0, none⟩) l.length l.length (Lib.byteCells l) hold (.string ⟨m.toArray⟩) m.length (Lib.byteCells m) (by rw [hz1]; exact hS) (by omega) (by omega) (growslice_fits (by omega) (by rw [hz2]; omega))
    refine wpList_plain hgd fun K hK => ?_
    unfold Oper.wp execOp
    simp only [ho, resolve, invoke, builtin, Sem.run_bind, Sem.run_pure, Result.andThen_ok, List.map_toArray, List.map_cons, List.map_nil, hs, e, hx, hr]
    have hcap := grownCap_ge W (l.length + m.length) l.length 5
    have hcap2 := grownCap_le_maxLen W (l.length + m.length) l.length 5 (by unfold maxLen; omega)
    refine hK _ _ (h _ _ ?_ ⟨hb.below.drew.alloc hbase _, hb.others.drew.alloc _, by simp; omega⟩)
    unfold Txt
    rw [List.length_append, Lib.byteCells_append]
    refine ⟨by simp [Lib.byteCells_length], .inr ⟨W.heap.size, _, _, rfl, hbase, heap_alloc_new W.drew _, hcap, hcap2, ?_, ?_⟩⟩
    · have hc1 : (Value.int .u8 0).cells.size = 1 := rfl
      rw [Array.size_append, size_zeroCells, hc1]
      simp [Lib.byteCells_length]
      omega
    · rw [Array.toList_append]
      exact List.take_left' (by simp [Lib.byteCells_length])
end Go.Proofs.YtkebkbiabdlomaaDoor
