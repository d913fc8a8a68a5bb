/-
  A list of accesses in memory of the call's own, and what append makes of it.
-/
import Derived.Test.YtjlakfbggkbmnaaRows
import Derived.Test.YtjlakfbggkbmnaaIBlk
import Derived.Test.YtjlakfbggkbmnaaIRunP
import Derived.Laws.AppendOwn
set_option linter.unusedSimpArgs false
set_option linter.unusedVariables false
namespace Go.Proofs.Ytjlakfbggkbmnaa
open Go.RowKit
/-- The value v is a list of these accesses, in memory from block base on. -/
def Acs (w : World) (base : Nat) (v : Value) (l : List Nat) : Prop := w.ownsRow base 30 1 v l.length (ints l)
theorem Try.infoAcc : (Try.prog.info? 30).map (fun i => (i.zero, i.size, i.bytes)) = some (some (.int .i64 0), 1, 8) := by kernel_rfl
theorem Acs.new (W : World) (base : Nat) (hbase : base ≤ W.heap.size) (l : List Nat) (hl : l.length ≤ 100) :
    Acs (W.alloc (.cells (ints l).toArray 30)) base (.slice (some ⟨W.heap.size, 0, none⟩) l.length l.length) l :=
  ⟨by simp [ints], .inr ⟨W.heap.size, l.length, (ints l).toArray, rfl, hbase, heap_alloc_new W _, Nat.le_refl _, by unfold maxLen; omega, by simp [ints], by rw [Nat.mul_one]; exact List.take_of_length_le (by simp [ints])⟩⟩
theorem Acs.alloc {w : World} {base : Nat} {v : Value} {l : List Nat} (h : Acs w base v l) (o : Obj) : Acs (w.alloc o) base v l := by
  obtain ⟨h1, h2⟩ := h
  refine ⟨h1, ?_⟩
  rcases h2 with h | ⟨g, cap, cur, e, hb, hh, hr⟩
  · exact .inl h
  · exact .inr ⟨g, cap, cur, e, hb, (Below.heap_alloc w o g (Array.getElem?_eq_some_iff.1 hh).1).trans hh, hr⟩
/-- What is above base and below B stays. -/
theorem Acs.keep {w w' : World} {base : Nat} {v : Value} {l : List Nat} (h : Acs w base v l) (hb : Below w.heap.size w w') : Acs w' base v l := by
  obtain ⟨h1, h2⟩ := h
  refine ⟨h1, ?_⟩
  rcases h2 with h | ⟨g, cap, cur, e, hb', hh, hr⟩
  · exact .inl h
  · exact .inr ⟨g, cap, cur, e, hb', (hb.block g (Array.getElem?_eq_some_iff.1 hh).1).trans hh, hr⟩
theorem Acs.lower {w : World} {base base' : Nat} {v : Value} {l : List Nat} (h : Acs w base v l) (hb : base' ≤ base) : Acs w base' v l := by
  obtain ⟨h1, h2⟩ := h
  refine ⟨h1, ?_⟩
  rcases h2 with h | ⟨g, cap, cur, e, hb', hr⟩
  · exact .inl h
  · exact .inr ⟨g, cap, cur, e, Nat.le_trans hb hb', hr⟩
theorem Acs.form {w : World} {base : Nat} {v : Value} {l : List Nat} (h : Acs w base v l) (hl : 0 < l.length) :
    ∃ g cap, v = .slice (some ⟨g, 0, none⟩) l.length cap ∧ base ≤ g ∧ g < w.heap.size ∧ l.length ≤ cap ∧ (∀ j, j < l.length → w.cell? ⟨g, j, none⟩ = some (.int .i64 (l.getD j 0 : Nat))) ∧ ∀ j, w.frozen? ⟨g, j, none⟩ = false := by
  obtain ⟨h1, h2⟩ := h
  rcases h2 with ⟨_, h⟩ | ⟨g, cap, cur, e, hb', hh, h3, h4, h5, h6⟩
  · omega
  · refine ⟨g, cap, e, hb', (Array.getElem?_eq_some_iff.1 hh).1, h3, fun j hj => ?_, fun j => frozen_of_row w g j cur _ hh⟩
    rw [cell_of_row w g j cur _ (0, 0) hh]
    have : (cur.toList.take (l.length * 1))[j]? = (ints l)[j]? := by rw [h6]
    rw [List.getElem?_take, if_pos (by omega)] at this
    rw [← Array.getElem?_toList, this]
    simp [ints, hj]
theorem wpList_app {ops : Array Oper} {rest : List Oper} {o : Oper} {a : Act} {Q : Exit → Act → World → Prop} (hgd : o.guard = none) (s x : Operand)
    (ho : o.op = .call { callee := .builtin .append, args := #[s, x], argTypes := #[28, 28] }) {l m : List Nat} {v : Value} {W w0 : World} {base : Nat} (hown : Acs W base v l) (hb : Below base w0 W) (hbase : base ≤ W.heap.size)
    (hs : a.eval s = v) (hx : a.eval x = .slice (some ⟨W.heap.size, 0, none⟩) m.length m.length) (hlm : l.length + m.length ≤ 100)
    (h : ∀ v' w', Acs w' base v' (l ++ m) → Below base w0 w' → base ≤ w'.heap.size → wpList Try.prog ops Q rest (a.put o.dst v') w') : wpList Try.prog ops Q (o :: rest) a (W.alloc (.cells (ints m).toArray 30)) := by
  obtain ⟨i0, hi, hz0, hz1, hz2⟩ := info_parts Try.infoAcc
  have hB : Blk (W.alloc (.cells (ints m).toArray 30)) W.heap.size (ints m).toArray 30 := Blk.new W _ _
  refine wpList_append_own (W.alloc (.cells (ints m).toArray 30)) hgd s x 28 ho base 30 i0 (.int .i64 0) 1 8 (by kernel_rfl) hi hz0 hz1 hz2 rfl (by decide) v l.length (ints l) hs (hown.alloc _) ⟨W.heap.size, 0, none⟩ m.length m.length (ints m) hx (by simp [ints]) ?_ (ints_one m) (by unfold maxLen; omega) (by omega) (by simp; omega) ?_
  · intro j u hu
    have := hB.cell j
    rw [List.getElem?_toArray, hu] at this
    by_cases hj : j = 0
    · subst hj; simpa [Addr.add] using this
    · simpa [Addr.add, hj] using this
  · intro v' w' h1 h2 _
    have hb' : Below base w0 w' := (hb.alloc hbase _).grown h2 (by simp; omega) (fun k hk => by
      rcases hown.2 with ⟨h, _⟩ | ⟨g, cap, cur, e, hg, _⟩
      · rw [h] at hk; cases hk
      · rw [e] at hk; cases hk; exact hg)
    refine h v' w' ?_ hb' ?_
    · unfold Acs; rw [List.length_append, ints_append]; exact h1
    · have := h2.size; simp at this; omega
end Go.Proofs.Ytjlakfbggkbmnaa
