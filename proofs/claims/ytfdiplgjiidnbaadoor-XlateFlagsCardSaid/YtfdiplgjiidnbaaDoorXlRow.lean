/-
  Lists of pieces and of micro-ops in memory of the call's own.
-/
import Derived.Test.YtfdiplgjiidnbaaDoorXlAhead
import Derived.OwnWalk
import Derived.Laws.AppendOwn
set_option linter.unusedSimpArgs false
set_option linter.unusedVariables false
namespace Go.Proofs.YtfdiplgjiidnbaaDoor
open Go.RowKit Classical
theorem orow_keep {w w' : World} {base s n : Nat} {T : TypeId} {v : Value} {cells : List Value} (h : w.ownsRow base T s v n cells) (hb : Below w.heap.size w w') : w'.ownsRow base T s v n cells := by
  obtain ⟨h1, h2⟩ := h
  refine ⟨h1, ?_⟩
  rcases h2 with h | ⟨g, cap, cur, e, hb', hh, hr⟩
  · exact .inl h
  · exact .inr ⟨g, cap, cur, e, hb', (hb.block g (Array.getElem?_eq_some_iff.1 hh).1).trans hh, hr⟩
theorem orow_lower {w : World} {base base' s n : Nat} {T : TypeId} {v : Value} {cells : List Value} (h : w.ownsRow base T s v n cells) (hb : base' ≤ base) : w.ownsRow base' T s v n cells := by
  obtain ⟨h1, h2⟩ := h
  refine ⟨h1, ?_⟩
  rcases h2 with h | ⟨g, cap, cur, e, hb', hr⟩
  · exact .inl h
  · exact .inr ⟨g, cap, cur, e, Nat.le_trans hb hb', hr⟩
theorem orow_other {w : World} {base s n m i : Nat} {T : TypeId} {v x : Value} {cells : List Value} (h : w.ownsRow base T s v n cells) (hm : m < base) : (w.setCell ⟨m, i, none⟩ x).ownsRow base T s v n cells := by
  obtain ⟨h1, h2⟩ := h
  refine ⟨h1, ?_⟩
  rcases h2 with h | ⟨g, cap, cur, e, hb', hh, hr⟩
  · exact .inl h
  · exact .inr ⟨g, cap, cur, e, hb', (Below.heap_setCell w ⟨m, i, none⟩ x g (show g ≠ m by omega)).trans hh, hr⟩
theorem orow_others {base s n m : Nat} {T : TypeId} {v : Value} {cells : List Value} (hm : m < base) : ∀ (vs : List Value) (i : Nat) (w : World), w.ownsRow base T s v n cells → (w.setCells m i vs).ownsRow base T s v n cells
  | [], _, _, h => h
  | _ :: vs, i, _, h => orow_others hm vs (i + 1) _ (orow_other h hm)
theorem Tryd.infoPiece : (Tryd.prog.info? 56).map (fun i => (i.zero, i.size, i.bytes)) = some (some (.agg #[.int .i64 0, .int .i64 0, .int .i64 0, .int .i64 0, .int .i64 0, .int .i64 0, .int .u16 0, .slice none 0 0, .int .i64 0, .int .i64 0, .int .u8 0]), 11, 104) := by kernel_rfl
/-- append of one Piece that lies in a block just made. -/
theorem wpList_appPiece {ops : Array Oper} {rest : List Oper} {o : Oper} {a : Act} {Q : Exit → Act → World → Prop} (hgd : o.guard = none) (s x : Operand)
    (ho : o.op = .call { callee := .builtin .append, args := #[s, x], argTypes := #[51, 51] }) {cells : List Value} {n : Nat} {v : Value} {W w0 : World} {base : Nat} {cs : Array Value} (hown : W.ownsRow base 56 11 v n cells) (hb : Below base w0 W) (hbase : base ≤ W.heap.size)
    (hs : a.eval s = v) (hx : a.eval x = .slice (some ⟨W.heap.size, 0, none⟩) 1 1) (hcs : cs.size = 11) (h1 : ∀ u ∈ cs.toList, u.oneCell' = true) (hlm : n ≤ 1000000)
    (h : ∀ v' w', w'.ownsRow base 56 11 v' (n + 1) (cells ++ cs.toList) → Below base w0 w' → base ≤ w'.heap.size → wpList Tryd.prog ops Q rest (a.put o.dst v') w') : wpList Tryd.prog ops Q (o :: rest) a (W.alloc (.cells cs 56)) := by
  obtain ⟨i0, hi, hz0, hz1, hz2⟩ := info_parts Tryd.infoPiece
  have hB : Blk (W.alloc (.cells cs 56)) W.heap.size cs 56 := Blk.new W _ _
  refine wpList_append_own (W.alloc (.cells cs 56)) hgd s x 51 ho base 56 i0 _ 11 104 (by kernel_rfl) hi hz0 hz1 hz2 rfl (by decide) v n cells hs (World.ownsRow.alloc hown _) ⟨W.heap.size, 0, none⟩ 1 1 cs.toList hx (by rw [Array.length_toList, hcs]) ?_ h1 (by unfold maxLen; omega) (by omega) (by simp; omega) ?_
  · intro j u hu
    have := hB.cell j
    rw [← Array.getElem?_toList, hu] at this
    by_cases hj : j = 0
    · subst hj; simpa [Addr.add] using this
    · simpa [Addr.add, hj] using this
  · intro v' w' h1 h2 _
    have hb' : Below base w0 w' := (hb.alloc hbase _).grown h2 (by simp; omega) (fun k hk => by
      rcases hown.2 with ⟨h, _⟩ | ⟨g, cap, cur, e, hg, _⟩
      · rw [h] at hk; cases hk
      · rw [e] at hk; cases hk; exact hg)
    refine h v' w' h1 hb' ?_
    have := h2.size; simp at this; omega
theorem Tryd.infoMicro : (Tryd.prog.info? 35).map (fun i => (i.zero, i.size, i.bytes)) = some (some (.agg #[.int .u8 0, .int .i64 0, .int .i64 0, .int .u16 0, .int .u8 0, .int .i64 0, .int .i64 0]), 7, 48) := by kernel_rfl
/-- append of one Micro that lies in a block just made. -/
theorem wpList_appMicro {ops : Array Oper} {rest : List Oper} {o : Oper} {a : Act} {Q : Exit → Act → World → Prop} (hgd : o.guard = none) (s x : Operand)
    (ho : o.op = .call { callee := .builtin .append, args := #[s, x], argTypes := #[25, 25] }) {cells : List Value} {n : Nat} {v : Value} {W w0 : World} {base : Nat} {cs : Array Value} (hown : W.ownsRow base 35 7 v n cells) (hb : Below base w0 W) (hbase : base ≤ W.heap.size)
    (hs : a.eval s = v) (hx : a.eval x = .slice (some ⟨W.heap.size, 0, none⟩) 1 1) (hcs : cs.size = 7) (h1 : ∀ u ∈ cs.toList, u.oneCell' = true) (hlm : n ≤ 1000000)
    (h : ∀ v' w', w'.ownsRow base 35 7 v' (n + 1) (cells ++ cs.toList) → Below base w0 w' → base ≤ w'.heap.size → wpList Tryd.prog ops Q rest (a.put o.dst v') w') : wpList Tryd.prog ops Q (o :: rest) a (W.alloc (.cells cs 35)) := by
  obtain ⟨i0, hi, hz0, hz1, hz2⟩ := info_parts Tryd.infoMicro
  have hB : Blk (W.alloc (.cells cs 35)) W.heap.size cs 35 := Blk.new W _ _
  refine wpList_append_own (W.alloc (.cells cs 35)) hgd s x 25 ho base 35 i0 _ 7 48 (by kernel_rfl) hi hz0 hz1 hz2 rfl (by decide) v n cells hs (World.ownsRow.alloc hown _) ⟨W.heap.size, 0, none⟩ 1 1 cs.toList hx (by rw [Array.length_toList, hcs]) ?_ h1 (by unfold maxLen; omega) (by omega) (by simp; omega) ?_
  · intro j u hu
    have := hB.cell j
    rw [← Array.getElem?_toList, hu] at this
    by_cases hj : j = 0
    · subst hj; simpa [Addr.add] using this
    · simpa [Addr.add, hj] using this
  · intro v' w' h1 h2 _
    have hb' : Below base w0 w' := (hb.alloc hbase _).grown h2 (by simp; omega) (fun k hk => by
      rcases hown.2 with ⟨h, _⟩ | ⟨g, cap, cur, e, hg, _⟩
      · rw [h] at hk; cases hk
      · rw [e] at hk; cases hk; exact hg)
    refine h v' w' h1 hb' ?_
    have := h2.size; simp at this; omega
end Go.Proofs.YtfdiplgjiidnbaaDoor
