/-
  append of turns that lie anywhere; the list with two turns behind it.
-/
import Derived.Test.YtkebkbiabdlomaaDoorXCop
import Derived.Test.YtkebkbiabdlomaaDoorXHnd
set_option linter.unusedSimpArgs false
set_option linter.unusedVariables false
namespace Go.Proofs.YtkebkbiabdlomaaDoor
open Go.RowKit Classical
theorem run_appT (ty : TypeId) {q q' r : Nat → TuE} {n m : Nat} {v : Value} {W w0 : World} {base g : Nat} (hown : Tus W base v q n) (hb : Below base w0 W) (hbase : base ≤ W.heap.size)
    (hsrc : ∀ j u, (tcells r m)[j]? = some u → W.cell? ⟨g, j, none⟩ = some u) (hq : tcells q' (n + m) = tcells q n ++ tcells r m) (hlm : n + m ≤ 17592186044416) :
    ∃ v' w', (Builtin.append_ #[22, 22] ty #[v, .slice (some ⟨g, 0, none⟩) m m]).run Tryd.prog W = .ok v' w' ∧ Tus w' base v' q' (n + m) ∧ Below base w0 w' ∧ base ≤ w'.heap.size := by
  obtain ⟨i0, hi, hz0, hz1, hz2⟩ := info_parts Tryd.infoTurn
  obtain ⟨v', w', hr, h1, h2, _⟩ := run_append_own (P := Tryd.prog) W base 22 ty 25 i0 _ 5 8 (by kernel_rfl) hi hz0 hz1 hz2 rfl (by decide) v n (tcells q n) hown ⟨g, 0, none⟩ m m (tcells r m) (tcells_len r m) (fun j u hu => by
    have := hsrc j u hu
    by_cases hj : j = 0
    · subst hj; simpa [Addr.add] using this
    · simpa [Addr.add, hj] using this) (tcells_one r m) (by unfold maxLen; omega) (by omega) hbase
  refine ⟨v', w', hr, by unfold Tus; rw [hq]; exact h1, hb.grown h2 hbase (fun k hk => (World.ownsRow.lt hown k hk).1), ?_⟩
  have := h2.size
  omega
theorem wpOp_appT {ops : Array Oper} {Q : Exit → Act → World → Prop} {i : Nat} {K : Act → World → Prop} {a : Act} {w w0 : World} {op : Oper} (hi : ops[i]? = some op) (hw : Region.wanted op (yielded ops a.tmps) = true) (s x : Operand)
    (ho : op.op = .call { callee := .builtin .append, args := #[s, x], argTypes := #[22, 22] }) {q q' r : Nat → TuE} {n m : Nat} {v : Value} {base g : Nat} (hown : Tus w base v q n) (hb : Below base w0 w) (hbase : base ≤ w.heap.size)
    (hs : a.eval s = v) (hx : a.eval x = .slice (some ⟨g, 0, none⟩) m m) (hsrc : ∀ j u, (tcells r m)[j]? = some u → w.cell? ⟨g, j, none⟩ = some u) (hq : tcells q' (n + m) = tcells q n ++ tcells r m) (hlm : n + m ≤ 17592186044416)
    (a' : Value → Act) (ha : ∀ v', a.put op.dst v' = a' v') (h : ∀ v' w', Tus w' base v' q' (n + m) → Below base w0 w' → base ≤ w'.heap.size → K (a' v') w') : wpOp Tryd.prog ops Q i K a w := by
  obtain ⟨v', w', hr, h1, h2, h3⟩ := run_appT op.type hown hb hbase hsrc hq hlm
  unfold wpOp
  rw [hi]
  simp only [hw, if_true]
  left
  unfold Oper.wp execOp
  simp only [ho, resolve, invoke, builtin, Sem.run_bind, Sem.run_pure, Result.andThen_ok, List.map_toArray, List.map_cons, List.map_nil, hs, hx, hr]
  show K (a.put op.dst v') w'
  rw [ha]
  exact h v' w' h1 h2 h3
theorem wpOp_val {P : Program} {ops : Array Oper} {Q : Exit → Act → World → Prop} {i : Nat} {K : Act → World → Prop} {a : Act} {w : World} {op : Oper} (hi : ops[i]? = some op) (hw : Region.wanted op (yielded ops a.tmps) = true) {v : Value} {w' : World}
    (he : (execOp a.eval op).run P w = .ok (.value v) w') (a' : Act) (ha : a.put op.dst v = a') (h : K a' w') : wpOp P ops Q i K a w := by
  subst ha
  unfold wpOp
  rw [hi]
  simp only [hw, if_true]
  left
  unfold Oper.wp
  rw [he]
  exact h
/-- The turn behind the list. -/
def mark : TuE := ⟨77, 7, 0, true, false⟩
/-- The list with two of them behind it. -/
def full (q : Nat → TuE) (len : Nat) : Nat → TuE := fun i => if i < len then q i else mark
theorem full_cells (q : Nat → TuE) (len : Nat) : tcells (full q len) (len + 2) = tcells q len ++ tcells (fun _ => mark) 2 := by
  have e : tcells (full q len) len = tcells q len := tcells_congr len (fun i hi => if_pos hi)
  have e1 : full q len len = mark := if_neg (by omega)
  have e2 : full q len (len + 1) = mark := if_neg (by omega)
  show (tcells (full q len) len ++ (full q len len).cells.toList) ++ (full q len (len + 1)).cells.toList = _
  rw [e, e1, e2, List.append_assoc]
  rfl
end Go.Proofs.YtkebkbiabdlomaaDoor
