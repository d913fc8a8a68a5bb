/-
  An allocation in a region that draws its order, taken by hand.
-/
import Derived.Test.YtlnpcbofebppcabQHand
set_option linter.unusedSimpArgs false
set_option linter.unusedVariables false
namespace Go.Proofs.Ytlnpcbofebppcab
open Go.RowKit Classical
theorem wpOp_world {P : Program} {ops : Array Oper} {Q : Exit → Act → World → Prop} {i : Nat} {K : Act → World → Prop} {a : Act} {w w1 : World} {o : Oper} {v : Value}
    (hi : ops[i]? = some o) (hw : Region.wanted o (yielded ops a.tmps) = true) (he : (execOp a.eval o).run P w = .ok (.value v) w1) (a' : Act) (ha : a.put o.dst v = a') (h : K a' w1) : wpOp P ops Q i K a w := by
  subst ha
  unfold wpOp
  rw [hi]
  simp only [hw, if_true]
  left
  unfold Oper.wp
  rw [he]
  exact h
theorem exec_alloc {ρ : Operand → Value} {o : Oper} {w : World} (ho : o.op = .alloc 23) : (execOp ρ o).run Try.prog w = .ok (.value (.pointer (some ⟨w.heap.size, 0, none⟩))) (w.alloc (.cells zeroR.cells 23)) := by
  obtain ⟨dst, o, ty, pos, after, guard⟩ := o
  simp only at ho
  subst ho
  go_simp
  rfl
theorem alloc_at {ops : Array Oper} {Q : Exit → Act → World → Prop} {i : Nat} {K : Act → World → Prop} {a : Act} {w v : World} {o : Oper} {l : List (Nat × Rs)} (t : St w l v) (hi : ops[i]? = some o) (hw : Region.wanted o (yielded ops a.tmps) = true) (ho : o.op = .alloc 23)
    (h : ∀ (nb : Nat) (v' : World), St w l v' → Blk v' nb zeroR.cells 23 → (∀ p ∈ l, p.1 ≠ nb) → w.heap.size ≤ nb → K (a.put o.dst (.pointer (some ⟨nb, 0, none⟩))) v') : wpOp Try.prog ops Q i K a v :=
  wpOp_world hi hw (exec_alloc ho) _ rfl (h v.heap.size _ (t.on ((Below.refl _ _).alloc (Nat.le_refl _) _)) (Blk.new v _ _) (fun p hp => Nat.ne_of_lt (t.1 p hp).lt) t.2.size)
theorem store_at {ops : Array Oper} {Q : Exit → Act → World → Prop} {i : Nat} {K : Act → World → Prop} {a : Act} {w v : World} {o : Oper} {l : List (Nat × Rs)} {nb : Nat} {q : Rs} (t : St w l v) (be : Blk v nb q.cells 23) (hn : ∀ p ∈ l, p.1 ≠ nb) (hle : w.heap.size ≤ nb) (hi : ops[i]? = some o) (hw : Region.wanted o (yielded ops a.tmps) = true)
    (x y : Operand) (ho : o.op = .store 23 x y) (c : Rs) (hx : a.eval x = .pointer (some ⟨nb, 0, none⟩)) (hy : a.eval y = .agg c.cells) (h : ∀ v', St w ((nb, c) :: l) v' → K (a.put o.dst undef) v') : wpOp Try.prog ops Q i K a v :=
  wpOp_store hi hw 23 x y ho nb 0 (.agg c.cells) c.cells hx hy rfl (be.thereAt 0 7 (by show 0 + 7 ≤ 7; decide)) (infoR' c) (Rs.cells_one c) _ rfl (fun v' e => by
    subst e
    refine h _ ⟨fun p hp => ?_, setCells_below' hle _ _ _ _ t.2⟩
    rcases List.mem_cons.1 hp with rfl | hp
    · exact be.setAll rfl
    · exact (t.1 p hp).otherCells (hn p hp) _ _)
theorem two_of {i a b : Nat} (h : i ∈ [a, b]) : i = a ∨ i = b := by simpa using h
end Go.Proofs.Ytlnpcbofebppcab
