/-
  The clocks of a law in memory, while its calls go on.
-/
import Derived.Test.YtobiiogoofkmaaaDoorTTop0
import Derived.ChangeKeysEq
set_option linter.unusedSimpArgs false
set_option linter.unusedVariables false
namespace Go.Proofs.YtobiiogoofkmaaaDoor
open Go.RowKit Classical
/-- The blocks of the list hold their clocks; all that lay in w is as it was. -/
def St (w : World) (l : List (Nat × Ck)) (v : World) : Prop := (∀ p ∈ l, Blk v p.1 p.2.cells 24) ∧ Below w.heap.size w v
theorem St.on {w v v' : World} {l : List (Nat × Ck)} (h : St w l v) (hb : Below v.heap.size v v') : St w l v' :=
  ⟨fun p hp => (h.1 p hp).below (h.1 p hp).lt hb, h.2.trans (hb.mono h.2.size)⟩
theorem St.drew {w v : World} {l : List (Nat × Ck)} (h : St w l v) : St w l v.drew := ⟨fun p hp => h.1 p hp, h.2.drew⟩
theorem St.blk {w v : World} {l : List (Nat × Ck)} (h : St w l v) (b : Nat) (c : Ck) (hm : (b, c) ∈ l) : Blk v b c.cells 24 := h.1 (b, c) hm
theorem St.start (w : World) (c : Ck) : St w [(w.heap.size, c)] (w.alloc (.cells c.cells 24)) :=
  ⟨fun p hp => by simp only [List.mem_singleton] at hp; subst hp; exact Blk.new w _ _, (Below.refl _ _).alloc (Nat.le_refl _) _⟩
theorem eql_yes (w : World) {b d : Ck} (h : b = d) : (binOp .eql 24 (.agg b.cells) (.agg d.cells)).run Tryd.prog w = .ok (.bool true) w := by
  rw [eqlC, decide_eq_true h]
theorem eql_not (w : World) {b d : Ck} (h : b ≠ d) : (binOp .eql 24 (.agg b.cells) (.agg d.cells)).run Tryd.prog w = .ok (.bool false) w := by
  rw [eqlC, decide_eq_false h]
theorem neq_yes (w : World) {b d : Ck} (h : b = d) : (binOp .neq 24 (.agg b.cells) (.agg d.cells)).run Tryd.prog w = .ok (.bool false) w := by
  rw [neqC, decide_eq_true h]; rfl
theorem run_exec_binOp (P : Program) (w : World) (ρ : Operand → Value) (dst : Option Tmp) (ty : TypeId) (pos : String) (after : Array Edge) (guard : Option (Nat × Bool)) (op : BinOp) (t z : TypeId) (x y : Operand) :
    (execOp ρ { dst, op := .binOp op t x y z, type := ty, pos, after, guard }).run P w = ((eqGuard op t x y (ρ x) (ρ y)).run P w).andThen fun _ v' => ((binOp op t (ρ x) (ρ y)).run P v').andThen fun r v'' => .ok (.value r) v'' := by
  unfold execOp
  simp only [Sem.run_bind, Sem.run_pure]
  cases (eqGuard op t x y (ρ x) (ρ y)).run P w <;> rfl
theorem exec_bin {ρ : Operand → Value} {o : Oper} {op : BinOp} {x y : Operand} {z : TypeId} {b d : Ck} {r : Bool} {w : World} (ho : o.op = .binOp op 24 x y z) (hx : ρ x = .agg b.cells) (hy : ρ y = .agg d.cells)
    (h : (binOp op 24 (.agg b.cells) (.agg d.cells)).run Tryd.prog w = .ok (.bool r) w) : (execOp ρ o).run Tryd.prog w = .ok (.value (.bool r)) w := by
  obtain ⟨dst, o, ty, pos, after, guard⟩ := o
  simp only at ho
  subst ho
  rw [run_exec_binOp, hx, hy, run_eqGuard_agg w op 24 _ _ _ _ (by kernel_rfl), Result.andThen_ok, h]
  rfl
end Go.Proofs.YtobiiogoofkmaaaDoor
