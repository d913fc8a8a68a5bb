/-
  Reads ahead of a call and a store, by hand.
-/
import Derived.Test.YtggphgmpdanliaaZOut
import Derived.Test.YtggphgmpdanliaaZLawB
import Derived.Test.YtggphgmpdanliaaYArg2
set_option linter.unusedSimpArgs false
set_option linter.unusedVariables false
namespace Go.Proofs.Ytggphgmpdanliaa
open Go.RowKit Classical
theorem stillT {P : Program} {ops : Array Oper} {w : World} {Q : Act → Prop} {a : Act} {o : Oper} {rest : List Oper} {v : Value} (hy : YieldsIf P ops (fun x => x = w) o v a) (a' : Act) (ha : a.put o.dst v = a') (h : wpStill P ops w Q rest a') : wpStill P ops w Q (o :: rest) a := by
  subst ha
  unfold wpStill
  rcases hy with ⟨hw, he⟩ | ⟨hw, rfl⟩
  · simp only [hw, if_true]
    unfold Oper.still
    rw [he w rfl, Oper.stillUpon_value]
    exact h
  · simp only [hw]
    exact h
theorem pl_take {P : Program} {ops : Array Oper} {Q : Exit → Act → World → Prop} {a : Act} {w : World} {rest : List Oper} {o : Oper} {v : Value} (hy : YieldsIf P ops (fun x => x = w) o v a) (a' : Act) (ha : a.put o.dst v = a')
    (h : wpList P ops Q rest a' w) : wpList P ops Q (o :: rest) a w := by
  subst ha
  rcases hy with ⟨hw, he⟩ | ⟨hw, rfl⟩
  · exact BigFrame.wpList_want hw fun _ hK => by
      unfold Oper.wp
      rw [he w rfl]
      exact hK _ _ h
  · exact wpList_step fun K hK => by
      rw [hw]
      exact hK _ _ h
theorem pl_end {P : Program} {ops : Array Oper} {Q : Exit → Act → World → Prop} {a a' : Act} {w : World} (ha : a = a') (h : Q .normal a' w) : wpList P ops Q [] a w := by
  subst ha
  exact h
theorem exec_neqO {ρ : Operand → Value} {o : Oper} {x y : Operand} {t z : TypeId} {a b : Bool} {r : Bool} {w : World} (ho : o.op = .binOp .neq t x y z) (hx : ρ x = .bool a) (hy : ρ y = .bool b) (ht : Try.prog.underlying t = some .bool) (hr : (a != b) = r) : (execOp ρ o).run Try.prog w = .ok (.value (.bool r)) w := by
  obtain ⟨dst, o, ty, pos, after, guard⟩ := o
  simp only at ho
  subst ho
  rw [run_exec_binOp, hx, hy]
  cases a <;> cases b <;> subst hr <;> go_simp
theorem exec_quo {ρ : Operand → Value} {o : Oper} {x y : Operand} {t z : TypeId} {a n r : Int} {w : World} (ho : o.op = .binOp .quo t x y z) (hx : ρ x = .int .i64 a) (hy : ρ y = .int .i64 n) (ht : Try.prog.underlying t = some (.int .i64)) (hn : ¬ n = 0) (h : a.tdiv n = r) (r0 : 0 ≤ r) (r1 : r ≤ 9223372036854775807) : (execOp ρ o).run Try.prog w = .ok (.value (.int .i64 r)) w := by
  obtain ⟨dst, o, ty, pos, after, guard⟩ := o
  simp only at ho
  subst ho
  rw [run_exec_binOp, hx, hy]
  go_simp
  rw [IntKind.wrap_i64]
  omega
theorem exec_idx {ρ : Operand → Value} {o : Oper} {x y : Operand} {b p len cap k : Nat} {w : World} (ho : o.op = .indexAddr 24 x y) (hx : ρ x = .slice (some ⟨b, p, none⟩) len cap) (hy : ρ y = .int .i64 k) (hk : k < len) : (execOp ρ o).run Try.prog w = .ok (.value (.pointer (some ⟨b, p + k * 6, none⟩))) w := by
  obtain ⟨dst, o, ty, pos, after, guard⟩ := o
  simp only at ho
  subst ho
  unfold execOp
  simp only [hx, hy]
  go_simp
end Go.Proofs.Ytggphgmpdanliaa
