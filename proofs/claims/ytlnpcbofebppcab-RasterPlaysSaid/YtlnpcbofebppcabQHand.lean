/-
  A region that keeps its order, taken by hand: an operation at a time.
-/
import Derived.Test.YtlnpcbofebppcabQSt3
set_option linter.unusedSimpArgs false
set_option linter.unusedVariables false
namespace Go.Proofs.Ytlnpcbofebppcab
open Go.RowKit Classical
theorem pl_val {P : Program} {ops : Array Oper} {Q : Exit → Act → World → Prop} {a : Act} {w : World} {rest : List Oper} {o : Oper} {v : Value} (hw : Region.wanted o (yielded ops a.tmps) = true) (he : (execOp a.eval o).run P w = .ok (.value v) w) (a' : Act) (ha : a.put o.dst v = a')
    (h : wpList P ops Q rest a' w) : wpList P ops Q (o :: rest) a w :=
  BigFrame.wpList_want hw fun _ hK => by
    subst ha
    unfold Oper.wp
    rw [he]
    exact hK _ _ h
theorem pl_skip {P : Program} {ops : Array Oper} {Q : Exit → Act → World → Prop} {a : Act} {w : World} {rest : List Oper} {o : Oper} (hw : Region.wanted o (yielded ops a.tmps) = false) (a' : Act) (ha : a.put o.dst undef = a')
    (h : wpList P ops Q rest a' w) : wpList P ops Q (o :: rest) a w :=
  wpList_step fun K hK => by
    subst ha
    rw [hw]
    exact hK _ _ h
theorem pl_call {P : Program} {ops : Array Oper} {Q : Exit → Act → World → Prop} {a : Act} {w : World} {rest : List Oper} {o : Oper} {f : FuncId} {args : Array Value} {v : Value} {R : World → Prop} (hw : Region.wanted o (yielded ops a.tmps) = true) (he : (execOp a.eval o).run P w = .ok (.enter f args) w)
    (hc : Calls P f args w fun e w' => e = .returned v ∧ R w') (a' : Act) (ha : a.put o.dst v = a') (h : ∀ w', R w' → wpList P ops Q rest a' w') : wpList P ops Q (o :: rest) a w :=
  BigFrame.wpList_want hw fun _ hK => by
    subst ha
    unfold Oper.wp
    rw [he, Oper.upon_enter]
    refine hc.mono ?_
    rintro e w' ⟨rfl, hR⟩
    exact hK _ _ (h w' hR)
theorem pl_load {ops : Array Oper} {Q : Exit → Act → World → Prop} {a : Act} {w : World} {rest : List Oper} {o : Oper} (hw : Region.wanted o (yielded ops a.tmps) = true) (x : Operand) (ho : o.op = .load 23 x)
    (b : Nat) (hx : a.eval x = .pointer (some ⟨b, 0, none⟩)) (c : Rs) (hB : Blk w b c.cells 23) (a' : Act) (ha : a.put o.dst (.agg c.cells) = a')
    (h : wpList Try.prog ops Q rest a' w) : wpList Try.prog ops Q (o :: rest) a w := by
  subst ha
  exact wpList_load_want hw 23 x ho b hx c.cells _ hB Try.underlying23 rfl (infoR' c) h
theorem pl_fld {P : Program} {ops : Array Oper} {Q : Exit → Act → World → Prop} {a : Act} {w : World} {rest : List Oper} {o : Oper} (hw : Region.wanted o (yielded ops a.tmps) = true) (b i : Nat) (v : Value)
    (he : ∀ w : World, w.cell? ⟨b, i, none⟩ = some v → (execOp a.eval o).run P w = .ok (.value v) w) (hc : w.cell? ⟨b, i, none⟩ = some v) (a' : Act) (ha : a.put o.dst v = a')
    (h : wpList P ops Q rest a' w) : wpList P ops Q (o :: rest) a w := pl_val hw (he w hc) a' ha h
theorem pl_end {P : Program} {ops : Array Oper} {Q : Exit → Act → World → Prop} {a a' : Act} {w : World} (ha : a = a') (h : Q .normal a' w) : wpList P ops Q [] a w := by
  subst ha
  exact h
theorem exec_eql {ρ : Operand → Value} {o : Oper} {x y : Operand} {t z : TypeId} {a b : Int} {r : Bool} {w : World} (ho : o.op = .binOp .eql t x y z) (hx : ρ x = .int .i64 a) (hy : ρ y = .int .i64 b) (ht : Try.prog.underlying t = some (.int .i64)) (hr : (a == b) = r) : (execOp ρ o).run Try.prog w = .ok (.value (.bool r)) w := by
  obtain ⟨dst, o, ty, pos, after, guard⟩ := o
  simp only at ho
  subst ho
  rw [run_exec_binOp, hx, hy]
  go_simp
theorem exec_neq {ρ : Operand → Value} {o : Oper} {x y : Operand} {t z : TypeId} {a b : Int} {r : Bool} {w : World} (ho : o.op = .binOp .neq t x y z) (hx : ρ x = .int .i64 a) (hy : ρ y = .int .i64 b) (ht : Try.prog.underlying t = some (.int .i64)) (hr : (a != b) = r) : (execOp ρ o).run Try.prog w = .ok (.value (.bool r)) w := by
  obtain ⟨dst, o, ty, pos, after, guard⟩ := o
  simp only at ho
  subst ho
  rw [run_exec_binOp, hx, hy]
  go_simp
theorem exec_add {ρ : Operand → Value} {o : Oper} {x y : Operand} {t z : TypeId} {a b : Int} {w : World} (ho : o.op = .binOp .add t x y z) (hx : ρ x = .int .i64 a) (hy : ρ y = .int .i64 b) (ht : Try.prog.underlying t = some (.int .i64)) (h0 : -9223372036854775808 ≤ a + b) (h1 : a + b ≤ 9223372036854775807) : (execOp ρ o).run Try.prog w = .ok (.value (.int .i64 (a + b))) w := by
  obtain ⟨dst, o, ty, pos, after, guard⟩ := o
  simp only at ho
  subst ho
  rw [run_exec_binOp, hx, hy]
  have hw := i64_in (a + b) ⟨h0, h1⟩
  go_simp
end Go.Proofs.Ytlnpcbofebppcab
