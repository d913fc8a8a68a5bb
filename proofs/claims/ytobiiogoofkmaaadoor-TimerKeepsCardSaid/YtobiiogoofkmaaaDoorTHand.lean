/-
  A region that keeps its order, taken by hand: an operation at a time.
-/
import Derived.Test.YtobiiogoofkmaaaDoorTLawP
set_option linter.unusedSimpArgs false
set_option linter.unusedVariables false
namespace Go.Proofs.YtobiiogoofkmaaaDoor
open Go.RowKit
theorem pl_val {P : Program} {ops : Array Oper} {Q : Exit → Act → World → Prop} {a : Act} {w : World} {rest : List Oper} {o : Oper} {v : Value} (hw : Region.wanted o (yielded ops a.tmps) = true) (he : (execOp a.eval o).run P w = .ok (.value v) w) (a' : Act) (ha : a.put o.dst v = a')
    (h : wpList P ops Q rest a' w) : wpList P ops Q (o :: rest) a w :=
  BigFrame.wpList_want hw fun _ hK => by
    subst ha
    unfold Oper.wp
    rw [he]
    exact hK _ _ h
theorem pl_skip {P : Program} {ops : Array Oper} {Q : Exit → Act → World → Prop} {a : Act} {w : World} {rest : List Oper} {o : Oper} (hw : Region.wanted o (yielded ops a.tmps) = false) (a' : Act) (ha : a.put o.dst undef = a')
    (h : wpList P ops Q rest a' w) : wpList P ops Q (o :: rest) a w :=
  wpList_step fun K hK => by
    subst ha
    rw [hw]
    exact hK _ _ h
theorem pl_call {P : Program} {ops : Array Oper} {Q : Exit → Act → World → Prop} {a : Act} {w : World} {rest : List Oper} {o : Oper} {f : FuncId} {args : Array Value} {v : Value} {R : World → Prop} (hw : Region.wanted o (yielded ops a.tmps) = true) (he : (execOp a.eval o).run P w = .ok (.enter f args) w)
    (hc : Calls P f args w fun e w' => e = .returned v ∧ R w') (a' : Act) (ha : a.put o.dst v = a') (h : ∀ w', R w' → wpList P ops Q rest a' w') : wpList P ops Q (o :: rest) a w :=
  BigFrame.wpList_want hw fun _ hK => by
    subst ha
    unfold Oper.wp
    rw [he, Oper.upon_enter]
    refine hc.mono ?_
    rintro e w' ⟨rfl, hR⟩
    exact hK _ _ (h w' hR)
theorem pl_load {ops : Array Oper} {Q : Exit → Act → World → Prop} {a : Act} {w : World} {rest : List Oper} {o : Oper} (hw : Region.wanted o (yielded ops a.tmps) = true) (x : Operand) (ho : o.op = .load 24 x)
    (b : Nat) (hx : a.eval x = .pointer (some ⟨b, 0, none⟩)) (c : Ck) (hB : Blk w b c.cells 24) (a' : Act) (ha : a.put o.dst (.agg c.cells) = a')
    (h : wpList Tryd.prog ops Q rest a' w) : wpList Tryd.prog ops Q (o :: rest) a w := by
  subst ha
  exact wpList_load_want hw 24 x ho b hx c.cells _ hB Tryd.underlying24 rfl (infoC' c) h
theorem pl_fld {P : Program} {ops : Array Oper} {Q : Exit → Act → World → Prop} {a : Act} {w : World} {rest : List Oper} {o : Oper} (hw : Region.wanted o (yielded ops a.tmps) = true) (b i : Nat) (v : Value)
    (he : ∀ w : World, w.cell? ⟨b, i, none⟩ = some v → (execOp a.eval o).run P w = .ok (.value v) w) (hc : w.cell? ⟨b, i, none⟩ = some v) (a' : Act) (ha : a.put o.dst v = a')
    (h : wpList P ops Q rest a' w) : wpList P ops Q (o :: rest) a w := pl_val hw (he w hc) a' ha h
theorem pl_end {P : Program} {ops : Array Oper} {Q : Exit → Act → World → Prop} {a a' : Act} {w : World} (ha : a = a') (h : Q .normal a' w) : wpList P ops Q [] a w := by
  subst ha
  exact h
theorem exec_eql {ρ : Operand → Value} {o : Oper} {x y : Operand} {t z : TypeId} {a b : Int} {r : Bool} {w : World} (ho : o.op = .binOp .eql t x y z) (hx : ρ x = .int .i64 a) (hy : ρ y = .int .i64 b) (ht : Tryd.prog.underlying t = some (.int .i64)) (hr : (a == b) = r) : (execOp ρ o).run Tryd.prog w = .ok (.value (.bool r)) w := by
  obtain ⟨dst, o, ty, pos, after, guard⟩ := o
  simp only at ho
  subst ho
  rw [run_exec_binOp, hx, hy]
  go_simp
theorem exec_neq {ρ : Operand → Value} {o : Oper} {x y : Operand} {t z : TypeId} {a b : Int} {r : Bool} {w : World} (ho : o.op = .binOp .neq t x y z) (hx : ρ x = .int .i64 a) (hy : ρ y = .int .i64 b) (ht : Tryd.prog.underlying t = some (.int .i64)) (hr : (a != b) = r) : (execOp ρ o).run Tryd.prog w = .ok (.value (.bool r)) w := by
  obtain ⟨dst, o, ty, pos, after, guard⟩ := o
  simp only at ho
  subst ho
  rw [run_exec_binOp, hx, hy]
  go_simp
theorem exec_add {ρ : Operand → Value} {o : Oper} {x y : Operand} {t z : TypeId} {a b : Int} {w : World} (ho : o.op = .binOp .add t x y z) (hx : ρ x = .int .i64 a) (hy : ρ y = .int .i64 b) (ht : Tryd.prog.underlying t = some (.int .i64)) (h0 : -9223372036854775808 ≤ a + b) (h1 : a + b ≤ 9223372036854775807) : (execOp ρ o).run Tryd.prog w = .ok (.value (.int .i64 (a + b))) w := by
  obtain ⟨dst, o, ty, pos, after, guard⟩ := o
  simp only at ho
  subst ho
  rw [run_exec_binOp, hx, hy]
  have hw := i64_in (a + b) ⟨h0, h1⟩
  go_simp
theorem exec_and {ρ : Operand → Value} {o : Oper} {x y : Operand} {t z : TypeId} {a b r : Int} {w : World} (ho : o.op = .binOp .and t x y z) (hx : ρ x = .int .u8 a) (hy : ρ y = .int .u8 b) (ht : Tryd.prog.underlying t = some (.int .u8)) (hr : bits .and .u8 a b = r) : (execOp ρ o).run Tryd.prog w = .ok (.value (.int .u8 r)) w := by
  obtain ⟨dst, o, ty, pos, after, guard⟩ := o
  simp only at ho
  subst ho
  rw [run_exec_binOp, hx, hy]
  go_simp
theorem exec_neq8 {ρ : Operand → Value} {o : Oper} {x y : Operand} {t z : TypeId} {a b : Int} {r : Bool} {w : World} (ho : o.op = .binOp .neq t x y z) (hx : ρ x = .int .u8 a) (hy : ρ y = .int .u8 b) (ht : Tryd.prog.underlying t = some (.int .u8)) (hr : (a != b) = r) : (execOp ρ o).run Tryd.prog w = .ok (.value (.bool r)) w := by
  obtain ⟨dst, o, ty, pos, after, guard⟩ := o
  simp only at ho
  subst ho
  rw [run_exec_binOp, hx, hy]
  go_simp
theorem exec_neqb {ρ : Operand → Value} {o : Oper} {x y : Operand} {t z : TypeId} {a : Bool} {w : World} (ho : o.op = .binOp .neq t x y z) (hx : ρ x = .bool a) (hy : ρ y = .bool a) (ht : Tryd.prog.underlying t = some .bool) : (execOp ρ o).run Tryd.prog w = .ok (.value (.bool false)) w := by
  obtain ⟨dst, o, ty, pos, after, guard⟩ := o
  simp only at ho
  subst ho
  rw [run_exec_binOp, hx, hy]
  cases a <;> go_simp
theorem nat_and63 (a : Nat) (h : a < 256) : a &&& 63 = a % 64 := by revert a; decide +kernel
theorem and63 (x : Int) (h0 : 0 ≤ x) (h1 : x ≤ 255) : bits .and .u8 x 63 = x % 64 := by
  obtain ⟨k, rfl⟩ := Int.eq_ofNat_of_zero_le h0
  have := bitsN_and k 63 (by omega) (by decide)
  rw [nat_and63 k (by omega)] at this
  exact this.trans (by omega)
end Go.Proofs.YtobiiogoofkmaaaDoor
