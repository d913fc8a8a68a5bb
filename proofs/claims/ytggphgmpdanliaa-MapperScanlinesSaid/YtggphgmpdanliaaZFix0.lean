/-
  The banks that stand still, as plain facts.
-/
import Derived.Test.YtggphgmpdanliaaZStill
import Derived.Test.YtggphgmpdanliaaZIns0
set_option linter.unusedSimpArgs false
set_option linter.unusedVariables false
namespace Go.Proofs.Ytggphgmpdanliaa
open Go.RowKit Classical
theorem fixB_03 {b : Bd} (o : b.Ok) (hk : b.kind = 0 ∨ b.kind = 3) (x : Int) (h0 : 0 ≤ x) (h1 : x ≤ 3) : bankBA b x = x % b.prg := by
  unfold bankBA
  rw [if_pos ⟨o.val, h0, h1⟩]
  unfold bankB bankN
  rw [if_neg (by omega), if_neg (by omega), if_neg (by omega), if_neg (by omega)]
theorem fixB_2 {b : Bd} (o : b.Ok) (hk : b.kind = 2) : bankBA b 2 = b.prg - 2 ∧ bankBA b 3 = b.prg - 1 ∧ bankBA b 1 = bankBA b 0 + 1 ∧ bankBA b 0 % 2 = 0 ∧ 0 ≤ bankBA b 0 ∧ bankBA b 0 ≤ 128 := by
  have hl := o.wf.latch
  have p0 := o.p0
  have p1 := o.p1
  have p2 := o.p2
  have e : ∀ x, 0 ≤ x → x ≤ 3 → bankBA b x = (if x < 2 then 2 * b.latch + x else b.prg - 4 + x) % b.prg := fun x h0 h1 => by
    unfold bankBA
    rw [if_pos ⟨o.val, h0, h1⟩]
    unfold bankB bankN
    rw [if_neg (by omega), if_pos hk]
  rw [e 0 (by omega) (by omega), e 1 (by omega) (by omega), e 2 (by omega) (by omega), e 3 (by omega) (by omega)]
  simp only [show ((0 : Int) < 2) = True by simp, show ((1 : Int) < 2) = True by simp, show ((2 : Int) < 2) = False by simp, show ((3 : Int) < 2) = False by simp, if_true, if_false]
  have h2 : (b.prg - 4 + 2) % b.prg = b.prg - 2 := by rw [show b.prg - 4 + 2 = b.prg - 2 by omega]; exact Int.emod_eq_of_lt (by omega) (by omega)
  have h3 : (b.prg - 4 + 3) % b.prg = b.prg - 1 := by rw [show b.prg - 4 + 3 = b.prg - 1 by omega]; exact Int.emod_eq_of_lt (by omega) (by omega)
  obtain ⟨k, hk2⟩ : ∃ k, b.prg = 2 * k := ⟨b.prg / 2, by omega⟩
  have e0 : (2 * b.latch) % b.prg = 2 * (b.latch % k) := by rw [hk2, Int.mul_emod_mul_of_pos _ _ (by omega)]
  have g0 := Int.emod_nonneg b.latch (b := k) (by omega)
  have g1 := Int.emod_lt_of_pos b.latch (b := k) (by omega)
  have e1 : (2 * b.latch + 1) % b.prg = 2 * (b.latch % k) + 1 := by
    have hq := Int.emod_add_mul_ediv b.latch k
    have : 2 * b.latch + 1 = (2 * (b.latch % k) + 1) + b.prg * (b.latch / k) := by rw [hk2, Int.mul_assoc]; omega
    rw [this, Int.add_mul_emod_self_left]
    exact Int.emod_eq_of_lt (by omega) (by omega)
  rw [h2, h3, Int.add_zero, e0, e1]
  exact ⟨rfl, rfl, rfl, by omega, by omega, by omega⟩
theorem fixB_4 {b : Bd} (o : b.Ok) (hk : b.kind = 4) : bankBA b 3 = b.prg - 1 ∧ (bankBA b 0 = b.prg - 2 ∨ bankBA b 2 = b.prg - 2) := by
  have p0 := o.p0
  have e : ∀ x, 0 ≤ x → x ≤ 3 → bankBA b x = scanB b x % b.prg := fun x h0 h1 => by
    unfold bankBA
    rw [if_pos ⟨o.val, h0, h1⟩]
    unfold bankB bankN
    rw [if_neg (by omega), if_neg (by omega), if_pos hk]
  have h2 : (b.prg - 2) % b.prg = b.prg - 2 := Int.emod_eq_of_lt (by omega) (by omega)
  have h3 : (b.prg - 1) % b.prg = b.prg - 1 := Int.emod_eq_of_lt (by omega) (by omega)
  refine ⟨?_, ?_⟩
  · rw [e 3 (by omega) (by omega)]
    unfold scanB
    rw [if_neg (by omega), if_pos rfl, h3]
  · by_cases hs : b.sel / 64 % 2 = 0
    · right
      rw [e 2 (by omega) (by omega)]
      unfold scanB
      rw [if_neg (by omega), if_neg (by omega), if_neg (by omega), h2]
    · left
      rw [e 0 (by omega) (by omega)]
      unfold scanB
      rw [if_neg (by omega), if_neg (by omega), if_neg (by omega), h2]
theorem bankBA_bd {b : Bd} (o : b.Ok) (x : Int) (h0 : 0 ≤ x) (h1 : x ≤ 3) : 0 ≤ bankBA b x ∧ bankBA b x ≤ 127 := by
  unfold bankBA
  rw [if_pos ⟨o.val, h0, h1⟩]
  unfold bankB
  have p0 := o.p0
  have p1 := o.p1
  have := Int.emod_nonneg (bankN b x) (b := b.prg) (by omega)
  have := Int.emod_lt_of_pos (bankN b x) (b := b.prg) (by omega)
  omega
theorem pl_call {P : Program} {ops : Array Oper} {Q : Exit → Act → World → Prop} {a : Act} {w : World} {rest : List Oper} {o : Oper} {f : FuncId} {args : Array Value} {v : Value} {R : World → Prop} (hw : Region.wanted o (yielded ops a.tmps) = true) (he : (execOp a.eval o).run P w = .ok (.enter f args) w)
    (hc : Calls P f args w fun e w' => e = .returned v ∧ R w') (a' : Act) (ha : a.put o.dst v = a') (h : ∀ w', R w' → wpList P ops Q rest a' w') : wpList P ops Q (o :: rest) a w :=
  BigFrame.wpList_want hw fun _ hK => by
    subst ha
    unfold Oper.wp
    rw [he, Oper.upon_enter]
    refine hc.mono ?_
    rintro e w' ⟨rfl, hR⟩
    exact hK _ _ (h w' hR)
theorem exec_rem64 {ρ : Operand → Value} {o : Oper} {x y : Operand} {t z : TypeId} {a b : Int} {w : World} (ho : o.op = .binOp .rem t x y z) (hx : ρ x = .int .i64 a) (hy : ρ y = .int .i64 b) (ht : Try.prog.underlying t = some (.int .i64))
    (a0 : 0 ≤ a) (a1 : a ≤ 9223372036854775807) (b0 : 0 < b) (b1 : b ≤ 9223372036854775807) : (execOp ρ o).run Try.prog w = .ok (.value (.int .i64 (a % b))) w := by
  obtain ⟨dst, o, ty, pos, after, guard⟩ := o
  simp only at ho
  subst ho
  rw [run_exec_binOp, hx, hy]
  have e : a.tmod b = a % b := Int.tmod_eq_emod_of_nonneg a0
  have hz : (b == 0) = false := by simpa using (show ¬ b = 0 by omega)
  have h0 := Int.emod_nonneg a (b := b) (by omega)
  have h1 := Int.emod_lt_of_pos a b0
  have hw : IntKind.i64.wrap (a % b) = a % b := by rw [IntKind.wrap_i64]; omega
  go_simp
  omega
theorem exec_sub64 {ρ : Operand → Value} {o : Oper} {x y : Operand} {t z : TypeId} {a b : Int} {w : World} (ho : o.op = .binOp .sub t x y z) (hx : ρ x = .int .i64 a) (hy : ρ y = .int .i64 b) (ht : Try.prog.underlying t = some (.int .i64)) (h0 : -9223372036854775808 ≤ a - b) (h1 : a - b ≤ 9223372036854775807) : (execOp ρ o).run Try.prog w = .ok (.value (.int .i64 (a - b))) w := by
  obtain ⟨dst, o, ty, pos, after, guard⟩ := o
  simp only at ho
  subst ho
  rw [run_exec_binOp, hx, hy]
  have hw : IntKind.i64.wrap (a - b) = a - b := by rw [IntKind.wrap_i64]; omega
  go_simp
theorem exec_add64 {ρ : Operand → Value} {o : Oper} {x y : Operand} {t z : TypeId} {a b : Int} {w : World} (ho : o.op = .binOp .add t x y z) (hx : ρ x = .int .i64 a) (hy : ρ y = .int .i64 b) (ht : Try.prog.underlying t = some (.int .i64)) (h0 : -9223372036854775808 ≤ a + b) (h1 : a + b ≤ 9223372036854775807) : (execOp ρ o).run Try.prog w = .ok (.value (.int .i64 (a + b))) w := by
  obtain ⟨dst, o, ty, pos, after, guard⟩ := o
  simp only at ho
  subst ho
  rw [run_exec_binOp, hx, hy]
  have hw : IntKind.i64.wrap (a + b) = a + b := by rw [IntKind.wrap_i64]; omega
  go_simp
theorem exec_neq64 {ρ : Operand → Value} {o : Oper} {x y : Operand} {t z : TypeId} {a b : Int} {r : Bool} {w : World} (ho : o.op = .binOp .neq t x y z) (hx : ρ x = .int .i64 a) (hy : ρ y = .int .i64 b) (ht : Try.prog.underlying t = some (.int .i64)) (hr : (a != b) = r) : (execOp ρ o).run Try.prog w = .ok (.value (.bool r)) w := by
  obtain ⟨dst, o, ty, pos, after, guard⟩ := o
  simp only at ho
  subst ho
  rw [run_exec_binOp, hx, hy]
  go_simp
end Go.Proofs.Ytggphgmpdanliaa
