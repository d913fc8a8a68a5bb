/-
  Clocks add up; when a board asks: plain facts, and the contract of ToIrq.
-/
import Derived.Test.YtggphgmpdanliaaZSerB
set_option linter.unusedSimpArgs false
set_option linter.unusedVariables false
namespace Go.Proofs.Ytggphgmpdanliaa
open Go.RowKit Classical
/-- What ToIrq answers of any board. -/
def toIrqA (b : Bd) : Int := if validB b = true ∧ b.kind = 4 then irqV b else -1
theorem toIrq_all (w : World) (b : Bd) (B : b.Wf) :
    Calls Try.prog 25 #[.agg b.cells] w fun e w' => e = .returned (.int .i64 (toIrqA b)) ∧ Below w.heap.size w w' := by
  unfold toIrqA
  cases hv : validB b
  · rw [if_neg (by simp)]
    exact toIrqNone w b B.rlen hv
  have o := Bd.ok B hv
  have hl := valid_lst hv
  rcases o.kd with hk | hk | hk | hk | hk | hk
  · rw [if_neg (by omega)]
    exact toIrqM_0 w b B hk hl (valid_kk (validB_0 hk) hv).2
  · rw [if_neg (by omega)]
    exact toIrqM_1 w b B hk hl (valid_kk (validB_1 hk) hv).2
  · rw [if_neg (by omega)]
    exact toIrqM_2 w b B hk hl (valid_kk (validB_2 hk) hv).2
  · rw [if_neg (by omega)]
    exact toIrqM_3 w b B hk hl (valid_kk (validB_3 hk) hv).2
  · rw [if_pos ⟨rfl, hk⟩]
    exact toIrqM_4 w b B hk hl (valid_kk (validB_4 hk) hv).2
  · rw [if_neg (by omega)]
    exact toIrqM_7 w b B hk hl (valid_kk (validB_7 hk) hv).2
theorem it_it (m : Nat) (b : Bd) : ∀ n : Nat, it n (it m b) = it (m + n) b
  | 0 => rfl
  | n + 1 => by show clk1 (it n (it m b)) = clk1 (it (m + n) b); rw [it_it m b n]
theorem clockA_it {b : Bd} (o : b.Ok) (hk : b.kind = 4) (n : Int) (h : 0 ≤ n) : clockA b n = it n.toNat b := by
  by_cases h0 : n = 0
  · subst h0
    unfold clockA
    rw [if_neg (by omega)]
    rfl
  · unfold clockA
    rw [if_pos ⟨o.val, by omega, hk⟩, it_pos b o.wf.iCount o.wf.iLatch (o.fits hk).1 n.toNat (by omega), Int.toNat_of_nonneg h]
theorem clockA_none {b : Bd} (h : validB b = false ∨ ¬ b.kind = 4) (n : Int) : clockA b n = b := by
  unfold clockA
  rw [if_neg (by rintro ⟨h1, -, h2⟩; rcases h with h | h; · rw [h] at h1; cases h1
                 · exact h h2)]
theorem clockA_neg (b : Bd) (n : Int) (h : n ≤ 0) : clockA b n = b := by
  unfold clockA
  rw [if_neg (by omega)]
theorem clockA_wf {b : Bd} (B : b.Wf) (n : Int) : (clockA b n).Wf := by
  cases hv : validB b
  · rw [clockA_none (.inl hv)]; exact B
  · exact (clockA_ok (Bd.ok B hv) n).wf
theorem clockA_add {b : Bd} (B : b.Wf) (a c : Int) (a0 : 0 ≤ a) (c0 : 0 ≤ c) : clockA (clockA b a) c = clockA b (a + c) := by
  cases hv : validB b
  · rw [clockA_none (.inl hv), clockA_none (.inl hv), clockA_none (.inl hv)]
  · by_cases hk : b.kind = 4
    · have o := Bd.ok B hv
      have o1 := clockA_ok o a
      have k1 : (clockA b a).kind = 4 := (clockA_fix b a).1.trans hk
      rw [clockA_it o1 k1 c c0, clockA_it o hk a a0, clockA_it o hk (a + c) (by omega), it_it]
      congr 1
      omega
    · rw [clockA_none (.inr hk), clockA_none (.inr hk), clockA_none (.inr hk)]
theorem clock_irq {b : Bd} (o : b.Ok) (hk : b.kind = 4) (n : Int) (h : 0 < n) : (clockA b n).irq = (b.irq || askV b (zeroV b (b.sub == 4)) n) := by
  unfold clockA
  rw [if_pos ⟨o.val, h, hk⟩]
  rfl
theorem clock_one {b : Bd} (o : b.Ok) (hk : b.kind = 4) : (clockA b 1).iCount = if 0 < b.iCount then b.iCount - 1 else b.iLatch := by
  unfold clockA
  rw [if_pos ⟨o.val, by decide, hk⟩, clkB_eq]
  show cN b.iCount b.iLatch 1 = _
  have c0 := o.wf.iCount.1
  have l0 := o.wf.iLatch.1
  unfold cN
  by_cases h : 0 < b.iCount
  · rw [if_pos (by omega), if_pos h]
  · rw [if_neg (by omega), if_neg h]
    have e : b.iCount = 0 := by omega
    rw [e]
    by_cases hl : b.iLatch = 0
    · rw [hl]; rfl
    · have : ((1 : Int) - 0).tmod (b.iLatch + 1) = 1 := by rw [Int.sub_zero, Int.tmod_eq_of_lt (by decide) (by omega)]
      rw [this, if_pos (by decide)]
      omega
theorem zeroV_bd {b : Bd} (o : b.Ok) (x : Bool) : zeroV b x = -1 ∨ (0 < zeroV b x ∧ zeroV b x ≤ 256) := by
  have c0 := o.wf.iCount
  have l0 := o.wf.iLatch
  unfold zeroV
  (repeat' split) <;> omega
theorem zeroV_never {b : Bd} (o : b.Ok) (x : Bool) (h : zeroV b x = -1) : x = true ∧ b.iLatch = 0 := by
  have c0 := o.wf.iCount
  have l0 := o.wf.iLatch
  revert h
  unfold zeroV
  (repeat' split) <;> intro h
  · omega
  · rename_i h1
    simp only [Bool.and_eq_true, beq_iff_eq] at h1
    exact ⟨h1.1, h1.2.1⟩
  · omega
theorem bank_valid (b : Bd) (B : b.Wf) : validB b = decide (0 ≤ bankBA b 0) := by
  cases hv : validB b
  · unfold bankBA
    rw [if_neg (by rw [hv]; simp)]
    rfl
  · have := (bankBA_bd (Bd.ok B hv) 0 (by decide) (by decide)).1
    exact (decide_eq_true this).symm
theorem exec_neg64 {ρ : Operand → Value} {o : Oper} {x : Operand} {t : TypeId} {a : Int} {w : World} (ho : o.op = .unOp .neg t x) (hx : ρ x = .int .i64 a) (ht : Try.prog.underlying t = some (.int .i64)) (h0 : -9223372036854775807 ≤ a) (h1 : a ≤ 9223372036854775807) : (execOp ρ o).run Try.prog w = .ok (.value (.int .i64 (-a))) w := by
  obtain ⟨dst, o, ty, pos, after, guard⟩ := o
  simp only at ho
  subst ho
  unfold execOp
  simp only [hx]
  have hw : IntKind.i64.wrap (-a) = -a := by rw [IntKind.wrap_i64]; omega
  go_simp
theorem exec_geq64 {ρ : Operand → Value} {o : Oper} {x y : Operand} {t z : TypeId} {a b : Int} {r : Bool} {w : World} (ho : o.op = .binOp .geq t x y z) (hx : ρ x = .int .i64 a) (hy : ρ y = .int .i64 b) (ht : Try.prog.underlying t = some (.int .i64)) (hr : decide (b ≤ a) = r) : (execOp ρ o).run Try.prog w = .ok (.value (.bool r)) w := by
  obtain ⟨dst, o, ty, pos, after, guard⟩ := o
  simp only at ho
  subst ho
  rw [run_exec_binOp, hx, hy]
  go_simp
theorem exec_eqb {ρ : Operand → Value} {o : Oper} {x y : Operand} {t z : TypeId} {a : Bool} {w : World} (ho : o.op = .binOp .eql t x y z) (hx : ρ x = .bool a) (hy : ρ y = .bool a) (ht : Try.prog.underlying t = some .bool) : (execOp ρ o).run Try.prog w = .ok (.value (.bool true)) w := by
  obtain ⟨dst, o, ty, pos, after, guard⟩ := o
  simp only at ho
  subst ho
  rw [run_exec_binOp, hx, hy]
  cases a <;> go_simp
theorem exec_gtr64 {ρ : Operand → Value} {o : Oper} {x y : Operand} {t z : TypeId} {a b : Int} {r : Bool} {w : World} (ho : o.op = .binOp .gtr t x y z) (hx : ρ x = .int .i64 a) (hy : ρ y = .int .i64 b) (ht : Try.prog.underlying t = some (.int .i64)) (hr : decide (b < a) = r) : (execOp ρ o).run Try.prog w = .ok (.value (.bool r)) w := by
  obtain ⟨dst, o, ty, pos, after, guard⟩ := o
  simp only at ho
  subst ho
  rw [run_exec_binOp, hx, hy]
  go_simp
theorem exec_leq64 {ρ : Operand → Value} {o : Oper} {x y : Operand} {t z : TypeId} {a b : Int} {r : Bool} {w : World} (ho : o.op = .binOp .leq t x y z) (hx : ρ x = .int .i64 a) (hy : ρ y = .int .i64 b) (ht : Try.prog.underlying t = some (.int .i64)) (hr : decide (a ≤ b) = r) : (execOp ρ o).run Try.prog w = .ok (.value (.bool r)) w := by
  obtain ⟨dst, o, ty, pos, after, guard⟩ := o
  simp only at ho
  subst ho
  rw [run_exec_binOp, hx, hy]
  go_simp
theorem exec_gtr8 {ρ : Operand → Value} {o : Oper} {x y : Operand} {t z : TypeId} {a b : Int} {r : Bool} {w : World} (ho : o.op = .binOp .gtr t x y z) (hx : ρ x = .int .u8 a) (hy : ρ y = .int .u8 b) (ht : Try.prog.underlying t = some (.int .u8)) (hr : decide (b < a) = r) : (execOp ρ o).run Try.prog w = .ok (.value (.bool r)) w := by
  obtain ⟨dst, o, ty, pos, after, guard⟩ := o
  simp only at ho
  subst ho
  rw [run_exec_binOp, hx, hy]
  go_simp
theorem exec_neq8 {ρ : Operand → Value} {o : Oper} {x y : Operand} {t z : TypeId} {a b : Int} {r : Bool} {w : World} (ho : o.op = .binOp .neq t x y z) (hx : ρ x = .int .u8 a) (hy : ρ y = .int .u8 b) (ht : Try.prog.underlying t = some (.int .u8)) (hr : (a != b) = r) : (execOp ρ o).run Try.prog w = .ok (.value (.bool r)) w := by
  obtain ⟨dst, o, ty, pos, after, guard⟩ := o
  simp only at ho
  subst ho
  rw [run_exec_binOp, hx, hy]
  go_simp
theorem exec_eql8 {ρ : Operand → Value} {o : Oper} {x y : Operand} {t z : TypeId} {a b : Int} {r : Bool} {w : World} (ho : o.op = .binOp .eql t x y z) (hx : ρ x = .int .u8 a) (hy : ρ y = .int .u8 b) (ht : Try.prog.underlying t = some (.int .u8)) (hr : (a == b) = r) : (execOp ρ o).run Try.prog w = .ok (.value (.bool r)) w := by
  obtain ⟨dst, o, ty, pos, after, guard⟩ := o
  simp only at ho
  subst ho
  rw [run_exec_binOp, hx, hy]
  go_simp
theorem exec_sub8 {ρ : Operand → Value} {o : Oper} {x y : Operand} {t z : TypeId} {a b : Int} {w : World} (ho : o.op = .binOp .sub t x y z) (hx : ρ x = .int .u8 a) (hy : ρ y = .int .u8 b) (ht : Try.prog.underlying t = some (.int .u8)) (h0 : 0 ≤ a - b) (h1 : a - b ≤ 255) : (execOp ρ o).run Try.prog w = .ok (.value (.int .u8 (a - b))) w := by
  obtain ⟨dst, o, ty, pos, after, guard⟩ := o
  simp only at ho
  subst ho
  rw [run_exec_binOp, hx, hy]
  have hw : IntKind.u8.wrap (a - b) = a - b := by rw [IntKind.wrap_u8]; omega
  go_simp
theorem run_fld {k off : Nat} {ty : TypeId} {cs : Array Value} {v : Value} (hv : cs[off]? = some v) (hf : ∀ W : World, (Instr.field 28 (.agg cs) k).run Try.prog W = (part ty cs off).run Try.prog W) (he : Try.prog.plainKey ty = true) (W : World) : (Instr.field 28 (.agg cs) k).run Try.prog W = .ok v W := by
  rw [hf W, run_part_plain W he hv]
theorem exec_field {ρ : Operand → Value} {o : Oper} {x : Operand} {k off : Nat} {ty : TypeId} {cs : Array Value} {v : Value} {w : World} (ho : o.op = .field 28 x k) (hx : ρ x = .agg cs) (hv : cs[off]? = some v)
    (hf : ∀ W : World, (Instr.field 28 (.agg cs) k).run Try.prog W = (part ty cs off).run Try.prog W) (he : Try.prog.plainKey ty = true) : (execOp ρ o).run Try.prog w = .ok (.value v) w := by
  obtain ⟨dst, o, ty', pos, after, guard⟩ := o
  simp only at ho
  subst ho
  unfold execOp
  simp only [hx, Sem.run_bind, hf, run_part_plain w he hv]
  rfl
end Go.Proofs.Ytggphgmpdanliaa
