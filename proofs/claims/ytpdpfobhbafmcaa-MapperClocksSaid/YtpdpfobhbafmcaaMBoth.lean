/-
  Both Clock and both ToIrq of every board; conditions: the numbers fit their kinds.
-/
import Derived.Test.YtpdpfobhbafmcaaRClk3
import Derived.Test.YtpdpfobhbafmcaaMSame
namespace Go.Proofs.Ytpdpfobhbafmcaa
open Go.RowKit Classical
theorem valid_k {b : Bd} {x y : Bool} (h : validB b = (x && y)) (hv : validB b = true) : x = true ∧ y = true := by
  rw [h] at hv
  exact Bool.and_eq_true_iff.1 hv
theorem n4_clkB (b : Bd) (n : Int) (o : Bool) (h : n4 b = b) : n4 (clkB b n o) = clkB b n o := by
  have e : n4 (clkB b n o) = { n4 b with iLoad := (clkB b n o).iLoad, irq := (clkB b n o).irq, iCount := (clkB b n o).iCount } := rfl
  rw [e, h]
  rfl
theorem clock_both (b : Bd) (n : Int) (B : b.Wf) (hn : n ≤ 9223372036854775807) : ∃ d : Bd, d.r.length = 8 ∧
    (∀ W, Calls Try.prog 11 #[.agg b.cells, .int .i64 n] W fun e w' => e = .returned (.agg d.cells) ∧ Below W.heap.size W w') ∧
    (∀ W, Calls Try.prog 12 #[.agg b.cells, .int .i64 n] W fun e w' => e = .returned (.agg d.cells) ∧ Below W.heap.size W w') := by
  by_cases hz : validB b = false ∨ n ≤ 0
  · exact ⟨b, B.rlen, fun W => clockSame W b n B.rlen hz, fun W => rClock_same W b n B (hz.elim Or.inl fun h => Or.inr (Or.inr h))⟩
  · have hv : validB b = true := by
      cases h : validB b
      · exact absurd (Or.inl h) hz
      · rfl
    have hn1 : 0 < n ∧ n ≤ 9223372036854775807 := ⟨by omega, hn⟩
    have hl0 : lst b.kind b.sub = true := by unfold validB at hv; exact (Bool.and_eq_true_iff.1 hv).1
    rcases lst_kinds hl0 with hk | hk | hk | hk | hk | hk
    · obtain ⟨hl, hq⟩ := valid_k (validB_0 hk) hv
      have e : bare 0 b = b := sameB_eq (Bool.and_eq_true_iff.1 hq).1
      refine ⟨b, B.rlen, fun W => ?_, fun W => rClock_same W b n B (Or.inr (Or.inl (by omega)))⟩
      have h := clockM_0 W b n B hn1 hk hl hq
      rw [e] at h
      exact h
    · obtain ⟨hl, hq⟩ := valid_k (validB_1 hk) hv
      have e : n1 b = b := sameB_eq (Bool.and_eq_true_iff.1 hq).1
      refine ⟨b, B.rlen, fun W => ?_, fun W => rClock_same W b n B (Or.inr (Or.inl (by omega)))⟩
      have h := clockM_1 W b n B hn1 hk hl hq
      rw [e] at h
      exact h
    · obtain ⟨hl, hq⟩ := valid_k (validB_2 hk) hv
      have e : nL 2 b = b := sameB_eq (Bool.and_eq_true_iff.1 hq).1
      refine ⟨b, B.rlen, fun W => ?_, fun W => rClock_same W b n B (Or.inr (Or.inl (by omega)))⟩
      have h := clockM_2 W b n B hn1 hk hl hq
      rw [e] at h
      exact h
    · obtain ⟨hl, hq⟩ := valid_k (validB_3 hk) hv
      have e : nL 3 b = b := sameB_eq (Bool.and_eq_true_iff.1 hq).1
      refine ⟨b, B.rlen, fun W => ?_, fun W => rClock_same W b n B (Or.inr (Or.inl (by omega)))⟩
      have h := clockM_3 W b n B hn1 hk hl hq
      rw [e] at h
      exact h
    · obtain ⟨hl, hq⟩ := valid_k (validB_4 hk) hv
      have e : n4 b = b := sameB_eq (Bool.and_eq_true_iff.1 hq).1
      refine ⟨clkB b n (b.sub == 4), B.rlen, fun W => ?_, fun W => rClock_4 W b n B hn1 hk hv⟩
      have h := clockM_4 W b n B hn1 hk hl hq
      rw [n4_clkB b n _ e] at h
      exact h
    · obtain ⟨hl, hq⟩ := valid_k (validB_7 hk) hv
      have e : nL 7 b = b := sameB_eq (Bool.and_eq_true_iff.1 hq).1
      refine ⟨b, B.rlen, fun W => ?_, fun W => rClock_same W b n B (Or.inr (Or.inl (by omega)))⟩
      have h := clockM_7 W b n B hn1 hk hl hq
      rw [e] at h
      exact h
theorem toIrq_both (b : Bd) (B : b.Wf) : ∃ v : Int,
    (∀ W, Calls Try.prog 13 #[.agg b.cells] W fun e w' => e = .returned (.int .i64 v) ∧ Below W.heap.size W w') ∧
    (∀ W, Calls Try.prog 14 #[.agg b.cells] W fun e w' => e = .returned (.int .i64 v) ∧ Below W.heap.size W w') := by
  cases hv : validB b
  · exact ⟨-1, fun W => toIrqNone W b B.rlen hv, fun W => rToIrq_none W b B (Or.inl hv)⟩
  · have hl0 : lst b.kind b.sub = true := by unfold validB at hv; exact (Bool.and_eq_true_iff.1 hv).1
    rcases lst_kinds hl0 with hk | hk | hk | hk | hk | hk
    · obtain ⟨hl, hq⟩ := valid_k (validB_0 hk) hv
      have e : bare 0 b = b := sameB_eq (Bool.and_eq_true_iff.1 hq).1
      have hi : b.irq = false := by rw [← e]; rfl
      exact ⟨-1, fun W => toIrqM_0 W b B hk hl hq, fun W => rToIrq_none W b B (Or.inr ⟨by omega, hi⟩)⟩
    · obtain ⟨hl, hq⟩ := valid_k (validB_1 hk) hv
      have e : n1 b = b := sameB_eq (Bool.and_eq_true_iff.1 hq).1
      have hi : b.irq = false := by rw [← e]; rfl
      exact ⟨-1, fun W => toIrqM_1 W b B hk hl hq, fun W => rToIrq_none W b B (Or.inr ⟨by omega, hi⟩)⟩
    · obtain ⟨hl, hq⟩ := valid_k (validB_2 hk) hv
      have e : nL 2 b = b := sameB_eq (Bool.and_eq_true_iff.1 hq).1
      have hi : b.irq = false := by rw [← e]; rfl
      exact ⟨-1, fun W => toIrqM_2 W b B hk hl hq, fun W => rToIrq_none W b B (Or.inr ⟨by omega, hi⟩)⟩
    · obtain ⟨hl, hq⟩ := valid_k (validB_3 hk) hv
      have e : nL 3 b = b := sameB_eq (Bool.and_eq_true_iff.1 hq).1
      have hi : b.irq = false := by rw [← e]; rfl
      exact ⟨-1, fun W => toIrqM_3 W b B hk hl hq, fun W => rToIrq_none W b B (Or.inr ⟨by omega, hi⟩)⟩
    · obtain ⟨hl, hq⟩ := valid_k (validB_4 hk) hv
      exact ⟨irqV b, fun W => toIrqM_4 W b B hk hl hq, fun W => rToIrq_4 W b B hk hv⟩
    · obtain ⟨hl, hq⟩ := valid_k (validB_7 hk) hv
      have e : nL 7 b = b := sameB_eq (Bool.and_eq_true_iff.1 hq).1
      have hi : b.irq = false := by rw [← e]; rfl
      exact ⟨-1, fun W => toIrqM_7 W b B hk hl hq, fun W => rToIrq_none W b B (Or.inr ⟨by omega, hi⟩)⟩
theorem Try.runEql (w : World) (ρ : Operand → Value) (dst : Option Tmp) (ty : TypeId) (pos : String) (after : Array Edge) (guard : Option (Nat × Bool)) (z : TypeId) (x y : Operand) (b d : Bd) (hb : b.r.length = 8) (hd : d.r.length = 8) (hx : ρ x = .agg b.cells) (hy : ρ y = .agg d.cells) :
    (execOp ρ { dst, op := .binOp .eql 27 x y z, type := ty, pos, after, guard }).run Try.prog w = .ok (.value (.bool (decide (b = d)))) w := by
  rw [run_exec_binOp, hx, hy, run_eqGuard_agg w .eql 27 _ _ _ _ (by kernel_rfl), Result.andThen_ok, Try.eqlB w b d hb hd]
  rfl
end Go.Proofs.Ytpdpfobhbafmcaa
