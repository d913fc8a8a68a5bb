/-
  Both Clock and both ToIrq of every board; the law MapperClocks returns true; conditions: the numbers fit their kinds.
-/
import Derived.Test.YtpdpfobhbafmcaaRClk3
import Derived.Test.YtpdpfobhbafmcaaMSame
namespace Go.Proofs.Ytpdpfobhbafmcaa
open Go.RowKit
theorem valid_k {b : Bd} {x y : Bool} (h : validB b = (x && y)) (hv : validB b = true) : x = true ∧ y = true := by
  rw [h] at hv
  exact Bool.and_eq_true_iff.1 hv
theorem n4_clkB (b : Bd) (n : Int) (o : Bool) (h : n4 b = b) : n4 (clkB b n o) = clkB b n o := by
  have e : n4 (clkB b n o) = { n4 b with iLoad := (clkB b n o).iLoad, irq := (clkB b n o).irq, iCount := (clkB b n o).iCount } := rfl
  rw [e, h]
  rfl
theorem clock_both (b : Bd) (n : Int) (B : b.Wf) (hn : n ≤ 9223372036854775807) : ∃ d : Bd, d.r.length = 8 ∧
    (∀ W, Calls Try.prog 11 #[.agg b.cells, .int .i64 n] W fun e w' => e = .returned (.agg d.cells) ∧ Below W.heap.size W w') ∧
    (∀ W, Calls Try.prog 12 #[.agg b.cells, .int .i64 n] W fun e w' => e = .returned (.agg d.cells) ∧ Below W.heap.size W w') := by
  by_cases hz : validB b = false ∨ n ≤ 0
  · exact ⟨b, B.rlen, fun W => clockSame W b n B.rlen hz, fun W => rClock_same W b n B (hz.elim Or.inl fun h => Or.inr (Or.inr h))⟩
  · have hv : validB b = true := by
      cases h : validB b
      · exact absurd (Or.inl h) hz
      · rfl
    have hn1 : 0 < n ∧ n ≤ 9223372036854775807 := ⟨by omega, hn⟩
    have hl0 : lst b.kind b.sub = true := by unfold validB at hv; exact (Bool.and_eq_true_iff.1 hv).1
    rcases lst_kinds hl0 with hk | hk | hk | hk | hk | hk
    · obtain ⟨hl, hq⟩ := valid_k (validB_0 hk) hv
      have e : bare 0 b = b := of_decide_eq_true (Bool.and_eq_true_iff.1 hq).1
      refine ⟨b, B.rlen, fun W => ?_, fun W => rClock_same W b n B (Or.inr (Or.inl (by omega)))⟩
      have h := clockM_0 W b n B hn1 hk hl hq
      rw [e] at h
      exact h
    · obtain ⟨hl, hq⟩ := valid_k (validB_1 hk) hv
      have e : n1 b = b := of_decide_eq_true (Bool.and_eq_true_iff.1 hq).1
      refine ⟨b, B.rlen, fun W => ?_, fun W => rClock_same W b n B (Or.inr (Or.inl (by omega)))⟩
      have h := clockM_1 W b n B hn1 hk hl hq
      rw [e] at h
      exact h
    · obtain ⟨hl, hq⟩ := valid_k (validB_2 hk) hv
      have e : nL 2 b = b := of_decide_eq_true (Bool.and_eq_true_iff.1 hq).1
      refine ⟨b, B.rlen, fun W => ?_, fun W => rClock_same W b n B (Or.inr (Or.inl (by omega)))⟩
      have h := clockM_2 W b n B hn1 hk hl hq
      rw [e] at h
      exact h
    · obtain ⟨hl, hq⟩ := valid_k (validB_3 hk) hv
      have e : nL 3 b = b := of_decide_eq_true (Bool.and_eq_true_iff.1 hq).1
      refine ⟨b, B.rlen, fun W => ?_, fun W => rClock_same W b n B (Or.inr (Or.inl (by omega)))⟩
      have h := clockM_3 W b n B hn1 hk hl hq
      rw [e] at h
      exact h
    · obtain ⟨hl, hq⟩ := valid_k (validB_4 hk) hv
      have e : n4 b = b := of_decide_eq_true (Bool.and_eq_true_iff.1 hq).1
      refine ⟨clkB b n (b.sub == 4), B.rlen, fun W => ?_, fun W => rClock_4 W b n B hn1 hk hv⟩
      have h := clockM_4 W b n B hn1 hk hl hq
      rw [n4_clkB b n _ e] at h
      exact h
    · obtain ⟨hl, hq⟩ := valid_k (validB_7 hk) hv
      have e : nL 7 b = b := of_decide_eq_true (Bool.and_eq_true_iff.1 hq).1
      refine ⟨b, B.rlen, fun W => ?_, fun W => rClock_same W b n B (Or.inr (Or.inl (by omega)))⟩
      have h := clockM_7 W b n B hn1 hk hl hq
      rw [e] at h
      exact h
theorem toIrq_both (b : Bd) (B : b.Wf) : ∃ v : Int,
    (∀ W, Calls Try.prog 13 #[.agg b.cells] W fun e w' => e = .returned (.int .i64 v) ∧ Below W.heap.size W w') ∧
    (∀ W, Calls Try.prog 14 #[.agg b.cells] W fun e w' => e = .returned (.int .i64 v) ∧ Below W.heap.size W w') := by
  cases hv : validB b
  · exact ⟨-1, fun W => toIrqNone W b B.rlen hv, fun W => rToIrq_none W b B (Or.inl hv)⟩
  · have hl0 : lst b.kind b.sub = true := by unfold validB at hv; exact (Bool.and_eq_true_iff.1 hv).1
    rcases lst_kinds hl0 with hk | hk | hk | hk | hk | hk
    · obtain ⟨hl, hq⟩ := valid_k (validB_0 hk) hv
      have e : bare 0 b = b := of_decide_eq_true (Bool.and_eq_true_iff.1 hq).1
      have hi : b.irq = false := by rw [← e]; rfl
      exact ⟨-1, fun W => toIrqM_0 W b B hk hl hq, fun W => rToIrq_none W b B (Or.inr ⟨by omega, hi⟩)⟩
    · obtain ⟨hl, hq⟩ := valid_k (validB_1 hk) hv
      have e : n1 b = b := of_decide_eq_true (Bool.and_eq_true_iff.1 hq).1
      have hi : b.irq = false := by rw [← e]; rfl
      exact ⟨-1, fun W => toIrqM_1 W b B hk hl hq, fun W => rToIrq_none W b B (Or.inr ⟨by omega, hi⟩)⟩
    · obtain ⟨hl, hq⟩ := valid_k (validB_2 hk) hv
      have e : nL 2 b = b := of_decide_eq_true (Bool.and_eq_true_iff.1 hq).1
      have hi : b.irq = false := by rw [← e]; rfl
      exact ⟨-1, fun W => toIrqM_2 W b B hk hl hq, fun W => rToIrq_none W b B (Or.inr ⟨by omega, hi⟩)⟩
    · obtain ⟨hl, hq⟩ := valid_k (validB_3 hk) hv
      have e : nL 3 b = b := of_decide_eq_true (Bool.and_eq_true_iff.1 hq).1
      have hi : b.irq = false := by rw [← e]; rfl
      exact ⟨-1, fun W => toIrqM_3 W b B hk hl hq, fun W => rToIrq_none W b B (Or.inr ⟨by omega, hi⟩)⟩
    · obtain ⟨hl, hq⟩ := valid_k (validB_4 hk) hv
      exact ⟨irqV b, fun W => toIrqM_4 W b B hk hl hq, fun W => rToIrq_4 W b B hk hv⟩
    · obtain ⟨hl, hq⟩ := valid_k (validB_7 hk) hv
      have e : nL 7 b = b := of_decide_eq_true (Bool.and_eq_true_iff.1 hq).1
      have hi : b.irq = false := by rw [← e]; rfl
      exact ⟨-1, fun W => toIrqM_7 W b B hk hl hq, fun W => rToIrq_none W b B (Or.inr ⟨by omega, hi⟩)⟩
theorem Try.runEql (w : World) (ρ : Operand → Value) (dst : Option Tmp) (ty : TypeId) (pos : String) (after : Array Edge) (guard : Option (Nat × Bool)) (z : TypeId) (x y : Operand) (b d : Bd) (hb : b.r.length = 8) (hd : d.r.length = 8) (hx : ρ x = .agg b.cells) (hy : ρ y = .agg d.cells) :
    (execOp ρ { dst, op := .binOp .eql 27 x y z, type := ty, pos, after, guard }).run Try.prog w = .ok (.value (.bool (decide (b = d)))) w := by
  rw [run_exec_binOp, hx, hy, run_eqGuard_agg w .eql 27 _ _ _ _ (by kernel_rfl), Result.andThen_ok, Try.eqlB w b d hb hd]
  rfl
set_option maxRecDepth 100000 in
set_option maxHeartbeats 1000000 in
theorem clocks_law (w : World) (b : Bd) (n : Int) (B : b.Wf) (hn : n ≤ 9223372036854775807) :
    Calls Try.prog 5 #[.agg b.cells, .int .i64 n] w fun e w' => e = .returned (.bool true) ∧ Below w.heap.size w w' := by
  have C := isB b B.rlen
  obtain ⟨d, hd, K1, K2⟩ := clock_both b n B hn
  obtain ⟨v, I1, I2⟩ := toIrq_both b B
  generalize b.cells = cs at C K1 K2 I1 I2
  have hsz := C.size
  have HS : Hid _ := hsz
  have HK1 : Hid _ := K1
  have HK2 : Hid _ := K2
  have HI1 : Hid _ := I1
  have HI2 : Hid _ := I2
  clear K1 K2 I1 I2 B
  go_enter Try.func5, Try.ntmps5
  go_upto_region 1 with fail
  have b0 : Blk (w.alloc (.cells cs 27)) w.heap.size cs 27 := Blk.new w cs _
  have hb0 : Below w.heap.size w (w.alloc (.cells cs 27)) := (Below.refl _ _).alloc (Nat.le_refl _) _
  generalize w.alloc (.cells cs 27) = W0 at *
  clear C hsz
  refine wp_region_held (S := fun v => Blk v w.heap.size cs 27 ∧ Below w.heap.size w v) (by kernel_rfl) ?_
  have s0 : Blk W0.drew w.heap.size cs 27 ∧ Below w.heap.size w W0.drew := ⟨b0.drew, hb0.drew⟩
  have step : ∀ {v v' : World}, (Blk v w.heap.size cs 27 ∧ Below w.heap.size w v) → Below v.heap.size v v' → (Blk v' w.heap.size cs 27 ∧ Below w.heap.size w v') := fun h hb => ⟨h.1.below h.1.lt hb, h.2.trans (hb.mono (Nat.le_of_lt h.1.lt))⟩
  refine takeH (i := 0) (v := .agg cs.toList.toArray) ⟨#[.agg cs, .int .i64 n, .pointer (some ⟨w.heap.size, 0, none⟩), undef, .bool false, .agg cs, undef, undef, undef, undef, undef, undef, undef, undef, undef, undef, undef, undef, undef], []⟩ rfl (by kernel_rfl) (by kernel_rfl) (by kernel_rfl) (fun _ _ _ h => h) (yieldsIf_load_mid (by kernel_rfl) 27 (.tmp 2) rfl w.heap.size 0 (by kernel_rfl) cs.toList _ (fun v hv => Blk.range hv.1) Try.underlying27 rfl (by rw [Array.length_toList, HS.out]; exact Try.infoBoard)) s0 (by kernel_rfl) ?_
  refine takeH (i := 1) (v := .int .i64 n) ⟨#[.agg cs, .int .i64 n, .pointer (some ⟨w.heap.size, 0, none⟩), undef, .bool false, .agg cs, .int .i64 n, undef, undef, undef, undef, undef, undef, undef, undef, undef, undef, undef, undef], []⟩ rfl (by kernel_rfl) (by kernel_rfl) (by kernel_rfl) (fun _ _ _ h => h) (.inl ⟨by kernel_rfl, fun _ _ => by kernel_rfl⟩) s0 (by kernel_rfl) ?_
  refine takeH (i := 3) (v := .agg cs.toList.toArray) ⟨#[.agg cs, .int .i64 n, .pointer (some ⟨w.heap.size, 0, none⟩), undef, .bool false, .agg cs, .int .i64 n, undef, .agg cs, undef, undef, undef, undef, undef, undef, undef, undef, undef, undef], []⟩ rfl (by kernel_rfl) (by kernel_rfl) (by kernel_rfl) (fun _ _ _ h => h) (yieldsIf_load_mid (by kernel_rfl) 27 (.tmp 2) rfl w.heap.size 0 (by kernel_rfl) cs.toList _ (fun v hv => Blk.range hv.1) Try.underlying27 rfl (by rw [Array.length_toList, HS.out]; exact Try.infoBoard)) s0 (by kernel_rfl) ?_
  refine takeH (i := 4) (v := .int .i64 n) ⟨#[.agg cs, .int .i64 n, .pointer (some ⟨w.heap.size, 0, none⟩), undef, .bool false, .agg cs, .int .i64 n, undef, .agg cs, .int .i64 n, undef, undef, undef, undef, undef, undef, undef, undef, undef], []⟩ rfl (by kernel_rfl) (by kernel_rfl) (by kernel_rfl) (fun _ _ _ h => h) (.inl ⟨by kernel_rfl, fun _ _ => by kernel_rfl⟩) s0 (by kernel_rfl) ?_
  refine wpAnyH_all (rs := [2]) (by kernel_rfl) (by simp) ?_
  intro i hi
  obtain rfl : i = 2 := by simpa using hi
  refine wpOp_contract (f := 11) rfl (by kernel_rfl) (by kernel_rfl) (HK1.out W0.drew) ⟨#[.agg cs, .int .i64 n, .pointer (some ⟨w.heap.size, 0, none⟩), undef, .bool false, .agg cs, .int .i64 n, .agg d.cells, .agg cs, .int .i64 n, undef, undef, undef, undef, undef, undef, undef, undef, undef], []⟩ (by kernel_rfl) ?_
  intro W1 hb1
  have s1 := step s0 hb1
  refine ⟨s1, ?_⟩
  refine wpAnyH_all (rs := [5]) (by kernel_rfl) (by simp) ?_
  intro i hi
  obtain rfl : i = 5 := by simpa using hi
  refine wpOp_contract (f := 12) rfl (by kernel_rfl) (by kernel_rfl) (HK2.out W1) ⟨#[.agg cs, .int .i64 n, .pointer (some ⟨w.heap.size, 0, none⟩), undef, .bool false, .agg cs, .int .i64 n, .agg d.cells, .agg cs, .int .i64 n, .agg d.cells, undef, undef, undef, undef, undef, undef, undef, undef], []⟩ (by kernel_rfl) ?_
  intro W2 hb2
  have s2 := step s1 hb2
  refine ⟨s2, ?_⟩
  refine takeH (i := 6) (v := .bool true) ⟨#[.agg cs, .int .i64 n, .pointer (some ⟨w.heap.size, 0, none⟩), undef, .bool false, .agg cs, .int .i64 n, .agg d.cells, .agg cs, .int .i64 n, .agg d.cells, .bool true, undef, undef, undef, undef, undef, undef, undef], []⟩ rfl (by kernel_rfl) (by kernel_rfl) (by kernel_rfl) (fun _ _ _ h => h) (.inl ⟨by kernel_rfl, fun v _ => (Try.runEql v _ _ _ _ _ _ _ _ _ d d hd hd (by kernel_rfl) (by kernel_rfl)).trans (by rw [decide_eq_true rfl])⟩) s2 (by kernel_rfl) ?_
  refine takeH (i := 7) (v := .bool true) ⟨#[.agg cs, .int .i64 n, .pointer (some ⟨w.heap.size, 0, none⟩), undef, .bool false, .agg cs, .int .i64 n, .agg d.cells, .agg cs, .int .i64 n, .agg d.cells, .bool true, .bool true, undef, undef, undef, undef, undef, undef], []⟩ rfl (by kernel_rfl) (by kernel_rfl) (by kernel_rfl) (fun _ _ _ h => h) (.inl ⟨by kernel_rfl, fun _ _ => by kernel_rfl⟩) s2 (by kernel_rfl) ?_
  refine takeH (i := 8) (v := .agg cs.toList.toArray) ⟨#[.agg cs, .int .i64 n, .pointer (some ⟨w.heap.size, 0, none⟩), undef, .bool false, .agg cs, .int .i64 n, .agg d.cells, .agg cs, .int .i64 n, .agg d.cells, .bool true, .bool true, .agg cs, undef, undef, undef, undef, undef], []⟩ rfl (by kernel_rfl) (by kernel_rfl) (by kernel_rfl) (fun _ _ _ h => h) (yieldsIf_load_mid (by kernel_rfl) 27 (.tmp 2) rfl w.heap.size 0 (by kernel_rfl) cs.toList _ (fun v hv => Blk.range hv.1) Try.underlying27 rfl (by rw [Array.length_toList, HS.out]; exact Try.infoBoard)) s2 (by kernel_rfl) ?_
  refine takeH (i := 10) (v := .agg cs.toList.toArray) ⟨#[.agg cs, .int .i64 n, .pointer (some ⟨w.heap.size, 0, none⟩), undef, .bool false, .agg cs, .int .i64 n, .agg d.cells, .agg cs, .int .i64 n, .agg d.cells, .bool true, .bool true, .agg cs, undef, .agg cs, undef, undef, undef], []⟩ rfl (by kernel_rfl) (by kernel_rfl) (by kernel_rfl) (fun _ _ _ h => h) (yieldsIf_load_mid (by kernel_rfl) 27 (.tmp 2) rfl w.heap.size 0 (by kernel_rfl) cs.toList _ (fun v hv => Blk.range hv.1) Try.underlying27 rfl (by rw [Array.length_toList, HS.out]; exact Try.infoBoard)) s2 (by kernel_rfl) ?_
  refine wpAnyH_all (rs := [9]) (by kernel_rfl) (by simp) ?_
  intro i hi
  obtain rfl : i = 9 := by simpa using hi
  refine wpOp_contract (f := 13) rfl (by kernel_rfl) (by kernel_rfl) (HI1.out W2) ⟨#[.agg cs, .int .i64 n, .pointer (some ⟨w.heap.size, 0, none⟩), undef, .bool false, .agg cs, .int .i64 n, .agg d.cells, .agg cs, .int .i64 n, .agg d.cells, .bool true, .bool true, .agg cs, .int .i64 v, .agg cs, undef, undef, undef], []⟩ (by kernel_rfl) ?_
  intro W3 hb3
  have s3 := step s2 hb3
  refine ⟨s3, ?_⟩
  refine wpAnyH_all (rs := [11]) (by kernel_rfl) (by simp) ?_
  intro i hi
  obtain rfl : i = 11 := by simpa using hi
  refine wpOp_contract (f := 14) rfl (by kernel_rfl) (by kernel_rfl) (HI2.out W3) ⟨#[.agg cs, .int .i64 n, .pointer (some ⟨w.heap.size, 0, none⟩), undef, .bool false, .agg cs, .int .i64 n, .agg d.cells, .agg cs, .int .i64 n, .agg d.cells, .bool true, .bool true, .agg cs, .int .i64 v, .agg cs, .int .i64 v, undef, undef], []⟩ (by kernel_rfl) ?_
  intro W4 hb4
  have s4 := step s3 hb4
  refine ⟨s4, ?_⟩
  refine takeH (i := 12) (v := .bool (v == v)) ⟨#[.agg cs, .int .i64 n, .pointer (some ⟨w.heap.size, 0, none⟩), undef, .bool false, .agg cs, .int .i64 n, .agg d.cells, .agg cs, .int .i64 n, .agg d.cells, .bool true, .bool true, .agg cs, .int .i64 v, .agg cs, .int .i64 v, .bool (v == v), undef], []⟩ rfl (by kernel_rfl) (by kernel_rfl) (by kernel_rfl) (fun _ _ _ h => h) (.inl ⟨by kernel_rfl, fun _ _ => by kernel_rfl⟩) s4 (by kernel_rfl) ?_
  refine takeH (i := 13) (v := .bool (v == v)) ⟨#[.agg cs, .int .i64 n, .pointer (some ⟨w.heap.size, 0, none⟩), undef, .bool false, .agg cs, .int .i64 n, .agg d.cells, .agg cs, .int .i64 n, .agg d.cells, .bool true, .bool true, .agg cs, .int .i64 v, .agg cs, .int .i64 v, .bool (v == v), .bool (v == v)], []⟩ rfl (by kernel_rfl) (by kernel_rfl) (by kernel_rfl) (fun _ _ _ h => h) (.inl ⟨by kernel_rfl, fun _ _ => by kernel_rfl⟩) s4 (by kernel_rfl) ?_
  refine takeH (i := 14) (v := .bool (v == v)) ⟨#[.agg cs, .int .i64 n, .pointer (some ⟨w.heap.size, 0, none⟩), undef, .bool (v == v), .agg cs, .int .i64 n, .agg d.cells, .agg cs, .int .i64 n, .agg d.cells, .bool true, .bool true, .agg cs, .int .i64 v, .agg cs, .int .i64 v, .bool (v == v), .bool (v == v)], []⟩ rfl (by kernel_rfl) (by kernel_rfl) (by kernel_rfl) (fun _ _ _ h => h) (.inl ⟨by kernel_rfl, fun _ _ => by kernel_rfl⟩) s4 (by kernel_rfl) ?_
  refine wpAnyH_done (by kernel_rfl) ?_ _
  have EV : Hid ((v == v) = true) := beq_self_eq_true v
  go_wp2
  go_ret
  exact ⟨by first | rfl | exact congrArg (fun x => Ending.returned (.bool x)) EV.out, s4.2⟩
end Go.Proofs.Ytpdpfobhbafmcaa
