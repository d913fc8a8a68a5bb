/-
  What windows answers; two answers of it held against each other; what a step does to Epoch.
-/
import Derived.Test.YtggphgmpdanliaaZOut
import Derived.Test.YtggphgmpdanliaaZLawB
import Derived.Test.YtggphgmpdanliaaYLook
import Derived.Test.YtggphgmpdanliaaYCel
set_option linter.unusedSimpArgs false
set_option linter.unusedVariables false
namespace Go.Proofs.Ytggphgmpdanliaa
open Go.RowKit Classical
theorem Try.info5 : (Try.prog.info? 53).map (·.size) = some 5 := by kernel_rfl
set_option maxRecDepth 100000 in
set_option maxHeartbeats 1000000 in
theorem windows_any (w : World) (b : Bd) (o : b.Ok) :
    Calls Try.prog 27 #[.agg b.cells] w fun e w' => e = .returned (.agg (viewC b)) ∧ Below w.heap.size w w' := by
  have HR : Hid _ := o.wf.rlen
  have B1 : Hid _ := fun (W : World) (x : Int) (h0 : 0 ≤ x) (h1 : x ≤ 3) => bank_in W b x h0 h1 o
  have R1 : Hid _ := fun (W : World) => ram_in W b o
  clear o
  go_enter Try.func27, Try.ntmps27
  go_upto_region 1 with fail
  have s0 : G w [(w.heap.size, b.cells, 28), (w.heap.size + 1, #[.int .i64 0, .int .i64 0, .int .i64 0, .int .i64 0, .int .i64 0], 53)] ((w.alloc (.cells b.cells 28)).alloc (.cells #[.int .i64 0, .int .i64 0, .int .i64 0, .int .i64 0, .int .i64 0] 53)) := G.start2 w _ _ _ _
  change Code.wp _ _ _ _ ((w.alloc (.cells b.cells 28)).alloc (.cells #[.int .i64 0, .int .i64 0, .int .i64 0, .int .i64 0, .int .i64 0] 53))
  generalize (w.alloc (.cells b.cells 28)).alloc (.cells #[.int .i64 0, .int .i64 0, .int .i64 0, .int .i64 0, .int .i64 0] 53) = W0 at *
  have ne1 : ∀ p ∈ ([(w.heap.size, b.cells, 28)] : List (Nat × Array Value × TypeId)), p.1 ≠ w.heap.size + 1 := by
    intro p hp
    simp only [List.mem_cons, List.not_mem_nil, or_false] at hp
    subst hp
    dsimp only
    omega
  replace s0 := s0.drew
  have s1 : (fun v => G w [(w.heap.size, b.cells, 28)] v ∧ ∃ q, Blk v (w.heap.size + 1) q 53 ∧ q.size = 5) W0.drew := ⟨s0.sub (by simp), _, s0.blk (w.heap.size + 1) #[.int .i64 0, .int .i64 0, .int .i64 0, .int .i64 0, .int .i64 0] 53 (by simp), rfl⟩
  clear s0
  refine wp_region_held (S := fun v => G w [(w.heap.size, b.cells, 28)] v ∧ ∃ q, Blk v (w.heap.size + 1) q 53 ∧ q.size = 5) (by kernel_rfl) ?_
  refine takeH (i := 0) (v := .agg (b).cells.toList.toArray) ⟨#[.agg b.cells, .pointer (some ⟨w.heap.size, 0, none⟩), .pointer (some ⟨w.heap.size + 1, 0, none⟩), .agg (b).cells, undef, undef, undef, undef, undef, undef, undef, undef, undef, undef], []⟩ rfl (by kernel_rfl) (by kernel_rfl) (by kernel_rfl) (fun _ _ _ h => h) (yieldsIf_load_mid (by kernel_rfl) 28 (.tmp 1) rfl (w.heap.size) 0 (by kernel_rfl) (b).cells.toList _ (fun v hv => Blk.range (hv.1.blk (w.heap.size) (b).cells 28 (by simp))) Try.underlying28 rfl (by rw [Array.length_toList]; exact infoB' b HR.out)) s1 (by kernel_rfl) ?_
  refine takeH (i := 2) (v := .agg (b).cells.toList.toArray) ⟨#[.agg b.cells, .pointer (some ⟨w.heap.size, 0, none⟩), .pointer (some ⟨w.heap.size + 1, 0, none⟩), .agg (b).cells, undef, .agg (b).cells, undef, undef, undef, undef, undef, undef, undef, undef], []⟩ rfl (by kernel_rfl) (by kernel_rfl) (by kernel_rfl) (fun _ _ _ h => h) (yieldsIf_load_mid (by kernel_rfl) 28 (.tmp 1) rfl (w.heap.size) 0 (by kernel_rfl) (b).cells.toList _ (fun v hv => Blk.range (hv.1.blk (w.heap.size) (b).cells 28 (by simp))) Try.underlying28 rfl (by rw [Array.length_toList]; exact infoB' b HR.out)) s1 (by kernel_rfl) ?_
  refine takeH (i := 4) (v := .agg (b).cells.toList.toArray) ⟨#[.agg b.cells, .pointer (some ⟨w.heap.size, 0, none⟩), .pointer (some ⟨w.heap.size + 1, 0, none⟩), .agg (b).cells, undef, .agg (b).cells, undef, .agg (b).cells, undef, undef, undef, undef, undef, undef], []⟩ rfl (by kernel_rfl) (by kernel_rfl) (by kernel_rfl) (fun _ _ _ h => h) (yieldsIf_load_mid (by kernel_rfl) 28 (.tmp 1) rfl (w.heap.size) 0 (by kernel_rfl) (b).cells.toList _ (fun v hv => Blk.range (hv.1.blk (w.heap.size) (b).cells 28 (by simp))) Try.underlying28 rfl (by rw [Array.length_toList]; exact infoB' b HR.out)) s1 (by kernel_rfl) ?_
  refine takeH (i := 6) (v := .agg (b).cells.toList.toArray) ⟨#[.agg b.cells, .pointer (some ⟨w.heap.size, 0, none⟩), .pointer (some ⟨w.heap.size + 1, 0, none⟩), .agg (b).cells, undef, .agg (b).cells, undef, .agg (b).cells, undef, .agg (b).cells, undef, undef, undef, undef], []⟩ rfl (by kernel_rfl) (by kernel_rfl) (by kernel_rfl) (fun _ _ _ h => h) (yieldsIf_load_mid (by kernel_rfl) 28 (.tmp 1) rfl (w.heap.size) 0 (by kernel_rfl) (b).cells.toList _ (fun v hv => Blk.range (hv.1.blk (w.heap.size) (b).cells 28 (by simp))) Try.underlying28 rfl (by rw [Array.length_toList]; exact infoB' b HR.out)) s1 (by kernel_rfl) ?_
  refine takeH (i := 8) (v := .agg (b).cells.toList.toArray) ⟨#[.agg b.cells, .pointer (some ⟨w.heap.size, 0, none⟩), .pointer (some ⟨w.heap.size + 1, 0, none⟩), .agg (b).cells, undef, .agg (b).cells, undef, .agg (b).cells, undef, .agg (b).cells, undef, .agg (b).cells, undef, undef], []⟩ rfl (by kernel_rfl) (by kernel_rfl) (by kernel_rfl) (fun _ _ _ h => h) (yieldsIf_load_mid (by kernel_rfl) 28 (.tmp 1) rfl (w.heap.size) 0 (by kernel_rfl) (b).cells.toList _ (fun v hv => Blk.range (hv.1.blk (w.heap.size) (b).cells 28 (by simp))) Try.underlying28 rfl (by rw [Array.length_toList]; exact infoB' b HR.out)) s1 (by kernel_rfl) ?_
  refine wpAnyH_all (rs := [1]) (by kernel_rfl) (by simp) ?_
  intro i hi
  obtain rfl : i = 1 := by simpa using hi
  refine wpOp_contract (f := 20) rfl (by kernel_rfl) (by kernel_rfl) (B1.out _ 0 (by decide) (by decide)) ⟨#[.agg b.cells, .pointer (some ⟨w.heap.size, 0, none⟩), .pointer (some ⟨w.heap.size + 1, 0, none⟩), .agg (b).cells, .int .i64 (bankB b 0), .agg (b).cells, undef, .agg (b).cells, undef, .agg (b).cells, undef, .agg (b).cells, undef, undef], []⟩ (by kernel_rfl) ?_
  intro Wq1 hbq1
  have sq1 : (fun v => G w [(w.heap.size, b.cells, 28)] v ∧ ∃ q, Blk v (w.heap.size + 1) q 53 ∧ q.size = 5) Wq1 := ⟨s1.1.on hbq1, s1.2.elim fun q h => ⟨q, h.1.below h.1.lt hbq1, h.2⟩⟩
  clear hi hbq1
  refine ⟨sq1, ?_⟩
  refine wpAnyH_all (rs := [3]) (by kernel_rfl) (by simp) ?_
  intro i hi
  obtain rfl : i = 3 := by simpa using hi
  refine wpOp_contract (f := 20) rfl (by kernel_rfl) (by kernel_rfl) (B1.out _ 1 (by decide) (by decide)) ⟨#[.agg b.cells, .pointer (some ⟨w.heap.size, 0, none⟩), .pointer (some ⟨w.heap.size + 1, 0, none⟩), .agg (b).cells, .int .i64 (bankB b 0), .agg (b).cells, .int .i64 (bankB b 1), .agg (b).cells, undef, .agg (b).cells, undef, .agg (b).cells, undef, undef], []⟩ (by kernel_rfl) ?_
  intro Wq2 hbq2
  have sq2 : (fun v => G w [(w.heap.size, b.cells, 28)] v ∧ ∃ q, Blk v (w.heap.size + 1) q 53 ∧ q.size = 5) Wq2 := ⟨sq1.1.on hbq2, sq1.2.elim fun q h => ⟨q, h.1.below h.1.lt hbq2, h.2⟩⟩
  clear hi hbq2
  refine ⟨sq2, ?_⟩
  refine wpAnyH_all (rs := [5]) (by kernel_rfl) (by simp) ?_
  intro i hi
  obtain rfl : i = 5 := by simpa using hi
  refine wpOp_contract (f := 20) rfl (by kernel_rfl) (by kernel_rfl) (B1.out _ 2 (by decide) (by decide)) ⟨#[.agg b.cells, .pointer (some ⟨w.heap.size, 0, none⟩), .pointer (some ⟨w.heap.size + 1, 0, none⟩), .agg (b).cells, .int .i64 (bankB b 0), .agg (b).cells, .int .i64 (bankB b 1), .agg (b).cells, .int .i64 (bankB b 2), .agg (b).cells, undef, .agg (b).cells, undef, undef], []⟩ (by kernel_rfl) ?_
  intro Wq3 hbq3
  have sq3 : (fun v => G w [(w.heap.size, b.cells, 28)] v ∧ ∃ q, Blk v (w.heap.size + 1) q 53 ∧ q.size = 5) Wq3 := ⟨sq2.1.on hbq3, sq2.2.elim fun q h => ⟨q, h.1.below h.1.lt hbq3, h.2⟩⟩
  clear hi hbq3
  refine ⟨sq3, ?_⟩
  refine wpAnyH_all (rs := [7]) (by kernel_rfl) (by simp) ?_
  intro i hi
  obtain rfl : i = 7 := by simpa using hi
  refine wpOp_contract (f := 20) rfl (by kernel_rfl) (by kernel_rfl) (B1.out _ 3 (by decide) (by decide)) ⟨#[.agg b.cells, .pointer (some ⟨w.heap.size, 0, none⟩), .pointer (some ⟨w.heap.size + 1, 0, none⟩), .agg (b).cells, .int .i64 (bankB b 0), .agg (b).cells, .int .i64 (bankB b 1), .agg (b).cells, .int .i64 (bankB b 2), .agg (b).cells, .int .i64 (bankB b 3), .agg (b).cells, undef, undef], []⟩ (by kernel_rfl) ?_
  intro Wq4 hbq4
  have sq4 : (fun v => G w [(w.heap.size, b.cells, 28)] v ∧ ∃ q, Blk v (w.heap.size + 1) q 53 ∧ q.size = 5) Wq4 := ⟨sq3.1.on hbq4, sq3.2.elim fun q h => ⟨q, h.1.below h.1.lt hbq4, h.2⟩⟩
  clear hi hbq4
  refine ⟨sq4, ?_⟩
  refine wpAnyH_all (rs := [9]) (by kernel_rfl) (by simp) ?_
  intro i hi
  obtain rfl : i = 9 := by simpa using hi
  refine wpOp_contract (f := 46) rfl (by kernel_rfl) (by kernel_rfl) (R1.out _) ⟨#[.agg b.cells, .pointer (some ⟨w.heap.size, 0, none⟩), .pointer (some ⟨w.heap.size + 1, 0, none⟩), .agg (b).cells, .int .i64 (bankB b 0), .agg (b).cells, .int .i64 (bankB b 1), .agg (b).cells, .int .i64 (bankB b 2), .agg (b).cells, .int .i64 (bankB b 3), .agg (b).cells, .int .i64 (ramB b), undef], []⟩ (by kernel_rfl) ?_
  intro Wq5 hbq5
  have sq5 : (fun v => G w [(w.heap.size, b.cells, 28)] v ∧ ∃ q, Blk v (w.heap.size + 1) q 53 ∧ q.size = 5) Wq5 := ⟨sq4.1.on hbq5, sq4.2.elim fun q h => ⟨q, h.1.below h.1.lt hbq5, h.2⟩⟩
  clear hi hbq5
  refine ⟨sq5, ?_⟩
  refine takeH (i := 10) (v := .agg (viewC b)) ⟨#[.agg b.cells, .pointer (some ⟨w.heap.size, 0, none⟩), .pointer (some ⟨w.heap.size + 1, 0, none⟩), .agg (b).cells, .int .i64 (bankB b 0), .agg (b).cells, .int .i64 (bankB b 1), .agg (b).cells, .int .i64 (bankB b 2), .agg (b).cells, .int .i64 (bankB b 3), .agg (b).cells, .int .i64 (ramB b), .agg (viewC b)], []⟩ rfl (by kernel_rfl) (by kernel_rfl) (by kernel_rfl) (fun _ _ _ h => h) (.inl ⟨by kernel_rfl, fun _ _ => by kernel_rfl⟩) sq5 (by kernel_rfl) ?_
  refine wpAnyH_all (rs := [11]) (by kernel_rfl) (by simp) ?_
  intro i hi
  obtain rfl : i = 11 := by simpa using hi
  refine wpOp_store rfl (by kernel_rfl) 53 (.tmp 2) (.tmp 13) rfl (w.heap.size + 1) 0 (.agg (viewC b)) (viewC b) (by kernel_rfl) (by kernel_rfl) rfl (sq5.2.elim fun q h => by have e : (viewC b).size = q.size := h.2.symm; rw [e]; exact h.1.there _ rfl) (Try.info5) (by kernel_rfl) ⟨#[.agg b.cells, .pointer (some ⟨w.heap.size, 0, none⟩), .pointer (some ⟨w.heap.size + 1, 0, none⟩), .agg (b).cells, .int .i64 (bankB b 0), .agg (b).cells, .int .i64 (bankB b 1), .agg (b).cells, .int .i64 (bankB b 2), .agg (b).cells, .int .i64 (bankB b 3), .agg (b).cells, .int .i64 (ramB b), .agg (viewC b)], []⟩ (by kernel_rfl) ?_
  intro Wq6 eqW
  have sq6 : (fun v => Blk v (w.heap.size + 1) (viewC b) 53 ∧ G w [(w.heap.size, b.cells, 28)] v) Wq6 := by rw [eqW]; exact sq5.2.elim fun q h => ⟨h.1.setAll _ h.2.symm, ⟨fun p hp => (sq5.1.1 p hp).otherCells (ne1 p hp) _ _, setCells_below (Nat.le_succ _) _ _ _ _ sq5.1.2⟩⟩

  clear hi eqW
  have sq6w : (fun v => G w [(w.heap.size, b.cells, 28)] v ∧ ∃ q, Blk v (w.heap.size + 1) q 53 ∧ q.size = 5) Wq6 := ⟨sq6.2, viewC b, sq6.1, rfl⟩
  refine ⟨sq6w, ?_⟩
  refine wpAnyH_done (by kernel_rfl) ?_ _
  go_wp2
  exact ret_agg (m := w.heap.size + 1) (L := viewC b) Try.results27 (by rfl) sq6.1 Try.underlying53 rfl Try.info5 ⟨rfl, sq6.2.2⟩
theorem Try.eq5 (w : World) (d : Nat) (a0 a1 a2 a3 a4 c0 c1 c2 c3 c4 : Int) :
    (Op.equalIn (d + 2) 53 (.agg #[.int .i64 a0, .int .i64 a1, .int .i64 a2, .int .i64 a3, .int .i64 a4]) (.agg #[.int .i64 c0, .int .i64 c1, .int .i64 c2, .int .i64 c3, .int .i64 c4])).run Try.prog w
      = .ok ((a0 == c0) && ((a1 == c1) && ((a2 == c2) && ((a3 == c3) && ((a4 == c4) && true))))) w := by
  obtain ⟨i, hi⟩ : ∃ i, Try.prog.info? 3 = some i := by
    cases h : Try.prog.info? 3 with
    | none => exact absurd (by kernel_rfl : (Try.prog.info? 3).isSome = true) (by simp [h])
    | some i => exact ⟨i, rfl⟩
  rw [run_equalIn_array w (d + 1) _ _ Try.underlying53 hi]
  have hu := fun (a b : Int) => run_equalIn_int (P := Try.prog) w d 3 .i64 .i64 a b Try.underlying3
  have hc : Try.prog.cellsOf 3 = 1 := by kernel_rfl
  have hr : List.range 5 = [0, 1, 2, 3, 4] := rfl
  rw [hc, hr]
  iterate 5 refine eqItems_step w (by kernel_rfl) (by kernel_rfl) (hu _ _) ?_
  rfl
def alikeW (a b : Bd) : Bool := (bankB a 0 == bankB b 0) && ((bankB a 1 == bankB b 1) && ((bankB a 2 == bankB b 2) && ((bankB a 3 == bankB b 3) && ((ramB a == ramB b) && true))))
theorem alikeW_eq (a b : Bd) : alikeW a b = alikeB b a := by
  unfold alikeW alikeB
  rw [Bool.eq_iff_iff]
  simp only [Bool.and_eq_true, beq_iff_eq, and_true]
  constructor
  · rintro ⟨h0, h1, h2, h3, h4⟩
    exact ⟨h4.symm, h0.symm, h1.symm, h2.symm, h3.symm⟩
  · rintro ⟨h4, h0, h1, h2, h3⟩
    exact ⟨h0.symm, h1.symm, h2.symm, h3.symm, h4.symm⟩
set_option maxRecDepth 100000 in
theorem neqW (w : World) (a b : Bd) : (binOp .neq 53 (.agg (viewC a)) (.agg (viewC b))).run Try.prog w = .ok (.bool (!alikeB b a)) w := by
  have h := Try.eq5 w 9998 (bankB a 0) (bankB a 1) (bankB a 2) (bankB a 3) (ramB a) (bankB b 0) (bankB b 1) (bankB b 2) (bankB b 3) (ramB b)
  have h' : (Op.equalIn 10000 53 (.agg (viewC a)) (.agg (viewC b))).run Try.prog w = .ok (alikeW a b) w := h
  rw [run_neq_struct, h', alikeW_eq]
  rfl
set_option maxRecDepth 100000 in
theorem exec_neqW {ρ : Operand → Value} {o : Oper} {x y : Operand} {z : TypeId} {a b : Bd} {r : Bool} {w : World} (ho : o.op = .binOp .neq 53 x y z) (hx : ρ x = .agg (viewC a)) (hy : ρ y = .agg (viewC b)) (hr : (!alikeB b a) = r) : (execOp ρ o).run Try.prog w = .ok (.value (.bool r)) w := by
  obtain ⟨dst, o, ty, pos, after, guard⟩ := o
  simp only at ho
  subst ho
  have h := Try.eq5 w 9998 (bankB a 0) (bankB a 1) (bankB a 2) (bankB a 3) (ramB a) (bankB b 0) (bankB b 1) (bankB b 2) (bankB b 3) (ramB b)
  have h' : (Op.equalIn 10000 53 (.agg (viewC a)) (.agg (viewC b))).run Try.prog w = .ok (alikeW a b) w := h
  rw [run_exec_binOp, hx, hy, run_eqGuard_agg w .neq 53 _ _ _ _ (by kernel_rfl), Result.andThen_ok, run_neq_struct, h', alikeW_eq, ← hr]
  rfl
theorem wrK_epoch (b : Bd) (a v u c : Int) : (wrK b a v u c).epoch = b.epoch := by
  unfold wrK wr1 wr4 wrL pushB
  (repeat' split) <;> rfl
theorem alikeB_ep (b d : Bd) (e : Int) : alikeB b { d with epoch := e } = alikeB b d := rfl
theorem wrB_epoch (b : Bd) (a v u c : Int) (h : b.epoch < 4611686018427387904) : (wrB b a v u c).epoch = b.epoch + (if alikeB b (wrB b a v u c) then 0 else 1) := by
  unfold wrB
  by_cases h1 : alikeB b (wrK b a v u c) = true
  · rw [if_pos h1, if_pos h1, wrK_epoch, Int.add_zero]
  · rw [if_neg h1, alikeB_ep, if_neg h1]
    show upB b.epoch = _
    unfold upB
    rw [if_pos h]
theorem doneB_epoch {b : Bd} (o : b.Ok) (s : Sp) (h : b.epoch < 4611686018427387904) : (doneB b s).epoch = b.epoch + (if alikeB b (doneB b s) then 0 else 1) := by
  unfold doneB
  split
  · unfold wrA
    split
    · exact wrB_epoch b _ _ _ _ h
    · rw [alikeB_refl, if_pos rfl, Int.add_zero]
  · unfold clockA
    split
    · have e1 : (clkB b s.n (b.sub == 4)).epoch = b.epoch := by unfold clkB; (repeat' split) <;> rfl
      have e2 : alikeB b (clkB b s.n (b.sub == 4)) = alikeB b b := by unfold clkB; (repeat' split) <;> rfl
      rw [e1, e2, alikeB_refl, if_pos rfl, Int.add_zero]
    · rw [alikeB_refl, if_pos rfl, Int.add_zero]
end Go.Proofs.Ytggphgmpdanliaa
