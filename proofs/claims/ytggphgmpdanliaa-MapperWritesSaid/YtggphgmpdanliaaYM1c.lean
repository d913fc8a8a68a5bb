/-
  What mirror of an MMC1 answers; what nextEpoch does; conditions: the cells that they read hold the board's numbers.
-/
import Derived.Test.YtggphgmpdanliaaYLat
set_option linter.unusedSimpArgs false
set_option linter.unusedVariables false
namespace Go.Proofs.Ytggphgmpdanliaa
open Go.RowKit
set_option maxRecDepth 100000 in
set_option maxHeartbeats 1000000 in
theorem mirror1_any (w : World) (m : Nat) (b : Bd) (S : Sh w m b) (M : M1 w m b) (t0 : 0 ≤ b.ctrl) (t1 : b.ctrl ≤ 255) (hm : m < w.heap.size) (hk : b.kind = 1) :
    Calls Try.prog 98 #[.pointer (some ⟨m, 0, none⟩)] w fun e w' => e = .returned (.int .u8 (mirB b)) ∧ Below w.heap.size w w' := by
  have E : mirB b = wiredV b (if b.ctrl % 4 = 0 then 2 else if b.ctrl % 4 = 1 then 3 else if b.ctrl % 4 = 2 then 1 else 0) := by simp [mirB, hk, wiredV]
  rw [E]
  have e3 := and3 t0 t1
  have c8 := M.c8
  have md : b.ctrl % 4 = 0 ∨ b.ctrl % 4 = 1 ∨ b.ctrl % 4 = 2 ∨ b.ctrl % 4 = 3 := by omega
  obtain ⟨z, hz⟩ : ∃ z : Int, (if b.ctrl % 4 = 0 then (2 : Int) else if b.ctrl % 4 = 1 then 3 else if b.ctrl % 4 = 2 then 1 else 0) = z := ⟨_, rfl⟩
  rw [hz]
  have HZ : Hid _ := hz
  clear hk E M hz
  go_enter Try.func98, Try.ntmps98
  go_upto_region 2 with fail
  have z0 : Blk (w.alloc (.cells #[.int .u8 2, .int .u8 3, .int .u8 1, .int .u8 0] 133)) w.heap.size #[.int .u8 2, .int .u8 3, .int .u8 1, .int .u8 0] 133 := Blk.new w _ _
  have hb0 : Below w.heap.size w (w.alloc (.cells #[.int .u8 2, .int .u8 3, .int .u8 1, .int .u8 0] 133)) := (Below.refl _ _).alloc (Nat.le_refl _) _
  generalize w.alloc (.cells #[.int .u8 2, .int .u8 3, .int .u8 1, .int .u8 0] 133) = W0 at *
  have d8 := (hb0.cell (p := ⟨m, 8, none⟩) hm).trans c8
  have hc := fun i => hb0.cell (p := ⟨m, i, none⟩) hm
  have S0 : Sh W0 m b := ⟨(hc 0).trans S.c0, (hc 1).trans S.c1, (hc 2).trans S.c2, (hc 3).trans S.c3, (hc 4).trans S.c4, (hc 5).trans S.c5, (hc 6).trans S.c6⟩
  have y0 := z0.cell 0
  have y1 := z0.cell 1
  have y2 := z0.cell 2
  have y3 := z0.cell 3
  have HW : Hid _ := fun x => wired_if W0.drew m b x S0.drew
  clear S S0 hc c8 z0
  rcases md with md | md | md | md
  · obtain rfl : z = 2 := by rw [← HZ.out, md]; rfl
    rw [md] at e3
    clear HZ md
    go_still_tail 10, (by kernel_rfl)
    go_wp2_with fail
    refine (HW.out _).mono ?_
    rintro e W ⟨rfl, rfl⟩
    go_wp2
    go_ret
    exact ⟨rfl, hb0.drew⟩
  · obtain rfl : z = 3 := by rw [← HZ.out, md]; rfl
    rw [md] at e3
    clear HZ md
    go_still_tail 10, (by kernel_rfl)
    go_wp2_with fail
    refine (HW.out _).mono ?_
    rintro e W ⟨rfl, rfl⟩
    go_wp2
    go_ret
    exact ⟨rfl, hb0.drew⟩
  · obtain rfl : z = 1 := by rw [← HZ.out, md]; rfl
    rw [md] at e3
    clear HZ md
    go_still_tail 10, (by kernel_rfl)
    go_wp2_with fail
    refine (HW.out _).mono ?_
    rintro e W ⟨rfl, rfl⟩
    go_wp2
    go_ret
    exact ⟨rfl, hb0.drew⟩
  · obtain rfl : z = 0 := by rw [← HZ.out, md]; rfl
    rw [md] at e3
    clear HZ md
    go_still_tail 10, (by kernel_rfl)
    go_wp2_with fail
    refine (HW.out _).mono ?_
    rintro e W ⟨rfl, rfl⟩
    go_wp2
    go_ret
    exact ⟨rfl, hb0.drew⟩
theorem run_min2 (P : Program) (ats : Array TypeId) (ty : TypeId) (a b : Int) (w : World) :
    (Builtin.min_ ats ty #[.int .i64 a, .int .i64 b]).run P w = .ok (.int .i64 (if b < a then b else a)) w := by
  unfold Builtin.min_
  simp only [List.foldlM_cons, List.foldlM_nil, Builtin.min2, Sem.run_bind, Sem.run_pure, Result.andThen_ok, gt_iff_lt]
set_option maxRecDepth 100000 in
set_option maxHeartbeats 1000000 in
theorem nextEpoch_any (w : World) (m : Nat) (e : Int) (e0 : 0 ≤ e) (e1 : e ≤ 4611686018427387904) (c6 : w.cell? ⟨m, 6, none⟩ = some (.int .i64 e)) (f6 : w.frozen? ⟨m, 6, none⟩ = false) :
    Calls Try.prog 87 #[.pointer (some ⟨m, 0, none⟩)] w fun r w' => r = .returned (.tuple #[]) ∧ w' = w.setCell ⟨m, 6, none⟩ (.int .i64 (upB e)) := by
  have hm := fun (ats : Array TypeId) (ty : TypeId) (w : World) => run_min2 Try.prog ats ty (e + 1) 4611686018427387904 w
  have E : (if (4611686018427387904 : Int) < e + 1 then (4611686018427387904 : Int) else e + 1) = upB e := by unfold upB; split <;> split <;> omega
  rw [E] at hm
  generalize upB e = z at *
  clear E
  go_enter Try.func87, Try.ntmps87
  go_wp2
  go_end0
  exact ⟨rfl, rfl⟩
end Go.Proofs.Ytggphgmpdanliaa
