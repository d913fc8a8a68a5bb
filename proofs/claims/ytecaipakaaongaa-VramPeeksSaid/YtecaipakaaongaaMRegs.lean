/-
  What registersFit and fits answer; conditions: the cells that they read hold the board's numbers.
-/
import Derived.Test.YtecaipakaaongaaMLeaf
namespace Go.Proofs.Ytecaipakaaongaa
open Go.RowKit Classical
/-- The block m goes on with the registers of an MMC1. -/
structure M1 (w : World) (m : Nat) (b : Bd) : Prop where
  c7 : w.cell? ⟨m, 7, none⟩ = some (.int .u8 b.shift)
  c8 : w.cell? ⟨m, 8, none⟩ = some (.int .u8 b.ctrl)
  c9 : w.cell? ⟨m, 9, none⟩ = some (.int .u8 b.chrA)
  c10 : w.cell? ⟨m, 10, none⟩ = some (.int .u8 b.chrB)
  c11 : w.cell? ⟨m, 11, none⟩ = some (.int .u8 b.prgR)
  c12 : w.cell? ⟨m, 12, none⟩ = some (.int .i64 b.last)
/-- The block m goes on with the registers of an MMC3. -/
structure M4 (w : World) (m : Nat) (b : Bd) : Prop where
  c7 : w.cell? ⟨m, 7, none⟩ = some (.int .u8 b.sel)
  r : ∀ i, i < 8 → w.cell? ⟨m, 8 + i, none⟩ = some (.int .u8 (b.r.getD i 0))
  c16 : w.cell? ⟨m, 16, none⟩ = some (.int .u8 b.turn)
  c17 : w.cell? ⟨m, 17, none⟩ = some (.int .u8 b.guard)
  c18 : w.cell? ⟨m, 18, none⟩ = some (.int .u8 b.iLatch)
  c19 : w.cell? ⟨m, 19, none⟩ = some (.int .u8 b.iCount)
  c20 : w.cell? ⟨m, 20, none⟩ = some (.bool b.iLoad)
  c21 : w.cell? ⟨m, 21, none⟩ = some (.bool b.iOn)
  c22 : w.cell? ⟨m, 22, none⟩ = some (.bool b.irq)
theorem regs0_any (w : World) (m : Nat) :
    Calls Try.prog 93 #[.pointer (some ⟨m, 0, none⟩)] w fun e w' => e = .returned (.bool true) ∧ w' = w := by
  go_enter Try.func93, Try.ntmps93
  go_wp2
  go_ret
  exact ⟨rfl, rfl⟩
def fitsV (b : Bd) : Bool := (!b.iLoad || b.iCount == 0) && (!b.irq || b.iOn)
set_option maxRecDepth 100000 in
theorem fits_any (w : World) (m : Nat) (b : Bd) (M : M4 w m b) :
    Calls Try.prog 107 #[.pointer (some ⟨m, 18, none⟩)] w fun e w' => e = .returned (.bool (fitsV b)) ∧ w' = w := by
  obtain ⟨-, -, -, -, -, c19, c20, c21, c22⟩ := M
  unfold fitsV
  cases e1 : b.iLoad <;> cases e2 : (b.iCount == 0) <;> cases e3 : b.irq <;> cases e4 : b.iOn
  all_goals
    rw [e1] at c20
    rw [e3] at c22
    rw [e4] at c21
    clear e1 e3 e4
    go_enter Try.func107, Try.ntmps107
    go_wp2
    go_ret
    exact ⟨rfl, rfl⟩
def regs4 (b : Bd) : Bool := (bits .andNot .u8 b.sel 199 == 0) && (decide (b.turn ≤ 1) && ((bits .andNot .u8 b.guard 192 == 0) && fitsV b))
set_option maxRecDepth 100000 in
theorem regs4_any (w : World) (m : Nat) (b : Bd) (M : M4 w m b) :
    Calls Try.prog 103 #[.pointer (some ⟨m, 0, none⟩)] w fun e w' => e = .returned (.bool (regs4 b)) ∧ w' = w := by
  have c7 := M.c7
  have c16 := M.c16
  have c17 := M.c17
  have MH : Hid _ := M
  clear M
  cases e1 : (bits .andNot .u8 b.sel 199 == 0)
  · have H : Hid (regs4 b = false) := by unfold Hid; simp only [regs4, e1, Bool.false_and]
    go_enter Try.func103, Try.ntmps103
    go_wp2
    go_ret
    exact ⟨by rw [H.out]; rfl, rfl⟩
  cases e2 : decide (b.turn ≤ 1)
  · have H : Hid (regs4 b = false) := by unfold Hid; simp only [regs4, e1, e2, Bool.true_and, Bool.false_and]
    go_enter Try.func103, Try.ntmps103
    go_wp2
    go_ret
    exact ⟨by rw [H.out]; rfl, rfl⟩
  cases e3 : (bits .andNot .u8 b.guard 192 == 0)
  · have H : Hid (regs4 b = false) := by unfold Hid; simp only [regs4, e1, e2, e3, Bool.true_and, Bool.false_and]
    go_enter Try.func103, Try.ntmps103
    go_wp2
    go_ret
    exact ⟨by rw [H.out]; rfl, rfl⟩
  have H : Hid (regs4 b = fitsV b) := by unfold Hid; simp only [regs4, e1, e2, e3, Bool.true_and]
  go_enter Try.func103, Try.ntmps103
  go_wp2_with fail
  refine (fits_any w m b MH.out).mono ?_
  rintro e W ⟨rfl, rfl⟩
  go_wp2
  go_ret
  exact ⟨by rw [H.out]; rfl, rfl⟩
/-- The greatest of five. -/
def max5 (a b c d e : Int) : Int :=
  let x := if b > a then b else a
  let y := if c > x then c else x
  let z := if d > y then d else y
  if e > z then e else z
theorem run_max5 (P : Program) (ats : Array TypeId) (ty : TypeId) (a b c d e : Int) (w : World) :
    (Builtin.max_ ats ty #[.int .u8 a, .int .u8 b, .int .u8 c, .int .u8 d, .int .u8 e]).run P w = .ok (.int .u8 (max5 a b c d e)) w := by
  unfold Builtin.max_ max5
  simp only [List.foldlM_cons, List.foldlM_nil, Builtin.max2, Sem.run_bind, Sem.run_pure, Result.andThen_ok, gt_iff_lt]
def regs1 (b : Bd) : Bool := decide (0 < b.shift) && (decide (max5 b.shift b.ctrl b.chrA b.chrB b.prgR ≤ 31) && (b.last == -2 || decide (0 ≤ b.last)))
set_option maxRecDepth 100000 in
set_option maxHeartbeats 1000000 in
theorem regs1_any (w : World) (m : Nat) (b : Bd) (M : M1 w m b) :
    Calls Try.prog 82 #[.pointer (some ⟨m, 0, none⟩)] w fun e w' => e = .returned (.bool (regs1 b)) ∧ ∃ n, w' = w.drewN n := by
  obtain ⟨c7, c8, c9, c10, c11, c12⟩ := M
  have hmx := fun (ats : Array TypeId) (ty : TypeId) (w : World) => run_max5 Try.prog ats ty b.shift b.ctrl b.chrA b.chrB b.prgR w
  obtain ⟨mx, emx⟩ : ∃ mx, mx = max5 b.shift b.ctrl b.chrA b.chrB b.prgR := ⟨_, rfl⟩
  rw [← emx] at hmx
  have EM : Hid _ := emx
  clear emx
  cases e1 : decide (0 < b.shift)
  · have H : Hid (regs1 b = false) := by unfold Hid; simp only [regs1, e1, Bool.false_and]
    go_enter Try.func82, Try.ntmps82
    go_upto_region 1 with fail
    go_quiet (fail)
    go_wp2
    go_ret
    exact ⟨by rw [H.out]; rfl, _, rfl⟩
  cases e2 : decide (mx ≤ 31)
  · have H : Hid (regs1 b = false) := by unfold Hid; rw [EM.out] at e2; simp only [regs1, e1, e2, Bool.true_and, Bool.false_and]
    go_enter Try.func82, Try.ntmps82
    go_upto_region 1 with fail
    go_quiet (fail)
    go_wp2
    go_ret
    exact ⟨by rw [H.out]; rfl, _, rfl⟩
  cases e3 : (b.last == -2)
  · have H : Hid (regs1 b = decide (0 ≤ b.last)) := by unfold Hid; rw [EM.out] at e2; simp only [regs1, e1, e2, e3, Bool.true_and, Bool.false_or]
    go_enter Try.func82, Try.ntmps82
    go_upto_region 1 with fail
    go_quiet (fail)
    go_wp2
    go_ret
    exact ⟨by rw [H.out]; rfl, _, rfl⟩
  · have H : Hid (regs1 b = true) := by unfold Hid; rw [EM.out] at e2; simp only [regs1, e1, e2, e3, Bool.true_and, Bool.true_or]
    go_enter Try.func82, Try.ntmps82
    go_upto_region 1 with fail
    go_quiet (fail)
    go_wp2
    go_ret
    exact ⟨by rw [H.out]; rfl, _, rfl⟩
end Go.Proofs.Ytecaipakaaongaa
