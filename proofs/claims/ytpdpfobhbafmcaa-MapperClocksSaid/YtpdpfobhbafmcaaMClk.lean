/-
  What the scanline counter answers: toZero, toIrq; conditions: the cells hold the board's numbers, which fit their kinds.
-/
import Derived.Test.YtpdpfobhbafmcaaMRegs
namespace Go.Proofs.Ytpdpfobhbafmcaa
open Go.RowKit Classical
/-- How many clocks away the next 0 is that counts. -/
def zeroV (b : Bd) (older : Bool) : Int := if 0 < b.iCount then b.iCount else if older && (b.iLatch == 0 && !b.iLoad) then -1 else b.iLatch + 1
set_option maxRecDepth 100000 in
set_option maxHeartbeats 1000000 in
theorem toZero_any (w : World) (m : Nat) (b : Bd) (older : Bool) (hc : 0 ≤ b.iCount ∧ b.iCount ≤ 255) (hl : 0 ≤ b.iLatch ∧ b.iLatch ≤ 255) (c18 : w.cell? ⟨m, 18, none⟩ = some (.int .u8 b.iLatch)) (c19 : w.cell? ⟨m, 19, none⟩ = some (.int .u8 b.iCount)) (c20 : w.cell? ⟨m, 20, none⟩ = some (.bool b.iLoad)) :
    Calls Try.prog 74 #[.pointer (some ⟨m, 18, none⟩), .bool older] w fun e w' => e = .returned (.int .i64 (zeroV b older)) ∧ w' = w := by
  have wc : wrap64 b.iCount = b.iCount := IntWalk.wrap64_in _ ⟨by omega, by omega⟩
  have wl : wrap64 (b.iLatch + 1) = b.iLatch + 1 := IntWalk.wrap64_in _ ⟨by omega, by omega⟩
  have wl0 : wrap64 b.iLatch = b.iLatch := IntWalk.wrap64_in _ ⟨by omega, by omega⟩
  have HC : Hid _ := hc
  have HL : Hid _ := hl
  have WC : Hid _ := wc
  have WL : Hid _ := wl
  have WL0 : Hid _ := wl0
  clear wc wl wl0 hc hl
  cases e1 : decide (0 < b.iCount)
  · have n1 : ¬ 0 < b.iCount := of_decide_eq_false e1
    cases older
    · have H : Hid (zeroV b false = b.iLatch + 1) := by unfold Hid zeroV; rw [if_neg n1]; rfl
      clear n1
      go_enter Try.func74, Try.ntmps74
      go_wp2
      go_ret
      exact ⟨congrArg (fun x => Ending.returned (.int .i64 x)) ((congrArg (fun x => wrap64 (x + 1)) WL0.out).trans (WL.out.trans H.out.symm)), rfl⟩
    cases e2 : (b.iLatch == 0)
    · have H : Hid (zeroV b true = b.iLatch + 1) := by unfold Hid zeroV; rw [if_neg n1, e2]; rfl
      clear n1
      go_enter Try.func74, Try.ntmps74
      go_wp2
      go_ret
      exact ⟨congrArg (fun x => Ending.returned (.int .i64 x)) ((congrArg (fun x => wrap64 (x + 1)) WL0.out).trans (WL.out.trans H.out.symm)), rfl⟩
    cases e3 : b.iLoad
    · have H : Hid (zeroV b true = -1) := by unfold Hid zeroV; rw [if_neg n1, e2, e3]; rfl
      rw [e3] at c20
      clear n1 e3
      go_enter Try.func74, Try.ntmps74
      go_wp2
      go_ret
      exact ⟨congrArg (fun x => Ending.returned (.int .i64 x)) (H.out.symm), rfl⟩
    · have H : Hid (zeroV b true = b.iLatch + 1) := by unfold Hid zeroV; rw [if_neg n1, e2, e3]; rfl
      rw [e3] at c20
      clear n1 e3
      go_enter Try.func74, Try.ntmps74
      go_wp2
      go_ret
      exact ⟨congrArg (fun x => Ending.returned (.int .i64 x)) ((congrArg (fun x => wrap64 (x + 1)) WL0.out).trans (WL.out.trans H.out.symm)), rfl⟩
  · have n1 : 0 < b.iCount := of_decide_eq_true e1
    have H : Hid (zeroV b older = b.iCount) := by unfold Hid zeroV; rw [if_pos n1]
    clear n1
    go_enter Try.func74, Try.ntmps74
    go_wp2
    go_ret
    exact ⟨congrArg (fun x => Ending.returned (.int .i64 x)) (WC.out.trans H.out.symm), rfl⟩

/-- The number of clocks until the board asks. -/
def irqV (b : Bd) : Int := if b.irq then 0 else if !b.iOn then -1 else zeroV b (b.sub == 4)
theorem toIrq0_any (w : World) (m : Nat) :
    Calls Try.prog 51 #[.pointer (some ⟨m, 0, none⟩)] w fun e w' => e = .returned (.int .i64 (-1)) ∧ w' = w := by
  go_enter Try.func51, Try.ntmps51
  go_wp2
  go_ret
  exact ⟨rfl, rfl⟩
set_option maxRecDepth 100000 in
set_option maxHeartbeats 1000000 in
theorem toIrq4_any (w : World) (m : Nat) (b : Bd) (B : b.Wf) (S : Sh w m b) (M : M4 w m b) :
    Calls Try.prog 69 #[.pointer (some ⟨m, 0, none⟩)] w fun e w' => e = .returned (.int .i64 (irqV b)) ∧ ∃ k, w' = w.drewN k := by
  have c0 := S.c0
  have c21 := M.c21
  have c22 := M.c22
  have HZ : Hid _ := fun (v : World) (k : Nat) (hv : v = w.drewN k) => toZero_any v m b (b.sub == 4) B.iCount B.iLatch (by rw [hv]; exact M.c18) (by rw [hv]; exact M.c19) (by rw [hv]; exact M.c20)
  clear S M B
  cases e1 : b.irq
  · rw [e1] at c22
    cases e2 : b.iOn
    · rw [e2] at c21
      have H : Hid (irqV b = -1) := by unfold Hid irqV; rw [e1, e2]; rfl
      clear e1 e2
      go_enter Try.func69, Try.ntmps69
      go_wp2
      go_ret
      exact ⟨by rw [H.out]; rfl, 0, rfl⟩
    · rw [e2] at c21
      have H : Hid (irqV b = zeroV b (b.sub == 4)) := by unfold Hid irqV; rw [e1, e2]; rfl
      clear e1 e2
      go_enter Try.func69, Try.ntmps69
      go_upto_region 5 with fail
      go_quiet ((go_at_call 74; refine Calls.quiet_of_same (HZ.out _ _ rfl)))
      go_wp2
      go_ret
      exact ⟨by rw [H.out]; rfl, _, rfl⟩
  · rw [e1] at c22
    have H : Hid (irqV b = 0) := by unfold Hid irqV; rw [e1]; rfl
    clear e1
    go_enter Try.func69, Try.ntmps69
    go_wp2
    go_ret
    exact ⟨by rw [H.out]; rfl, 0, rfl⟩
end Go.Proofs.Ytpdpfobhbafmcaa
