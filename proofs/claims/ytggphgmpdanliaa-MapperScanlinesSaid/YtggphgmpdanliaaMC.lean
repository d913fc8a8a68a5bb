/-
  What the scanline counter answers: toZero, toIrq; conditions: the cells hold the board's numbers, which fit their kinds.
  What n clocks at once do to the counter of an MMC3; conditions: the block holds the kind's cells, the numbers fit their kinds, n is above 0.
  What clock of an MMC3 does; conditions: the block holds the kind's cells, the numbers fit their kinds, n is above 0.
-/
import Derived.Test.YtggphgmpdanliaaMRegs
import Derived.Test.YtggphgmpdanliaaMKindOf
import Derived.Test.YtggphgmpdanliaaMOpen
namespace Go.Proofs.Ytggphgmpdanliaa
open Go.RowKit Classical
/-- How many clocks away the next 0 is that counts. -/
def zeroV (b : Bd) (older : Bool) : Int := if 0 < b.iCount then b.iCount else if older && (b.iLatch == 0 && !b.iLoad) then -1 else b.iLatch + 1
set_option maxRecDepth 100000 in
set_option maxHeartbeats 1000000 in
theorem toZero_any (w : World) (m : Nat) (b : Bd) (older : Bool) (hc : 0 ≤ b.iCount ∧ b.iCount ≤ 255) (hl : 0 ≤ b.iLatch ∧ b.iLatch ≤ 255) (c18 : w.cell? ⟨m, 18, none⟩ = some (.int .u8 b.iLatch)) (c19 : w.cell? ⟨m, 19, none⟩ = some (.int .u8 b.iCount)) (c20 : w.cell? ⟨m, 20, none⟩ = some (.bool b.iLoad)) :
    Calls Try.prog 120 #[.pointer (some ⟨m, 18, none⟩), .bool older] w fun e w' => e = .returned (.int .i64 (zeroV b older)) ∧ w' = w := by
  have wc : wrap64 b.iCount = b.iCount := IntWalk.wrap64_in _ ⟨by omega, by omega⟩
  have wl : wrap64 (b.iLatch + 1) = b.iLatch + 1 := IntWalk.wrap64_in _ ⟨by omega, by omega⟩
  have wl0 : wrap64 b.iLatch = b.iLatch := IntWalk.wrap64_in _ ⟨by omega, by omega⟩
  have HC : Hid _ := hc
  have HL : Hid _ := hl
  have WC : Hid _ := wc
  have WL : Hid _ := wl
  have WL0 : Hid _ := wl0
  clear wc wl wl0 hc hl
  cases e1 : decide (0 < b.iCount)
  · have n1 : ¬ 0 < b.iCount := of_decide_eq_false e1
    cases older
    · have H : Hid (zeroV b false = b.iLatch + 1) := by unfold Hid zeroV; rw [if_neg n1]; rfl
      clear n1
      go_enter Try.func120, Try.ntmps120
      go_wp2
      go_ret
      exact ⟨congrArg (fun x => Ending.returned (.int .i64 x)) ((congrArg (fun x => wrap64 (x + 1)) WL0.out).trans (WL.out.trans H.out.symm)), rfl⟩
    cases e2 : (b.iLatch == 0)
    · have H : Hid (zeroV b true = b.iLatch + 1) := by unfold Hid zeroV; rw [if_neg n1, e2]; rfl
      clear n1
      go_enter Try.func120, Try.ntmps120
      go_wp2
      go_ret
      exact ⟨congrArg (fun x => Ending.returned (.int .i64 x)) ((congrArg (fun x => wrap64 (x + 1)) WL0.out).trans (WL.out.trans H.out.symm)), rfl⟩
    cases e3 : b.iLoad
    · have H : Hid (zeroV b true = -1) := by unfold Hid zeroV; rw [if_neg n1, e2, e3]; rfl
      rw [e3] at c20
      clear n1 e3
      go_enter Try.func120, Try.ntmps120
      go_wp2
      go_ret
      exact ⟨congrArg (fun x => Ending.returned (.int .i64 x)) (H.out.symm), rfl⟩
    · have H : Hid (zeroV b true = b.iLatch + 1) := by unfold Hid zeroV; rw [if_neg n1, e2, e3]; rfl
      rw [e3] at c20
      clear n1 e3
      go_enter Try.func120, Try.ntmps120
      go_wp2
      go_ret
      exact ⟨congrArg (fun x => Ending.returned (.int .i64 x)) ((congrArg (fun x => wrap64 (x + 1)) WL0.out).trans (WL.out.trans H.out.symm)), rfl⟩
  · have n1 : 0 < b.iCount := of_decide_eq_true e1
    have H : Hid (zeroV b older = b.iCount) := by unfold Hid zeroV; rw [if_pos n1]
    clear n1
    go_enter Try.func120, Try.ntmps120
    go_wp2
    go_ret
    exact ⟨congrArg (fun x => Ending.returned (.int .i64 x)) (WC.out.trans H.out.symm), rfl⟩

/-- The number of clocks until the board asks. -/
def irqV (b : Bd) : Int := if b.irq then 0 else if !b.iOn then -1 else zeroV b (b.sub == 4)
theorem toIrq0_any (w : World) (m : Nat) :
    Calls Try.prog 91 #[.pointer (some ⟨m, 0, none⟩)] w fun e w' => e = .returned (.int .i64 (-1)) ∧ w' = w := by
  go_enter Try.func91, Try.ntmps91
  go_wp2
  go_ret
  exact ⟨rfl, rfl⟩
set_option maxRecDepth 100000 in
set_option maxHeartbeats 1000000 in
theorem toIrq4_any (w : World) (m : Nat) (b : Bd) (B : b.Wf) (S : Sh w m b) (M : M4 w m b) :
    Calls Try.prog 115 #[.pointer (some ⟨m, 0, none⟩)] w fun e w' => e = .returned (.int .i64 (irqV b)) ∧ ∃ k, w' = w.drewN k := by
  have c0 := S.c0
  have c21 := M.c21
  have c22 := M.c22
  have HZ : Hid _ := fun (v : World) (k : Nat) (hv : v = w.drewN k) => toZero_any v m b (b.sub == 4) B.iCount B.iLatch (by rw [hv]; exact M.c18) (by rw [hv]; exact M.c19) (by rw [hv]; exact M.c20)
  clear S M B
  cases e1 : b.irq
  · rw [e1] at c22
    cases e2 : b.iOn
    · rw [e2] at c21
      have H : Hid (irqV b = -1) := by unfold Hid irqV; rw [e1, e2]; rfl
      clear e1 e2
      go_enter Try.func115, Try.ntmps115
      go_wp2
      go_ret
      exact ⟨by rw [H.out]; rfl, 0, rfl⟩
    · rw [e2] at c21
      have H : Hid (irqV b = zeroV b (b.sub == 4)) := by unfold Hid irqV; rw [e1, e2]; rfl
      clear e1 e2
      go_enter Try.func115, Try.ntmps115
      go_upto_region 5 with fail
      go_quiet ((go_at_call 120; refine Calls.quiet_of_same (HZ.out _ _ rfl)))
      go_wp2
      go_ret
      exact ⟨by rw [H.out]; rfl, _, rfl⟩
  · rw [e1] at c22
    have H : Hid (irqV b = 0) := by unfold Hid irqV; rw [e1]; rfl
    clear e1
    go_enter Try.func115, Try.ntmps115
    go_wp2
    go_ret
    exact ⟨by rw [H.out]; rfl, 0, rfl⟩
end Go.Proofs.Ytggphgmpdanliaa
namespace Go.Proofs.Ytggphgmpdanliaa
open Go.RowKit Classical
def askV (b : Bd) (k n : Int) : Bool := b.iOn && (decide (0 < k) && decide (k ≤ n))
/-- The board behind n clocks. -/
def clkB (b : Bd) (n : Int) (older : Bool) : Bd :=
  { b with iLoad := false, irq := b.irq || askV b (zeroV b older) n, iCount := if n ≤ b.iCount then b.iCount - n else if 0 < (n - b.iCount).tmod (b.iLatch + 1) then b.iLatch + 1 - (n - b.iCount).tmod (b.iLatch + 1) else 0 }
theorem clock0_any (w : World) (m : Nat) (n : Int) :
    Calls Try.prog 84 #[.pointer (some ⟨m, 0, none⟩), .int .i64 n] w fun e w' => e = .returned (.tuple #[]) ∧ w' = w := by
  go_enter Try.func84, Try.ntmps84
  go_wp2
  go_end0
  exact ⟨rfl, rfl⟩
set_option maxRecDepth 100000 in
set_option maxHeartbeats 2000000 in
theorem cclock_any (w : World) (m : Nat) (b : Bd) (n : Int) (older : Bool) (B : b.Wf) (hn : 0 < n ∧ n ≤ 9223372036854775807) (K0 : Blk w m (k4c b) 111) :
    Calls Try.prog 118 #[.pointer (some ⟨m, 18, none⟩), .int .i64 n, .bool older] w fun e w' => e = .returned (.tuple #[]) ∧ Below m w w' ∧ Blk w' m (k4c (clkB b n older)) 111 := by
  obtain ⟨a0, a1, a2, a3, a4, a5, a6, a7, er⟩ := Bd.eight B.rlen
  have K : Blk w m #[.int .i64 b.sub, .int .u8 b.hard, .bool b.work, .bool b.chrRam, .int .i64 b.prg, .int .i64 b.chr, .int .i64 b.epoch, .int .u8 b.sel, .int .u8 a0, .int .u8 a1, .int .u8 a2, .int .u8 a3, .int .u8 a4, .int .u8 a5, .int .u8 a6, .int .u8 a7, .int .u8 b.turn, .int .u8 b.guard, .int .u8 b.iLatch, .int .u8 b.iCount, .bool b.iLoad, .bool b.iOn, .bool b.irq] 111 := by
    have K4 : k4c b = #[.int .i64 b.sub, .int .u8 b.hard, .bool b.work, .bool b.chrRam, .int .i64 b.prg, .int .i64 b.chr, .int .i64 b.epoch, .int .u8 b.sel, .int .u8 a0, .int .u8 a1, .int .u8 a2, .int .u8 a3, .int .u8 a4, .int .u8 a5, .int .u8 a6, .int .u8 a7, .int .u8 b.turn, .int .u8 b.guard, .int .u8 b.iLatch, .int .u8 b.iCount, .bool b.iLoad, .bool b.iOn, .bool b.irq] := by unfold k4c; rw [er]; rfl
    rw [K4] at K0; exact K0
  have c18 : w.cell? ⟨m, 18, none⟩ = some (.int .u8 b.iLatch) := (K.cell 18).trans rfl
  have c19 : w.cell? ⟨m, 19, none⟩ = some (.int .u8 b.iCount) := (K.cell 19).trans rfl
  have c20 : w.cell? ⟨m, 20, none⟩ = some (.bool b.iLoad) := (K.cell 20).trans rfl
  have c21 : w.cell? ⟨m, 21, none⟩ = some (.bool b.iOn) := (K.cell 21).trans rfl
  have c22 : w.cell? ⟨m, 22, none⟩ = some (.bool b.irq) := (K.cell 22).trans rfl
  have f19 := K.free 19
  have f20 := K.free 20
  have f22 := K.free 22
  have TZ : Hid _ := toZero_any w m b older B.iCount B.iLatch c18 c19 c20
  have hc := B.iCount
  have hl := B.iLatch
  have wc : wrap64 b.iCount = b.iCount := IntWalk.wrap64_in _ ⟨by omega, by omega⟩
  have wl : wrap64 b.iLatch = b.iLatch := IntWalk.wrap64_in _ ⟨by omega, by omega⟩
  have wl1 : wrap64 (b.iLatch + 1) = b.iLatch + 1 := IntWalk.wrap64_in _ ⟨by omega, by omega⟩
  have wn : wrap64 (n - b.iCount) = n - b.iCount := IntWalk.wrap64_in _ ⟨by omega, by omega⟩
  have l0 : ¬ b.iLatch + 1 = 0 := by omega
  obtain ⟨r, hr⟩ : ∃ r, (n - b.iCount).tmod (b.iLatch + 1) = r := ⟨_, rfl⟩
  have hrr : n ≤ b.iCount ∨ (0 ≤ r ∧ r < b.iLatch + 1) := by
    by_cases h : n ≤ b.iCount
    · exact .inl h
    · rw [← hr, Int.tmod_eq_emod_of_nonneg (by omega)]
      exact .inr ⟨Int.emod_nonneg _ (by omega), Int.emod_lt_of_pos _ (by omega)⟩
  have KH : Hid (Blk w m #[.int .i64 b.sub, .int .u8 b.hard, .bool b.work, .bool b.chrRam, .int .i64 b.prg, .int .i64 b.chr, .int .i64 b.epoch, .int .u8 b.sel, .int .u8 a0, .int .u8 a1, .int .u8 a2, .int .u8 a3, .int .u8 a4, .int .u8 a5, .int .u8 a6, .int .u8 a7, .int .u8 b.turn, .int .u8 b.guard, .int .u8 b.iLatch, .int .u8 b.iCount, .bool b.iLoad, .bool b.iOn, .bool b.irq] 111) := K
  have ER : Hid _ := er
  have NH : Hid _ := hn
  have HC : Hid _ := hc
  have HL : Hid _ := hl
  have RR : Hid _ := hrr
  have HR : Hid _ := hr
  clear K K0 B hn hc hl er hrr
  have CB : Hid (∀ (q : Bool) (c : Int), clkB b n older = { b with iLoad := false, irq := q, iCount := c } → k4c (clkB b n older) = (((#[.int .i64 b.sub, .int .u8 b.hard, .bool b.work, .bool b.chrRam, .int .i64 b.prg, .int .i64 b.chr, .int .i64 b.epoch, .int .u8 b.sel, .int .u8 a0, .int .u8 a1, .int .u8 a2, .int .u8 a3, .int .u8 a4, .int .u8 a5, .int .u8 a6, .int .u8 a7, .int .u8 b.turn, .int .u8 b.guard, .int .u8 b.iLatch, .int .u8 b.iCount, .bool b.iLoad, .bool b.iOn, .bool b.irq].setIfInBounds 20 (.bool false)).setIfInBounds 22 (.bool q)).setIfInBounds 19 (.int .u8 c))) := by
    intro q c h
    rw [h]; unfold k4c; simp only [ER.out]; rfl
  go_enter Try.func118, Try.ntmps118
  go_wp2_with fail
  refine Calls.mono TZ.out ?_
  rintro e W ⟨rfl, rfl⟩
  obtain ⟨k, hk⟩ : ∃ k, zeroV b older = k := ⟨_, rfl⟩
  have HK : Hid _ := hk
  rw [hk]
  clear TZ hk
  go_upto_region 1 with fail
  go_cut [24] (fun v wx => v = .bool (askV b k n) ∧ W = wx)
  case first =>
    cases e1 : b.iOn
    · rw [e1] at c21
      have H : Hid (askV b k n = false) := by unfold Hid askV; rw [e1]; rfl
      clear e1
      go_wp2
      go_meet
      exact ⟨by rw [H.out], rfl⟩
    rw [e1] at c21
    cases e2 : decide (0 < k)
    · have H : Hid (askV b k n = false) := by unfold Hid askV; rw [e1, e2]; rfl
      clear e1
      go_wp2
      go_meet
      exact ⟨by rw [H.out], rfl⟩
    have H : Hid (askV b k n = decide (k ≤ n)) := by unfold Hid askV; rw [e1, e2]; rfl
    clear e1
    go_wp2
    go_meet
    exact ⟨by rw [H.out], rfl⟩
  obtain ⟨rfl, rfl⟩ := hcut
  clear c21
  cases eA : askV b k n
  · have EA : Hid (askV b k n = false) := eA
    clear eA
    cases e4 : decide (n ≤ b.iCount)
    · have E4 : Hid (decide (n ≤ b.iCount) = false) := e4
      have hrr : 0 ≤ r ∧ r < b.iLatch + 1 := by have := of_decide_eq_false e4; have := RR.out; omega
      have wr : wrap64 (b.iLatch + 1 - r) = b.iLatch + 1 - r := IntWalk.wrap64_in _ ⟨by have := HL.out; omega, by have := HL.out; omega⟩
      cases e6 : decide (0 < r)
      · have E6 : Hid (decide (0 < r) = false) := e6
        clear hrr
        have EB : clkB b n older = { b with iLoad := false, irq := b.irq, iCount := 0 } := by unfold clkB; rw [HK.out, EA.out, if_neg (of_decide_eq_false E4.out), HR.out, if_neg (of_decide_eq_false E6.out)]; simp only [Bool.or_false]
        have EC := CB.out _ _ EB
        have HEC : Hid _ := EC
        clear EB EC
        go_wp2
        go_end0
        have zz : Blk _ m ((#[.int .i64 b.sub, .int .u8 b.hard, .bool b.work, .bool b.chrRam, .int .i64 b.prg, .int .i64 b.chr, .int .i64 b.epoch, .int .u8 b.sel, .int .u8 a0, .int .u8 a1, .int .u8 a2, .int .u8 a3, .int .u8 a4, .int .u8 a5, .int .u8 a6, .int .u8 a7, .int .u8 b.turn, .int .u8 b.guard, .int .u8 b.iLatch, .int .u8 b.iCount, .bool b.iLoad, .bool b.iOn, .bool b.irq].setIfInBounds 20 (.bool false)).setIfInBounds 19 (.int .u8 (0))) 111 := (Blk.set (Blk.set KH.out 20 (.bool false)) 19 (.int .u8 (0)))
        refine ⟨rfl, (((Below.refl m W).setCell (p := ⟨m, 20, none⟩) (Nat.le_refl _) (.bool false)).setCell (p := ⟨m, 19, none⟩) (Nat.le_refl _) (.int .u8 (0))), ?_⟩
        rw [HEC.out]
        exact zz
      · have E6 : Hid (decide (0 < r) = true) := e6
        have wm : (b.iLatch + 1 - r) % 256 = b.iLatch + 1 - r := Int.emod_eq_of_lt (by omega) (by have := of_decide_eq_true e6; have := HL.out; omega)
        clear hrr
        have EB : clkB b n older = { b with iLoad := false, irq := b.irq, iCount := b.iLatch + 1 - r } := by unfold clkB; rw [HK.out, EA.out, if_neg (of_decide_eq_false E4.out), HR.out, if_pos (of_decide_eq_true E6.out)]; simp only [Bool.or_false]
        have EC := CB.out _ _ EB
        have HEC : Hid _ := EC
        clear EB EC
        go_wp2
        go_end0
        have zz : Blk _ m ((#[.int .i64 b.sub, .int .u8 b.hard, .bool b.work, .bool b.chrRam, .int .i64 b.prg, .int .i64 b.chr, .int .i64 b.epoch, .int .u8 b.sel, .int .u8 a0, .int .u8 a1, .int .u8 a2, .int .u8 a3, .int .u8 a4, .int .u8 a5, .int .u8 a6, .int .u8 a7, .int .u8 b.turn, .int .u8 b.guard, .int .u8 b.iLatch, .int .u8 b.iCount, .bool b.iLoad, .bool b.iOn, .bool b.irq].setIfInBounds 20 (.bool false)).setIfInBounds 19 (.int .u8 (b.iLatch + 1 - r))) 111 := (Blk.set (Blk.set KH.out 20 (.bool false)) 19 (.int .u8 (b.iLatch + 1 - r)))
        refine ⟨rfl, (((Below.refl m W).setCell (p := ⟨m, 20, none⟩) (Nat.le_refl _) (.bool false)).setCell (p := ⟨m, 19, none⟩) (Nat.le_refl _) (.int .u8 (b.iLatch + 1 - r))), ?_⟩
        rw [HEC.out]
        exact zz
    · have E4 : Hid (decide (n ≤ b.iCount) = true) := e4
      have wm1 : n % 256 = n := Int.emod_eq_of_lt (by have := NH.out; omega) (by have := of_decide_eq_true e4; have := HC.out; omega)
      have wm2 : (b.iCount - n) % 256 = b.iCount - n := Int.emod_eq_of_lt (by have := of_decide_eq_true e4; omega) (by have := NH.out; have := HC.out; omega)
      have EB : clkB b n older = { b with iLoad := false, irq := b.irq, iCount := b.iCount - n } := by unfold clkB; rw [HK.out, EA.out, if_pos (of_decide_eq_true E4.out)]; simp only [Bool.or_false]
      have EC := CB.out _ _ EB
      have HEC : Hid _ := EC
      clear EB EC
      go_wp2
      refine bodyPost_ret (results_none rfl _ _ _) rfl ?_
      have zz : Blk _ m ((#[.int .i64 b.sub, .int .u8 b.hard, .bool b.work, .bool b.chrRam, .int .i64 b.prg, .int .i64 b.chr, .int .i64 b.epoch, .int .u8 b.sel, .int .u8 a0, .int .u8 a1, .int .u8 a2, .int .u8 a3, .int .u8 a4, .int .u8 a5, .int .u8 a6, .int .u8 a7, .int .u8 b.turn, .int .u8 b.guard, .int .u8 b.iLatch, .int .u8 b.iCount, .bool b.iLoad, .bool b.iOn, .bool b.irq].setIfInBounds 20 (.bool false)).setIfInBounds 19 (.int .u8 (b.iCount - n))) 111 := (Blk.set (Blk.set KH.out 20 (.bool false)) 19 (.int .u8 (b.iCount - n)))
      refine ⟨rfl, (((Below.refl m W).setCell (p := ⟨m, 20, none⟩) (Nat.le_refl _) (.bool false)).setCell (p := ⟨m, 19, none⟩) (Nat.le_refl _) (.int .u8 (b.iCount - n))), ?_⟩
      rw [HEC.out]
      exact zz
  · have EA : Hid (askV b k n = true) := eA
    clear eA
    cases e4 : decide (n ≤ b.iCount)
    · have E4 : Hid (decide (n ≤ b.iCount) = false) := e4
      have hrr : 0 ≤ r ∧ r < b.iLatch + 1 := by have := of_decide_eq_false e4; have := RR.out; omega
      have wr : wrap64 (b.iLatch + 1 - r) = b.iLatch + 1 - r := IntWalk.wrap64_in _ ⟨by have := HL.out; omega, by have := HL.out; omega⟩
      cases e6 : decide (0 < r)
      · have E6 : Hid (decide (0 < r) = false) := e6
        clear hrr
        have EB : clkB b n older = { b with iLoad := false, irq := true, iCount := 0 } := by unfold clkB; rw [HK.out, EA.out, if_neg (of_decide_eq_false E4.out), HR.out, if_neg (of_decide_eq_false E6.out)]; simp only [Bool.or_true]
        have EC := CB.out _ _ EB
        have HEC : Hid _ := EC
        clear EB EC
        go_wp2
        go_end0
        have zz : Blk _ m (((#[.int .i64 b.sub, .int .u8 b.hard, .bool b.work, .bool b.chrRam, .int .i64 b.prg, .int .i64 b.chr, .int .i64 b.epoch, .int .u8 b.sel, .int .u8 a0, .int .u8 a1, .int .u8 a2, .int .u8 a3, .int .u8 a4, .int .u8 a5, .int .u8 a6, .int .u8 a7, .int .u8 b.turn, .int .u8 b.guard, .int .u8 b.iLatch, .int .u8 b.iCount, .bool b.iLoad, .bool b.iOn, .bool b.irq].setIfInBounds 22 (.bool true)).setIfInBounds 20 (.bool false)).setIfInBounds 19 (.int .u8 (0))) 111 := (Blk.set (Blk.set (Blk.set KH.out 22 (.bool true)) 20 (.bool false)) 19 (.int .u8 (0)))
        refine ⟨rfl, ((((Below.refl m W).setCell (p := ⟨m, 22, none⟩) (Nat.le_refl _) (.bool true)).setCell (p := ⟨m, 20, none⟩) (Nat.le_refl _) (.bool false)).setCell (p := ⟨m, 19, none⟩) (Nat.le_refl _) (.int .u8 (0))), ?_⟩
        rw [HEC.out]
        exact zz
      · have E6 : Hid (decide (0 < r) = true) := e6
        have wm : (b.iLatch + 1 - r) % 256 = b.iLatch + 1 - r := Int.emod_eq_of_lt (by omega) (by have := of_decide_eq_true e6; have := HL.out; omega)
        clear hrr
        have EB : clkB b n older = { b with iLoad := false, irq := true, iCount := b.iLatch + 1 - r } := by unfold clkB; rw [HK.out, EA.out, if_neg (of_decide_eq_false E4.out), HR.out, if_pos (of_decide_eq_true E6.out)]; simp only [Bool.or_true]
        have EC := CB.out _ _ EB
        have HEC : Hid _ := EC
        clear EB EC
        go_wp2
        go_end0
        have zz : Blk _ m (((#[.int .i64 b.sub, .int .u8 b.hard, .bool b.work, .bool b.chrRam, .int .i64 b.prg, .int .i64 b.chr, .int .i64 b.epoch, .int .u8 b.sel, .int .u8 a0, .int .u8 a1, .int .u8 a2, .int .u8 a3, .int .u8 a4, .int .u8 a5, .int .u8 a6, .int .u8 a7, .int .u8 b.turn, .int .u8 b.guard, .int .u8 b.iLatch, .int .u8 b.iCount, .bool b.iLoad, .bool b.iOn, .bool b.irq].setIfInBounds 22 (.bool true)).setIfInBounds 20 (.bool false)).setIfInBounds 19 (.int .u8 (b.iLatch + 1 - r))) 111 := (Blk.set (Blk.set (Blk.set KH.out 22 (.bool true)) 20 (.bool false)) 19 (.int .u8 (b.iLatch + 1 - r)))
        refine ⟨rfl, ((((Below.refl m W).setCell (p := ⟨m, 22, none⟩) (Nat.le_refl _) (.bool true)).setCell (p := ⟨m, 20, none⟩) (Nat.le_refl _) (.bool false)).setCell (p := ⟨m, 19, none⟩) (Nat.le_refl _) (.int .u8 (b.iLatch + 1 - r))), ?_⟩
        rw [HEC.out]
        exact zz
    · have E4 : Hid (decide (n ≤ b.iCount) = true) := e4
      have wm1 : n % 256 = n := Int.emod_eq_of_lt (by have := NH.out; omega) (by have := of_decide_eq_true e4; have := HC.out; omega)
      have wm2 : (b.iCount - n) % 256 = b.iCount - n := Int.emod_eq_of_lt (by have := of_decide_eq_true e4; omega) (by have := NH.out; have := HC.out; omega)
      have EB : clkB b n older = { b with iLoad := false, irq := true, iCount := b.iCount - n } := by unfold clkB; rw [HK.out, EA.out, if_pos (of_decide_eq_true E4.out)]; simp only [Bool.or_true]
      have EC := CB.out _ _ EB
      have HEC : Hid _ := EC
      clear EB EC
      go_wp2
      refine bodyPost_ret (results_none rfl _ _ _) rfl ?_
      have zz : Blk _ m (((#[.int .i64 b.sub, .int .u8 b.hard, .bool b.work, .bool b.chrRam, .int .i64 b.prg, .int .i64 b.chr, .int .i64 b.epoch, .int .u8 b.sel, .int .u8 a0, .int .u8 a1, .int .u8 a2, .int .u8 a3, .int .u8 a4, .int .u8 a5, .int .u8 a6, .int .u8 a7, .int .u8 b.turn, .int .u8 b.guard, .int .u8 b.iLatch, .int .u8 b.iCount, .bool b.iLoad, .bool b.iOn, .bool b.irq].setIfInBounds 22 (.bool true)).setIfInBounds 20 (.bool false)).setIfInBounds 19 (.int .u8 (b.iCount - n))) 111 := (Blk.set (Blk.set (Blk.set KH.out 22 (.bool true)) 20 (.bool false)) 19 (.int .u8 (b.iCount - n)))
      refine ⟨rfl, ((((Below.refl m W).setCell (p := ⟨m, 22, none⟩) (Nat.le_refl _) (.bool true)).setCell (p := ⟨m, 20, none⟩) (Nat.le_refl _) (.bool false)).setCell (p := ⟨m, 19, none⟩) (Nat.le_refl _) (.int .u8 (b.iCount - n))), ?_⟩
      rw [HEC.out]
      exact zz
end Go.Proofs.Ytggphgmpdanliaa
namespace Go.Proofs.Ytggphgmpdanliaa
open Go.RowKit Classical
theorem k4c_sub {w : World} {m : Nat} {b : Bd} (K : Blk w m (k4c b) 111) : w.cell? ⟨m, 0, none⟩ = some (.int .i64 b.sub) := (K.cell 0).trans rfl
set_option maxRecDepth 100000 in
theorem clock4_any (w : World) (m : Nat) (b : Bd) (n : Int) (B : b.Wf) (hn : 0 < n ∧ n ≤ 9223372036854775807) (K : Blk w m (k4c b) 111) :
    Calls Try.prog 111 #[.pointer (some ⟨m, 0, none⟩), .int .i64 n] w fun e w' => e = .returned (.tuple #[]) ∧ Below m w w' ∧ Blk w' m (k4c (clkB b n (b.sub == 4))) 111 := by
  have CC : Hid _ := cclock_any w.drew m b n (b.sub == 4) B hn K.drew
  have s0 : w.drew.cell? ⟨m, 0, none⟩ = some (.int .i64 b.sub) := k4c_sub K.drew
  clear B hn K
  go_enter Try.func111, Try.ntmps111
  go_upto_region 0 with fail
  refine wp_region_held (S := fun v => v.cell? ⟨m, 0, none⟩ = some (.int .i64 b.sub)) (by kernel_rfl) ?_
  refine takeH (i := 0) (v := .pointer (some ⟨m, 0, none⟩)) ⟨#[.pointer (some ⟨m, 0, none⟩), .int .i64 n, undef, undef, .pointer (some ⟨m, 0, none⟩), undef, undef, undef, undef, undef, undef, undef, undef, undef, undef], []⟩ rfl (by kernel_rfl) (by kernel_rfl) (by kernel_rfl) (fun _ _ _ h => h) (.inl ⟨by kernel_rfl, fun _ _ => by kernel_rfl⟩) s0 (by kernel_rfl) ?_
  refine takeH (i := 1) (v := .pointer (some ⟨m, 0, none⟩)) ⟨#[.pointer (some ⟨m, 0, none⟩), .int .i64 n, undef, undef, .pointer (some ⟨m, 0, none⟩), .pointer (some ⟨m, 0, none⟩), undef, undef, undef, undef, undef, undef, undef, undef, undef], []⟩ rfl (by kernel_rfl) (by kernel_rfl) (by kernel_rfl) (fun _ _ _ h => h) (.inl ⟨by kernel_rfl, fun _ _ => by kernel_rfl⟩) s0 (by kernel_rfl) ?_
  refine takeH (i := 2) (v := .pointer (some ⟨m, 18, none⟩)) ⟨#[.pointer (some ⟨m, 0, none⟩), .int .i64 n, undef, undef, .pointer (some ⟨m, 0, none⟩), .pointer (some ⟨m, 0, none⟩), .pointer (some ⟨m, 18, none⟩), undef, undef, undef, undef, undef, undef, undef, undef], []⟩ rfl (by kernel_rfl) (by kernel_rfl) (by kernel_rfl) (fun _ _ _ h => h) (.inl ⟨by kernel_rfl, fun _ _ => by kernel_rfl⟩) s0 (by kernel_rfl) ?_
  refine takeH (i := 3) (v := .int .i64 n) ⟨#[.pointer (some ⟨m, 0, none⟩), .int .i64 n, undef, undef, .pointer (some ⟨m, 0, none⟩), .pointer (some ⟨m, 0, none⟩), .pointer (some ⟨m, 18, none⟩), .int .i64 n, undef, undef, undef, undef, undef, undef, undef], []⟩ rfl (by kernel_rfl) (by kernel_rfl) (by kernel_rfl) (fun _ _ _ h => h) (.inl ⟨by kernel_rfl, fun _ _ => by kernel_rfl⟩) s0 (by kernel_rfl) ?_
  refine takeH (i := 4) (v := .pointer (some ⟨m, 0, none⟩)) ⟨#[.pointer (some ⟨m, 0, none⟩), .int .i64 n, undef, undef, .pointer (some ⟨m, 0, none⟩), .pointer (some ⟨m, 0, none⟩), .pointer (some ⟨m, 18, none⟩), .int .i64 n, .pointer (some ⟨m, 0, none⟩), undef, undef, undef, undef, undef, undef], []⟩ rfl (by kernel_rfl) (by kernel_rfl) (by kernel_rfl) (fun _ _ _ h => h) (.inl ⟨by kernel_rfl, fun _ _ => by kernel_rfl⟩) s0 (by kernel_rfl) ?_
  refine takeH (i := 5) (v := .pointer (some ⟨m, 0, none⟩)) ⟨#[.pointer (some ⟨m, 0, none⟩), .int .i64 n, undef, undef, .pointer (some ⟨m, 0, none⟩), .pointer (some ⟨m, 0, none⟩), .pointer (some ⟨m, 18, none⟩), .int .i64 n, .pointer (some ⟨m, 0, none⟩), .pointer (some ⟨m, 0, none⟩), undef, undef, undef, undef, undef], []⟩ rfl (by kernel_rfl) (by kernel_rfl) (by kernel_rfl) (fun _ _ _ h => h) (.inl ⟨by kernel_rfl, fun _ _ => by kernel_rfl⟩) s0 (by kernel_rfl) ?_
  refine takeH (i := 6) (v := .pointer (some ⟨m, 0, none⟩)) ⟨#[.pointer (some ⟨m, 0, none⟩), .int .i64 n, undef, undef, .pointer (some ⟨m, 0, none⟩), .pointer (some ⟨m, 0, none⟩), .pointer (some ⟨m, 18, none⟩), .int .i64 n, .pointer (some ⟨m, 0, none⟩), .pointer (some ⟨m, 0, none⟩), .pointer (some ⟨m, 0, none⟩), undef, undef, undef, undef], []⟩ rfl (by kernel_rfl) (by kernel_rfl) (by kernel_rfl) (fun _ _ _ h => h) (.inl ⟨by kernel_rfl, fun _ _ => by kernel_rfl⟩) s0 (by kernel_rfl) ?_
  refine takeH (i := 7) (v := .pointer (some ⟨m, 0, none⟩)) ⟨#[.pointer (some ⟨m, 0, none⟩), .int .i64 n, undef, undef, .pointer (some ⟨m, 0, none⟩), .pointer (some ⟨m, 0, none⟩), .pointer (some ⟨m, 18, none⟩), .int .i64 n, .pointer (some ⟨m, 0, none⟩), .pointer (some ⟨m, 0, none⟩), .pointer (some ⟨m, 0, none⟩), .pointer (some ⟨m, 0, none⟩), undef, undef, undef], []⟩ rfl (by kernel_rfl) (by kernel_rfl) (by kernel_rfl) (fun _ _ _ h => h) (.inl ⟨by kernel_rfl, fun _ _ => by kernel_rfl⟩) s0 (by kernel_rfl) ?_
  refine takeH (i := 8) (v := .int .i64 b.sub) ⟨#[.pointer (some ⟨m, 0, none⟩), .int .i64 n, undef, undef, .pointer (some ⟨m, 0, none⟩), .pointer (some ⟨m, 0, none⟩), .pointer (some ⟨m, 18, none⟩), .int .i64 n, .pointer (some ⟨m, 0, none⟩), .pointer (some ⟨m, 0, none⟩), .pointer (some ⟨m, 0, none⟩), .pointer (some ⟨m, 0, none⟩), .int .i64 b.sub, undef, undef], []⟩ rfl (by kernel_rfl) (by kernel_rfl) (by kernel_rfl) (fun _ _ _ h => h) (.inl ⟨by kernel_rfl, fun v hv => by have c : v.cell? ⟨m, 0, none⟩ = some (.int .i64 b.sub) := hv; go_simp⟩) s0 (by kernel_rfl) ?_
  refine takeH (i := 9) (v := .bool (b.sub == 4)) ⟨#[.pointer (some ⟨m, 0, none⟩), .int .i64 n, undef, undef, .pointer (some ⟨m, 0, none⟩), .pointer (some ⟨m, 0, none⟩), .pointer (some ⟨m, 18, none⟩), .int .i64 n, .pointer (some ⟨m, 0, none⟩), .pointer (some ⟨m, 0, none⟩), .pointer (some ⟨m, 0, none⟩), .pointer (some ⟨m, 0, none⟩), .int .i64 b.sub, .bool (b.sub == 4), undef], []⟩ rfl (by kernel_rfl) (by kernel_rfl) (by kernel_rfl) (fun _ _ _ h => h) (.inl ⟨by kernel_rfl, fun _ _ => by kernel_rfl⟩) s0 (by kernel_rfl) ?_
  refine wpAnyH_all (rs := [10]) (by kernel_rfl) (by simp) ?_
  intro i hi
  obtain rfl : i = 10 := by simpa using hi
  refine wpOp_contract (f := 118) rfl (by kernel_rfl) (by kernel_rfl) CC.out ⟨#[.pointer (some ⟨m, 0, none⟩), .int .i64 n, undef, undef, .pointer (some ⟨m, 0, none⟩), .pointer (some ⟨m, 0, none⟩), .pointer (some ⟨m, 18, none⟩), .int .i64 n, .pointer (some ⟨m, 0, none⟩), .pointer (some ⟨m, 0, none⟩), .pointer (some ⟨m, 0, none⟩), .pointer (some ⟨m, 0, none⟩), .int .i64 b.sub, .bool (b.sub == 4), .tuple #[]], []⟩ (by kernel_rfl) ?_
  rintro W1 ⟨hb, K1⟩
  refine ⟨(Blk.cell K1 0).trans rfl, ?_⟩
  refine wpAnyH_done (by kernel_rfl) ?_ _
  have KH : Hid (Blk W1 m (k4c (clkB b n (b.sub == 4))) 111) := K1
  clear K1 CC
  go_wp2
  go_end0
  exact ⟨rfl, ((Below.refl m w).drew).trans hb, KH.out⟩
end Go.Proofs.Ytggphgmpdanliaa
