/-
  What n clocks at once do to the counter of an MMC3; conditions: the block holds the kind's cells, the numbers fit their kinds, n is above 0.
-/
import Derived.Test.YtpdpfobhbafmcaaMClk
import Derived.Test.YtpdpfobhbafmcaaMKindOf
namespace Go.Proofs.Ytpdpfobhbafmcaa
open Go.RowKit Classical
def askV (b : Bd) (k n : Int) : Bool := b.iOn && (decide (0 < k) && decide (k ≤ n))
/-- The board behind n clocks. -/
def clkB (b : Bd) (n : Int) (older : Bool) : Bd :=
  { b with iLoad := false, irq := b.irq || askV b (zeroV b older) n, iCount := if n ≤ b.iCount then b.iCount - n else if 0 < (n - b.iCount).tmod (b.iLatch + 1) then b.iLatch + 1 - (n - b.iCount).tmod (b.iLatch + 1) else 0 }
theorem clock0_any (w : World) (m : Nat) (n : Int) :
    Calls Try.prog 44 #[.pointer (some ⟨m, 0, none⟩), .int .i64 n] w fun e w' => e = .returned (.tuple #[]) ∧ w' = w := by
  go_enter Try.func44, Try.ntmps44
  go_wp2
  go_end0
  exact ⟨rfl, rfl⟩
set_option maxRecDepth 100000 in
set_option maxHeartbeats 2000000 in
theorem cclock_any (w : World) (m : Nat) (b : Bd) (n : Int) (older : Bool) (B : b.Wf) (hn : 0 < n ∧ n ≤ 9223372036854775807) (K0 : Blk w m (k4c b) 69) :
    Calls Try.prog 72 #[.pointer (some ⟨m, 18, none⟩), .int .i64 n, .bool older] w fun e w' => e = .returned (.tuple #[]) ∧ Below m w w' ∧ Blk w' m (k4c (clkB b n older)) 69 := by
  obtain ⟨a0, a1, a2, a3, a4, a5, a6, a7, er⟩ := Bd.eight B.rlen
  have K : Blk w m #[.int .i64 b.sub, .int .u8 b.hard, .bool b.work, .bool b.chrRam, .int .i64 b.prg, .int .i64 b.chr, .int .i64 b.epoch, .int .u8 b.sel, .int .u8 a0, .int .u8 a1, .int .u8 a2, .int .u8 a3, .int .u8 a4, .int .u8 a5, .int .u8 a6, .int .u8 a7, .int .u8 b.turn, .int .u8 b.guard, .int .u8 b.iLatch, .int .u8 b.iCount, .bool b.iLoad, .bool b.iOn, .bool b.irq] 69 := by
    have K4 : k4c b = #[.int .i64 b.sub, .int .u8 b.hard, .bool b.work, .bool b.chrRam, .int .i64 b.prg, .int .i64 b.chr, .int .i64 b.epoch, .int .u8 b.sel, .int .u8 a0, .int .u8 a1, .int .u8 a2, .int .u8 a3, .int .u8 a4, .int .u8 a5, .int .u8 a6, .int .u8 a7, .int .u8 b.turn, .int .u8 b.guard, .int .u8 b.iLatch, .int .u8 b.iCount, .bool b.iLoad, .bool b.iOn, .bool b.irq] := by unfold k4c; rw [er]; rfl
    rw [K4] at K0; exact K0
  have c18 : w.cell? ⟨m, 18, none⟩ = some (.int .u8 b.iLatch) := (K.cell 18).trans rfl
  have c19 : w.cell? ⟨m, 19, none⟩ = some (.int .u8 b.iCount) := (K.cell 19).trans rfl
  have c20 : w.cell? ⟨m, 20, none⟩ = some (.bool b.iLoad) := (K.cell 20).trans rfl
  have c21 : w.cell? ⟨m, 21, none⟩ = some (.bool b.iOn) := (K.cell 21).trans rfl
  have c22 : w.cell? ⟨m, 22, none⟩ = some (.bool b.irq) := (K.cell 22).trans rfl
  have f19 := K.free 19
  have f20 := K.free 20
  have f22 := K.free 22
  have TZ : Hid _ := toZero_any w m b older B.iCount B.iLatch c18 c19 c20
  have hc := B.iCount
  have hl := B.iLatch
  have wc : wrap64 b.iCount = b.iCount := IntWalk.wrap64_in _ ⟨by omega, by omega⟩
  have wl : wrap64 b.iLatch = b.iLatch := IntWalk.wrap64_in _ ⟨by omega, by omega⟩
  have wl1 : wrap64 (b.iLatch + 1) = b.iLatch + 1 := IntWalk.wrap64_in _ ⟨by omega, by omega⟩
  have wn : wrap64 (n - b.iCount) = n - b.iCount := IntWalk.wrap64_in _ ⟨by omega, by omega⟩
  have l0 : ¬ b.iLatch + 1 = 0 := by omega
  obtain ⟨r, hr⟩ : ∃ r, (n - b.iCount).tmod (b.iLatch + 1) = r := ⟨_, rfl⟩
  have hrr : n ≤ b.iCount ∨ (0 ≤ r ∧ r < b.iLatch + 1) := by
    by_cases h : n ≤ b.iCount
    · exact .inl h
    · rw [← hr, Int.tmod_eq_emod_of_nonneg (by omega)]
      exact .inr ⟨Int.emod_nonneg _ (by omega), Int.emod_lt_of_pos _ (by omega)⟩
  have KH : Hid (Blk w m #[.int .i64 b.sub, .int .u8 b.hard, .bool b.work, .bool b.chrRam, .int .i64 b.prg, .int .i64 b.chr, .int .i64 b.epoch, .int .u8 b.sel, .int .u8 a0, .int .u8 a1, .int .u8 a2, .int .u8 a3, .int .u8 a4, .int .u8 a5, .int .u8 a6, .int .u8 a7, .int .u8 b.turn, .int .u8 b.guard, .int .u8 b.iLatch, .int .u8 b.iCount, .bool b.iLoad, .bool b.iOn, .bool b.irq] 69) := K
  have ER : Hid _ := er
  have NH : Hid _ := hn
  have HC : Hid _ := hc
  have HL : Hid _ := hl
  have RR : Hid _ := hrr
  have HR : Hid _ := hr
  clear K K0 B hn hc hl er hrr
  have CB : Hid (∀ (q : Bool) (c : Int), clkB b n older = { b with iLoad := false, irq := q, iCount := c } → k4c (clkB b n older) = (((#[.int .i64 b.sub, .int .u8 b.hard, .bool b.work, .bool b.chrRam, .int .i64 b.prg, .int .i64 b.chr, .int .i64 b.epoch, .int .u8 b.sel, .int .u8 a0, .int .u8 a1, .int .u8 a2, .int .u8 a3, .int .u8 a4, .int .u8 a5, .int .u8 a6, .int .u8 a7, .int .u8 b.turn, .int .u8 b.guard, .int .u8 b.iLatch, .int .u8 b.iCount, .bool b.iLoad, .bool b.iOn, .bool b.irq].setIfInBounds 20 (.bool false)).setIfInBounds 22 (.bool q)).setIfInBounds 19 (.int .u8 c))) := by
    intro q c h
    rw [h]; unfold k4c; simp only [ER.out]; rfl
  go_enter Try.func72, Try.ntmps72
  go_wp2_with fail
  refine Calls.mono TZ.out ?_
  rintro e W ⟨rfl, rfl⟩
  obtain ⟨k, hk⟩ : ∃ k, zeroV b older = k := ⟨_, rfl⟩
  have HK : Hid _ := hk
  rw [hk]
  clear TZ hk
  go_upto_region 1 with fail
  go_cut [24] (fun v wx => v = .bool (askV b k n) ∧ W = wx)
  case first =>
    cases e1 : b.iOn
    · rw [e1] at c21
      have H : Hid (askV b k n = false) := by unfold Hid askV; rw [e1]; rfl
      clear e1
      go_wp2
      go_meet
      exact ⟨by rw [H.out], rfl⟩
    rw [e1] at c21
    cases e2 : decide (0 < k)
    · have H : Hid (askV b k n = false) := by unfold Hid askV; rw [e1, e2]; rfl
      clear e1
      go_wp2
      go_meet
      exact ⟨by rw [H.out], rfl⟩
    have H : Hid (askV b k n = decide (k ≤ n)) := by unfold Hid askV; rw [e1, e2]; rfl
    clear e1
    go_wp2
    go_meet
    exact ⟨by rw [H.out], rfl⟩
  obtain ⟨rfl, rfl⟩ := hcut
  clear c21
  cases eA : askV b k n
  · have EA : Hid (askV b k n = false) := eA
    clear eA
    cases e4 : decide (n ≤ b.iCount)
    · have E4 : Hid (decide (n ≤ b.iCount) = false) := e4
      have hrr : 0 ≤ r ∧ r < b.iLatch + 1 := by have := of_decide_eq_false e4; have := RR.out; omega
      have wr : wrap64 (b.iLatch + 1 - r) = b.iLatch + 1 - r := IntWalk.wrap64_in _ ⟨by have := HL.out; omega, by have := HL.out; omega⟩
      cases e6 : decide (0 < r)
      · have E6 : Hid (decide (0 < r) = false) := e6
        clear hrr
        have EB : clkB b n older = { b with iLoad := false, irq := b.irq, iCount := 0 } := by unfold clkB; rw [HK.out, EA.out, if_neg (of_decide_eq_false E4.out), HR.out, if_neg (of_decide_eq_false E6.out)]; simp only [Bool.or_false]
        have EC := CB.out _ _ EB
        have HEC : Hid _ := EC
        clear EB EC
        go_wp2
        go_end0
        have zz : Blk _ m ((#[.int .i64 b.sub, .int .u8 b.hard, .bool b.work, .bool b.chrRam, .int .i64 b.prg, .int .i64 b.chr, .int .i64 b.epoch, .int .u8 b.sel, .int .u8 a0, .int .u8 a1, .int .u8 a2, .int .u8 a3, .int .u8 a4, .int .u8 a5, .int .u8 a6, .int .u8 a7, .int .u8 b.turn, .int .u8 b.guard, .int .u8 b.iLatch, .int .u8 b.iCount, .bool b.iLoad, .bool b.iOn, .bool b.irq].setIfInBounds 20 (.bool false)).setIfInBounds 19 (.int .u8 (0))) 69 := (Blk.set (Blk.set KH.out 20 (.bool false)) 19 (.int .u8 (0)))
        refine ⟨rfl, (((Below.refl m W).setCell (p := ⟨m, 20, none⟩) (Nat.le_refl _) (.bool false)).setCell (p := ⟨m, 19, none⟩) (Nat.le_refl _) (.int .u8 (0))), ?_⟩
        rw [HEC.out]
        exact zz
      · have E6 : Hid (decide (0 < r) = true) := e6
        have wm : (b.iLatch + 1 - r) % 256 = b.iLatch + 1 - r := Int.emod_eq_of_lt (by omega) (by have := of_decide_eq_true e6; have := HL.out; omega)
        clear hrr
        have EB : clkB b n older = { b with iLoad := false, irq := b.irq, iCount := b.iLatch + 1 - r } := by unfold clkB; rw [HK.out, EA.out, if_neg (of_decide_eq_false E4.out), HR.out, if_pos (of_decide_eq_true E6.out)]; simp only [Bool.or_false]
        have EC := CB.out _ _ EB
        have HEC : Hid _ := EC
        clear EB EC
        go_wp2
        go_end0
        have zz : Blk _ m ((#[.int .i64 b.sub, .int .u8 b.hard, .bool b.work, .bool b.chrRam, .int .i64 b.prg, .int .i64 b.chr, .int .i64 b.epoch, .int .u8 b.sel, .int .u8 a0, .int .u8 a1, .int .u8 a2, .int .u8 a3, .int .u8 a4, .int .u8 a5, .int .u8 a6, .int .u8 a7, .int .u8 b.turn, .int .u8 b.guard, .int .u8 b.iLatch, .int .u8 b.iCount, .bool b.iLoad, .bool b.iOn, .bool b.irq].setIfInBounds 20 (.bool false)).setIfInBounds 19 (.int .u8 (b.iLatch + 1 - r))) 69 := (Blk.set (Blk.set KH.out 20 (.bool false)) 19 (.int .u8 (b.iLatch + 1 - r)))
        refine ⟨rfl, (((Below.refl m W).setCell (p := ⟨m, 20, none⟩) (Nat.le_refl _) (.bool false)).setCell (p := ⟨m, 19, none⟩) (Nat.le_refl _) (.int .u8 (b.iLatch + 1 - r))), ?_⟩
        rw [HEC.out]
        exact zz
    · have E4 : Hid (decide (n ≤ b.iCount) = true) := e4
      have wm1 : n % 256 = n := Int.emod_eq_of_lt (by have := NH.out; omega) (by have := of_decide_eq_true e4; have := HC.out; omega)
      have wm2 : (b.iCount - n) % 256 = b.iCount - n := Int.emod_eq_of_lt (by have := of_decide_eq_true e4; omega) (by have := NH.out; have := HC.out; omega)
      have EB : clkB b n older = { b with iLoad := false, irq := b.irq, iCount := b.iCount - n } := by unfold clkB; rw [HK.out, EA.out, if_pos (of_decide_eq_true E4.out)]; simp only [Bool.or_false]
      have EC := CB.out _ _ EB
      have HEC : Hid _ := EC
      clear EB EC
      go_wp2
      refine bodyPost_ret (results_none rfl _ _ _) rfl ?_
      have zz : Blk _ m ((#[.int .i64 b.sub, .int .u8 b.hard, .bool b.work, .bool b.chrRam, .int .i64 b.prg, .int .i64 b.chr, .int .i64 b.epoch, .int .u8 b.sel, .int .u8 a0, .int .u8 a1, .int .u8 a2, .int .u8 a3, .int .u8 a4, .int .u8 a5, .int .u8 a6, .int .u8 a7, .int .u8 b.turn, .int .u8 b.guard, .int .u8 b.iLatch, .int .u8 b.iCount, .bool b.iLoad, .bool b.iOn, .bool b.irq].setIfInBounds 20 (.bool false)).setIfInBounds 19 (.int .u8 (b.iCount - n))) 69 := (Blk.set (Blk.set KH.out 20 (.bool false)) 19 (.int .u8 (b.iCount - n)))
      refine ⟨rfl, (((Below.refl m W).setCell (p := ⟨m, 20, none⟩) (Nat.le_refl _) (.bool false)).setCell (p := ⟨m, 19, none⟩) (Nat.le_refl _) (.int .u8 (b.iCount - n))), ?_⟩
      rw [HEC.out]
      exact zz
  · have EA : Hid (askV b k n = true) := eA
    clear eA
    cases e4 : decide (n ≤ b.iCount)
    · have E4 : Hid (decide (n ≤ b.iCount) = false) := e4
      have hrr : 0 ≤ r ∧ r < b.iLatch + 1 := by have := of_decide_eq_false e4; have := RR.out; omega
      have wr : wrap64 (b.iLatch + 1 - r) = b.iLatch + 1 - r := IntWalk.wrap64_in _ ⟨by have := HL.out; omega, by have := HL.out; omega⟩
      cases e6 : decide (0 < r)
      · have E6 : Hid (decide (0 < r) = false) := e6
        clear hrr
        have EB : clkB b n older = { b with iLoad := false, irq := true, iCount := 0 } := by unfold clkB; rw [HK.out, EA.out, if_neg (of_decide_eq_false E4.out), HR.out, if_neg (of_decide_eq_false E6.out)]; simp only [Bool.or_true]
        have EC := CB.out _ _ EB
        have HEC : Hid _ := EC
        clear EB EC
        go_wp2
        go_end0
        have zz : Blk _ m (((#[.int .i64 b.sub, .int .u8 b.hard, .bool b.work, .bool b.chrRam, .int .i64 b.prg, .int .i64 b.chr, .int .i64 b.epoch, .int .u8 b.sel, .int .u8 a0, .int .u8 a1, .int .u8 a2, .int .u8 a3, .int .u8 a4, .int .u8 a5, .int .u8 a6, .int .u8 a7, .int .u8 b.turn, .int .u8 b.guard, .int .u8 b.iLatch, .int .u8 b.iCount, .bool b.iLoad, .bool b.iOn, .bool b.irq].setIfInBounds 22 (.bool true)).setIfInBounds 20 (.bool false)).setIfInBounds 19 (.int .u8 (0))) 69 := (Blk.set (Blk.set (Blk.set KH.out 22 (.bool true)) 20 (.bool false)) 19 (.int .u8 (0)))
        refine ⟨rfl, ((((Below.refl m W).setCell (p := ⟨m, 22, none⟩) (Nat.le_refl _) (.bool true)).setCell (p := ⟨m, 20, none⟩) (Nat.le_refl _) (.bool false)).setCell (p := ⟨m, 19, none⟩) (Nat.le_refl _) (.int .u8 (0))), ?_⟩
        rw [HEC.out]
        exact zz
      · have E6 : Hid (decide (0 < r) = true) := e6
        have wm : (b.iLatch + 1 - r) % 256 = b.iLatch + 1 - r := Int.emod_eq_of_lt (by omega) (by have := of_decide_eq_true e6; have := HL.out; omega)
        clear hrr
        have EB : clkB b n older = { b with iLoad := false, irq := true, iCount := b.iLatch + 1 - r } := by unfold clkB; rw [HK.out, EA.out, if_neg (of_decide_eq_false E4.out), HR.out, if_pos (of_decide_eq_true E6.out)]; simp only [Bool.or_true]
        have EC := CB.out _ _ EB
        have HEC : Hid _ := EC
        clear EB EC
        go_wp2
        go_end0
        have zz : Blk _ m (((#[.int .i64 b.sub, .int .u8 b.hard, .bool b.work, .bool b.chrRam, .int .i64 b.prg, .int .i64 b.chr, .int .i64 b.epoch, .int .u8 b.sel, .int .u8 a0, .int .u8 a1, .int .u8 a2, .int .u8 a3, .int .u8 a4, .int .u8 a5, .int .u8 a6, .int .u8 a7, .int .u8 b.turn, .int .u8 b.guard, .int .u8 b.iLatch, .int .u8 b.iCount, .bool b.iLoad, .bool b.iOn, .bool b.irq].setIfInBounds 22 (.bool true)).setIfInBounds 20 (.bool false)).setIfInBounds 19 (.int .u8 (b.iLatch + 1 - r))) 69 := (Blk.set (Blk.set (Blk.set KH.out 22 (.bool true)) 20 (.bool false)) 19 (.int .u8 (b.iLatch + 1 - r)))
        refine ⟨rfl, ((((Below.refl m W).setCell (p := ⟨m, 22, none⟩) (Nat.le_refl _) (.bool true)).setCell (p := ⟨m, 20, none⟩) (Nat.le_refl _) (.bool false)).setCell (p := ⟨m, 19, none⟩) (Nat.le_refl _) (.int .u8 (b.iLatch + 1 - r))), ?_⟩
        rw [HEC.out]
        exact zz
    · have E4 : Hid (decide (n ≤ b.iCount) = true) := e4
      have wm1 : n % 256 = n := Int.emod_eq_of_lt (by have := NH.out; omega) (by have := of_decide_eq_true e4; have := HC.out; omega)
      have wm2 : (b.iCount - n) % 256 = b.iCount - n := Int.emod_eq_of_lt (by have := of_decide_eq_true e4; omega) (by have := NH.out; have := HC.out; omega)
      have EB : clkB b n older = { b with iLoad := false, irq := true, iCount := b.iCount - n } := by unfold clkB; rw [HK.out, EA.out, if_pos (of_decide_eq_true E4.out)]; simp only [Bool.or_true]
      have EC := CB.out _ _ EB
      have HEC : Hid _ := EC
      clear EB EC
      go_wp2
      refine bodyPost_ret (results_none rfl _ _ _) rfl ?_
      have zz : Blk _ m (((#[.int .i64 b.sub, .int .u8 b.hard, .bool b.work, .bool b.chrRam, .int .i64 b.prg, .int .i64 b.chr, .int .i64 b.epoch, .int .u8 b.sel, .int .u8 a0, .int .u8 a1, .int .u8 a2, .int .u8 a3, .int .u8 a4, .int .u8 a5, .int .u8 a6, .int .u8 a7, .int .u8 b.turn, .int .u8 b.guard, .int .u8 b.iLatch, .int .u8 b.iCount, .bool b.iLoad, .bool b.iOn, .bool b.irq].setIfInBounds 22 (.bool true)).setIfInBounds 20 (.bool false)).setIfInBounds 19 (.int .u8 (b.iCount - n))) 69 := (Blk.set (Blk.set (Blk.set KH.out 22 (.bool true)) 20 (.bool false)) 19 (.int .u8 (b.iCount - n)))
      refine ⟨rfl, ((((Below.refl m W).setCell (p := ⟨m, 22, none⟩) (Nat.le_refl _) (.bool true)).setCell (p := ⟨m, 20, none⟩) (Nat.le_refl _) (.bool false)).setCell (p := ⟨m, 19, none⟩) (Nat.le_refl _) (.int .u8 (b.iCount - n))), ?_⟩
      rw [HEC.out]
      exact zz
end Go.Proofs.Ytpdpfobhbafmcaa
