/-
  The contract of Valid; conditions: the numbers fit their kinds.
-/
import Derived.Test.YtlnpcbofebppcabQPlace
set_option linter.unusedSimpArgs false
set_option linter.unusedVariables false
namespace Go.Proofs.Ytlnpcbofebppcab
open Go.RowKit Classical
set_option maxHeartbeats 2000000 in
theorem valid_ex (r : Rs) (w : World) (o : r.Ok) :
    Calls Try.prog 26 #[.agg r.cells] w fun e w' => e = .returned (.bool r.valid) ∧ w' = w.alloc (.cells r.cells 23) := by
  obtain ⟨line, dot, odd, vbl, nmi, draw, hold⟩ := r
  obtain ⟨o1, o2⟩ := o
  simp only at o1 o2
  unfold Rs.cells
  simp only
  by_cases h1 : line < 0
  · have hN : ¬ (0 ≤ line) := by omega
    have E : Hid (Rs.valid ⟨line, dot, odd, vbl, nmi, draw, hold⟩ = false) := by unfold Hid Rs.valid; simp only [decide_eq_false hN, Bool.false_and, Bool.and_false]
    clear hN
    go_enter Try.func26, Try.ntmps26
    go_wp2
    go_ret
    exact ⟨congrArg (fun x => Ending.returned (.bool x)) E.out.symm, rfl⟩
  by_cases h2 : 261 < line
  · have hN : ¬ (line ≤ 261) := by omega
    have E : Hid (Rs.valid ⟨line, dot, odd, vbl, nmi, draw, hold⟩ = false) := by unfold Hid Rs.valid; simp only [decide_eq_false hN, Bool.false_and, Bool.and_false]
    clear hN
    go_enter Try.func26, Try.ntmps26
    go_wp2
    go_ret
    exact ⟨congrArg (fun x => Ending.returned (.bool x)) E.out.symm, rfl⟩
  by_cases h3 : dot < 0
  · have hN : ¬ (0 ≤ dot) := by omega
    have E : Hid (Rs.valid ⟨line, dot, odd, vbl, nmi, draw, hold⟩ = false) := by unfold Hid Rs.valid; simp only [decide_eq_false hN, Bool.false_and, Bool.and_false]
    clear hN
    go_enter Try.func26, Try.ntmps26
    go_wp2
    go_ret
    exact ⟨congrArg (fun x => Ending.returned (.bool x)) E.out.symm, rfl⟩
  by_cases h4 : 340 < dot
  · have hN : ¬ (dot ≤ 340) := by omega
    have E : Hid (Rs.valid ⟨line, dot, odd, vbl, nmi, draw, hold⟩ = false) := by unfold Hid Rs.valid; simp only [decide_eq_false hN, Bool.false_and, Bool.and_false]
    clear hN
    go_enter Try.func26, Try.ntmps26
    go_wp2
    go_ret
    exact ⟨congrArg (fun x => Ending.returned (.bool x)) E.out.symm, rfl⟩
  have g1 : 0 ≤ line := by omega
  have g2 : line ≤ 261 := by omega
  have g3 : 0 ≤ dot := by omega
  have g4 : dot ≤ 340 := by omega
  clear o1 o2
  have d1 : decide (line < 0) = false := decide_eq_false h1
  have d2 : decide (261 < line) = false := decide_eq_false h2
  have d3 : decide (dot < 0) = false := decide_eq_false h3
  have d4 : decide (340 < dot) = false := decide_eq_false h4
  have VB : Hid (Rs.valid ⟨line, dot, odd, vbl, nmi, draw, hold⟩ = ((!vbl || inB (line * 341 + dot)) && (!hold || decide (line * 341 + dot = 82181)))) := by
    unfold Hid Rs.valid inB
    simp only [decide_eq_true g1, decide_eq_true g2, decide_eq_true g3, decide_eq_true g4, Bool.true_and]
  have hI : Hid _ := fun (W : World) => inBlank_any (line * 341 + dot) W
  cases vbl
  · cases hold
    · have E : Hid (Rs.valid ⟨line, dot, odd, false, nmi, draw, false⟩ = true) := VB.out.trans (by first | rfl | (simp [*]; done))
      clear VB
      go_enter Try.func26, Try.ntmps26
      go_wp2_with (go_at_call 39; refine (hI.out _).mono ?_; rintro e w1 ⟨rfl, rfl⟩)
      go_ret
      exact ⟨congrArg (fun x => Ending.returned (.bool x)) E.out.symm, rfl⟩
    · by_cases h5 : line * 341 + dot = 82181
      · have h5b : (line * 341 + dot == 82181) = true := by simpa using h5
        have E : Hid (Rs.valid ⟨line, dot, odd, false, nmi, draw, true⟩ = true) := VB.out.trans (by first | rfl | (simp [*]; done))
        clear VB h5
        go_enter Try.func26, Try.ntmps26
        go_wp2_with (go_at_call 39; refine (hI.out _).mono ?_; rintro e w1 ⟨rfl, rfl⟩)
        go_ret
        exact ⟨congrArg (fun x => Ending.returned (.bool x)) E.out.symm, rfl⟩
      · have h5b : (line * 341 + dot == 82181) = false := by simpa using h5
        have E : Hid (Rs.valid ⟨line, dot, odd, false, nmi, draw, true⟩ = false) := VB.out.trans (by first | rfl | (simp [*]; done))
        clear VB h5
        go_enter Try.func26, Try.ntmps26
        go_wp2_with (go_at_call 39; refine (hI.out _).mono ?_; rintro e w1 ⟨rfl, rfl⟩)
        go_ret
        exact ⟨congrArg (fun x => Ending.returned (.bool x)) E.out.symm, rfl⟩
  · cases hb : inB (line * 341 + dot)
    · rw [hb] at hI VB
      clear hb
      have E : Hid (Rs.valid ⟨line, dot, odd, true, nmi, draw, hold⟩ = false) := VB.out.trans (by first | rfl | (simp [*]; done))
      clear VB
      go_enter Try.func26, Try.ntmps26
      go_wp2_with (go_at_call 39; refine (hI.out _).mono ?_; rintro e w1 ⟨rfl, rfl⟩)
      go_ret
      exact ⟨congrArg (fun x => Ending.returned (.bool x)) E.out.symm, rfl⟩
    · rw [hb] at hI VB
      clear hb
      cases hold
      · have E : Hid (Rs.valid ⟨line, dot, odd, true, nmi, draw, false⟩ = true) := VB.out.trans (by first | rfl | (simp [*]; done))
        clear VB
        go_enter Try.func26, Try.ntmps26
        go_wp2_with (go_at_call 39; refine (hI.out _).mono ?_; rintro e w1 ⟨rfl, rfl⟩)
        go_ret
        exact ⟨congrArg (fun x => Ending.returned (.bool x)) E.out.symm, rfl⟩
      · by_cases h5 : line * 341 + dot = 82181
        · have h5b : (line * 341 + dot == 82181) = true := by simpa using h5
          have E : Hid (Rs.valid ⟨line, dot, odd, true, nmi, draw, true⟩ = true) := VB.out.trans (by first | rfl | (simp [*]; done))
          clear VB h5
          go_enter Try.func26, Try.ntmps26
          go_wp2_with (go_at_call 39; refine (hI.out _).mono ?_; rintro e w1 ⟨rfl, rfl⟩)
          go_ret
          exact ⟨congrArg (fun x => Ending.returned (.bool x)) E.out.symm, rfl⟩
        · have h5b : (line * 341 + dot == 82181) = false := by simpa using h5
          have E : Hid (Rs.valid ⟨line, dot, odd, true, nmi, draw, true⟩ = false) := VB.out.trans (by first | rfl | (simp [*]; done))
          clear VB h5
          go_enter Try.func26, Try.ntmps26
          go_wp2_with (go_at_call 39; refine (hI.out _).mono ?_; rintro e w1 ⟨rfl, rfl⟩)
          go_ret
          exact ⟨congrArg (fun x => Ending.returned (.bool x)) E.out.symm, rfl⟩
theorem valid_any (r : Rs) (w : World) (o : r.Ok) :
    Calls Try.prog 26 #[.agg r.cells] w fun e w' => e = .returned (.bool r.valid) ∧ Below w.heap.size w w' :=
  (valid_ex r w o).mono fun e w' ⟨he, hw⟩ => ⟨he, by subst hw; exact below_new _⟩
end Go.Proofs.Ytlnpcbofebppcab
