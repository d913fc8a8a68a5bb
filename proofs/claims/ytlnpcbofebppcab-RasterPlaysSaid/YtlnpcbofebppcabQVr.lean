/-
  The contract of the document's Valid; conditions: the numbers fit their kinds.
-/
import Derived.Test.YtlnpcbofebppcabQPlace
set_option linter.unusedSimpArgs false
set_option linter.unusedVariables false
namespace Go.Proofs.Ytlnpcbofebppcab
open Go.RowKit Classical
theorem ahead_any (l d m e : Int) (w : World) :
    Calls Try.prog 40 #[.int .i64 l, .int .i64 d, .int .i64 m, .int .i64 e] w fun x w' => x = .returned (.bool (decide (l < m) || decide (l = m) && decide (d < e))) ∧ w' = w := by
  by_cases h1 : l < m <;> by_cases h2 : l = m <;> by_cases h3 : d < e
  all_goals try (exfalso; omega)
  all_goals
    go_enter Try.func40, Try.ntmps40
    go_wp2
    go_ret
    simp [*]
set_option maxHeartbeats 2000000 in
theorem rvalid_ex (r : Rs) (w : World) (o : r.Ok) :
    Calls Try.prog 34 #[.agg r.cells] w fun e w' => e = .returned (.bool r.valid) ∧ w' = w.alloc (.cells r.cells 23) := by
  obtain ⟨line, dot, odd, vbl, nmi, draw, hold⟩ := r
  obtain ⟨o1, o2⟩ := o
  simp only at o1 o2
  unfold Rs.cells
  simp only
  by_cases h1 : line < 0
  · have hN : ¬ (0 ≤ line) := by omega
    have E : Hid (Rs.valid ⟨line, dot, odd, vbl, nmi, draw, hold⟩ = false) := by unfold Hid Rs.valid; simp only [decide_eq_false hN, Bool.false_and, Bool.and_false]
    clear hN
    go_enter Try.func34, Try.ntmps34
    go_wp2
    go_ret
    exact ⟨congrArg (fun x => Ending.returned (.bool x)) E.out.symm, rfl⟩
  by_cases h2 : 261 < line
  · have hN : ¬ (line ≤ 261) := by omega
    have E : Hid (Rs.valid ⟨line, dot, odd, vbl, nmi, draw, hold⟩ = false) := by unfold Hid Rs.valid; simp only [decide_eq_false hN, Bool.false_and, Bool.and_false]
    clear hN
    go_enter Try.func34, Try.ntmps34
    go_wp2
    go_ret
    exact ⟨congrArg (fun x => Ending.returned (.bool x)) E.out.symm, rfl⟩
  by_cases h3 : dot < 0
  · have hN : ¬ (0 ≤ dot) := by omega
    have E : Hid (Rs.valid ⟨line, dot, odd, vbl, nmi, draw, hold⟩ = false) := by unfold Hid Rs.valid; simp only [decide_eq_false hN, Bool.false_and, Bool.and_false]
    clear hN
    go_enter Try.func34, Try.ntmps34
    go_wp2
    go_ret
    exact ⟨congrArg (fun x => Ending.returned (.bool x)) E.out.symm, rfl⟩
  by_cases h4 : 340 < dot
  · have hN : ¬ (dot ≤ 340) := by omega
    have E : Hid (Rs.valid ⟨line, dot, odd, vbl, nmi, draw, hold⟩ = false) := by unfold Hid Rs.valid; simp only [decide_eq_false hN, Bool.false_and, Bool.and_false]
    clear hN
    go_enter Try.func34, Try.ntmps34
    go_wp2
    go_ret
    exact ⟨congrArg (fun x => Ending.returned (.bool x)) E.out.symm, rfl⟩
  have g1 : 0 ≤ line := by omega
  have g2 : line ≤ 261 := by omega
  have g3 : 0 ≤ dot := by omega
  have g4 : dot ≤ 340 := by omega
  clear o1 o2
  have d1 : decide (line < 0) = false := decide_eq_false h1
  have d2 : decide (261 < line) = false := decide_eq_false h2
  have d3 : decide (dot < 0) = false := decide_eq_false h3
  have d4 : decide (340 < dot) = false := decide_eq_false h4
  have VB : Hid (Rs.valid ⟨line, dot, odd, vbl, nmi, draw, hold⟩ = ((!vbl || (!(decide (line < 241) || decide (line = 241) && decide (dot < 1)) && !(decide (261 < line) || decide (261 = line) && decide (0 < dot)))) && (!hold || decide (line = 241) && decide (dot = 0)))) := by
    unfold Hid Rs.valid
    simp only [decide_eq_true g1, decide_eq_true g2, decide_eq_true g3, decide_eq_true g4, Bool.true_and]
    have e1 : (decide (82182 ≤ line * 341 + dot) && decide (line * 341 + dot < 89002)) = (!(decide (line < 241) || decide (line = 241) && decide (dot < 1)) && !(decide (261 < line) || decide (261 = line) && decide (0 < dot))) := by
      rw [Bool.eq_iff_iff]
      simp only [Bool.and_eq_true, Bool.or_eq_true, Bool.not_eq_true', Bool.or_eq_false_iff, Bool.and_eq_false_iff, decide_eq_true_eq, decide_eq_false_iff_not]
      omega
    have e2 : decide (line * 341 + dot = 82181) = (decide (line = 241) && decide (dot = 0)) := by
      rw [Bool.eq_iff_iff]
      simp only [Bool.and_eq_true, decide_eq_true_eq]
      omega
    rw [e1, e2]
  have hA : Hid _ := fun (W : World) => ahead_any line dot 241 1 W
  have hL : Hid _ := fun (W : World) => ahead_any 261 0 line dot W
  generalize (decide (line < 241) || decide (line = 241) && decide (dot < 1)) = ea at *
  generalize (decide (261 < line) || decide (261 = line) && decide (0 < dot)) = la at *
  have hx : Hid ((decide (line = 241) && decide (dot = 0)) = (decide (line = 241) && decide (dot = 0))) := rfl
  cases vbl
  rotate_left
  · cases ea
    · cases la
      · cases hold
        · have E : Hid (Rs.valid ⟨line, dot, odd, true, nmi, draw, false⟩ = true) := VB.out.trans (by simp [*])
          clear VB hx
          go_enter Try.func34, Try.ntmps34
          go_wp2_with (first
            | (go_at_call_of 40 (Value.int .i64 261); refine (hL.out _).mono ?_; rintro e w1 ⟨rfl, rfl⟩)
            | (go_at_call 40; refine (hA.out _).mono ?_; rintro e w1 ⟨rfl, rfl⟩))
          go_ret
          exact ⟨congrArg (fun x => Ending.returned (.bool x)) E.out.symm, rfl⟩
        · by_cases h5 : line = 241
          · by_cases h6 : dot = 0
            · have E : Hid (Rs.valid ⟨line, dot, odd, true, nmi, draw, true⟩ = true) := VB.out.trans (by simp [*])
              clear VB hx
              have h5b : (line == 241) = true := by simpa using h5
              have h6b : (dot == 0) = true := by simpa using h6
              clear h5 h6
              go_enter Try.func34, Try.ntmps34
              go_wp2_with (first
                | (go_at_call_of 40 (Value.int .i64 261); refine (hL.out _).mono ?_; rintro e w1 ⟨rfl, rfl⟩)
                | (go_at_call 40; refine (hA.out _).mono ?_; rintro e w1 ⟨rfl, rfl⟩))
              go_ret
              exact ⟨congrArg (fun x => Ending.returned (.bool x)) E.out.symm, rfl⟩
            · have E : Hid (Rs.valid ⟨line, dot, odd, true, nmi, draw, true⟩ = false) := VB.out.trans (by simp [*])
              clear VB hx
              first | (have h6b : (dot == 0) = false := by simpa using h6) | skip
              first | (have h5b : (line == 241) = false := by simpa using h5) | (have h5b : (line == 241) = true := by simpa using h5)
              try clear h6
              clear h5
              go_enter Try.func34, Try.ntmps34
              go_wp2_with (first
                | (go_at_call_of 40 (Value.int .i64 261); refine (hL.out _).mono ?_; rintro e w1 ⟨rfl, rfl⟩)
                | (go_at_call 40; refine (hA.out _).mono ?_; rintro e w1 ⟨rfl, rfl⟩))
              go_ret
              exact ⟨congrArg (fun x => Ending.returned (.bool x)) E.out.symm, rfl⟩
          · have E : Hid (Rs.valid ⟨line, dot, odd, true, nmi, draw, true⟩ = false) := VB.out.trans (by simp [*])
            clear VB hx
            first | (have h6b : (dot == 0) = false := by simpa using h6) | skip
            first | (have h5b : (line == 241) = false := by simpa using h5) | (have h5b : (line == 241) = true := by simpa using h5)
            try clear h6
            clear h5
            go_enter Try.func34, Try.ntmps34
            go_wp2_with (first
              | (go_at_call_of 40 (Value.int .i64 261); refine (hL.out _).mono ?_; rintro e w1 ⟨rfl, rfl⟩)
              | (go_at_call 40; refine (hA.out _).mono ?_; rintro e w1 ⟨rfl, rfl⟩))
            go_ret
            exact ⟨congrArg (fun x => Ending.returned (.bool x)) E.out.symm, rfl⟩
      · have E : Hid (Rs.valid ⟨line, dot, odd, true, nmi, draw, hold⟩ = false) := VB.out.trans (by simp [*])
        clear VB hx
        go_enter Try.func34, Try.ntmps34
        go_wp2_with (first
          | (go_at_call_of 40 (Value.int .i64 261); refine (hL.out _).mono ?_; rintro e w1 ⟨rfl, rfl⟩)
          | (go_at_call 40; refine (hA.out _).mono ?_; rintro e w1 ⟨rfl, rfl⟩))
        go_ret
        exact ⟨congrArg (fun x => Ending.returned (.bool x)) E.out.symm, rfl⟩
    · have E : Hid (Rs.valid ⟨line, dot, odd, true, nmi, draw, hold⟩ = false) := VB.out.trans (by simp [*])
      clear VB hx
      go_enter Try.func34, Try.ntmps34
      go_wp2_with (first
        | (go_at_call_of 40 (Value.int .i64 261); refine (hL.out _).mono ?_; rintro e w1 ⟨rfl, rfl⟩)
        | (go_at_call 40; refine (hA.out _).mono ?_; rintro e w1 ⟨rfl, rfl⟩))
      go_ret
      exact ⟨congrArg (fun x => Ending.returned (.bool x)) E.out.symm, rfl⟩
  · cases hold
    · have E : Hid (Rs.valid ⟨line, dot, odd, false, nmi, draw, false⟩ = true) := VB.out.trans (by simp [*])
      clear VB hx
      go_enter Try.func34, Try.ntmps34
      go_wp2_with (first
        | (go_at_call_of 40 (Value.int .i64 261); refine (hL.out _).mono ?_; rintro e w1 ⟨rfl, rfl⟩)
        | (go_at_call 40; refine (hA.out _).mono ?_; rintro e w1 ⟨rfl, rfl⟩))
      go_ret
      exact ⟨congrArg (fun x => Ending.returned (.bool x)) E.out.symm, rfl⟩
    · by_cases h5 : line = 241
      · by_cases h6 : dot = 0
        · have E : Hid (Rs.valid ⟨line, dot, odd, false, nmi, draw, true⟩ = true) := VB.out.trans (by simp [*])
          clear VB hx
          have h5b : (line == 241) = true := by simpa using h5
          have h6b : (dot == 0) = true := by simpa using h6
          clear h5 h6
          go_enter Try.func34, Try.ntmps34
          go_wp2_with (first
            | (go_at_call_of 40 (Value.int .i64 261); refine (hL.out _).mono ?_; rintro e w1 ⟨rfl, rfl⟩)
            | (go_at_call 40; refine (hA.out _).mono ?_; rintro e w1 ⟨rfl, rfl⟩))
          go_ret
          exact ⟨congrArg (fun x => Ending.returned (.bool x)) E.out.symm, rfl⟩
        · have E : Hid (Rs.valid ⟨line, dot, odd, false, nmi, draw, true⟩ = false) := VB.out.trans (by simp [*])
          clear VB hx
          first | (have h6b : (dot == 0) = false := by simpa using h6) | skip
          first | (have h5b : (line == 241) = false := by simpa using h5) | (have h5b : (line == 241) = true := by simpa using h5)
          try clear h6
          clear h5
          go_enter Try.func34, Try.ntmps34
          go_wp2_with (first
            | (go_at_call_of 40 (Value.int .i64 261); refine (hL.out _).mono ?_; rintro e w1 ⟨rfl, rfl⟩)
            | (go_at_call 40; refine (hA.out _).mono ?_; rintro e w1 ⟨rfl, rfl⟩))
          go_ret
          exact ⟨congrArg (fun x => Ending.returned (.bool x)) E.out.symm, rfl⟩
      · have E : Hid (Rs.valid ⟨line, dot, odd, false, nmi, draw, true⟩ = false) := VB.out.trans (by simp [*])
        clear VB hx
        first | (have h6b : (dot == 0) = false := by simpa using h6) | skip
        first | (have h5b : (line == 241) = false := by simpa using h5) | (have h5b : (line == 241) = true := by simpa using h5)
        try clear h6
        clear h5
        go_enter Try.func34, Try.ntmps34
        go_wp2_with (first
          | (go_at_call_of 40 (Value.int .i64 261); refine (hL.out _).mono ?_; rintro e w1 ⟨rfl, rfl⟩)
          | (go_at_call 40; refine (hA.out _).mono ?_; rintro e w1 ⟨rfl, rfl⟩))
        go_ret
        exact ⟨congrArg (fun x => Ending.returned (.bool x)) E.out.symm, rfl⟩
theorem rvalid_any (r : Rs) (w : World) (o : r.Ok) :
    Calls Try.prog 34 #[.agg r.cells] w fun e w' => e = .returned (.bool r.valid) ∧ Below w.heap.size w w' :=
  (rvalid_ex r w o).mono fun e w' ⟨he, hw⟩ => ⟨he, by subst hw; exact below_new _⟩
end Go.Proofs.Ytlnpcbofebppcab
