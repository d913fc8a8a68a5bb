/-
  The document's dot, place by place.
-/
import Derived.Test.YtlnpcbofebppcabQLeaf
import Derived.Test.YtlnpcbofebppcabQLaw0
import Derived.Test.YtlnpcbofebppcabQMath2
set_option linter.unusedSimpArgs false
set_option linter.unusedVariables false
namespace Go.Proofs.Ytlnpcbofebppcab
open Go.RowKit Classical
set_option maxHeartbeats 2000000 in
theorem rdot_a (r : Rs) (w : World) (h1 : 0 ≤ r.line) (h2 : r.line ≤ 261) (h3 : 0 ≤ r.dot) (h4 : r.dot ≤ 340) (hd : r.dot = 340) :
    Calls Try.prog 41 #[.agg r.cells] w fun e w' => e = .returned (.tuple #[.agg r.d1.cells, .int .i64 (if r.d1.clk = true then 1 else 0)]) ∧ Below w.heap.size w w' := by
  · by_cases hl : r.line = 261
    · have e : r.d1 = ⟨0, 0, !r.odd, r.vbl, r.nmi, r.draw, r.hold⟩ := by unfold Rs.d1 Rs.nl Rs.nd; simp [*] <;> omega
      have e2 : r.d1.clk = false := by rw [e]; unfold Rs.clk; simp [*] <;> omega
      rw [e2, e]
      clear e e2
      unfold Rs.cells
      obtain ⟨line, dot, odd, vbl, nmi, draw, hold⟩ := r
      simp only at *
      subst hl hd
      go_enter Try.func41, Try.ntmps41
      go_wp2
      all_goals refine bodyPost_ret (by simp [results, Try.results41, go_sem] <;> assumption) rfl ⟨rfl, ?_⟩
      all_goals exact below_new2 _ _
    · have e : r.d1 = ⟨r.line + 1, 0, r.odd, r.vbl, r.nmi, r.draw, r.hold⟩ := by unfold Rs.d1 Rs.nl Rs.nd; simp [*] <;> omega
      have e2 : r.d1.clk = false := by rw [e]; unfold Rs.clk; simp [*] <;> omega
      rw [e2, e]
      clear e e2
      unfold Rs.cells
      obtain ⟨line, dot, odd, vbl, nmi, draw, hold⟩ := r
      simp only at *
      subst hd
      have h5 : line + 1 ≤ 261 := by omega
      go_enter Try.func41, Try.ntmps41
      go_wp2
      all_goals refine bodyPost_ret (by simp [results, Try.results41, go_sem] <;> assumption) rfl ⟨rfl, ?_⟩
      all_goals exact below_new2 _ _
set_option maxHeartbeats 2000000 in
theorem rdot_b (r : Rs) (w : World) (h1 : 0 ≤ r.line) (h2 : r.line ≤ 261) (h3 : 0 ≤ r.dot) (h4 : r.dot ≤ 340) (h0 : r.dot = 0) :
    Calls Try.prog 41 #[.agg r.cells] w fun e w' => e = .returned (.tuple #[.agg r.d1.cells, .int .i64 (if r.d1.clk = true then 1 else 0)]) ∧ Below w.heap.size w w' := by
  have hd3 : r.dot < 340 := by omega
  · by_cases hl : r.line = 241
    · cases hv : r.vbl <;> cases hh : r.hold
      · have e : r.d1 = ⟨241, 1, r.odd, true, r.nmi, r.draw, false⟩ := by unfold Rs.d1 Rs.nl Rs.nd; simp [*] <;> omega
        have e2 : r.d1.clk = false := by rw [e]; unfold Rs.clk; simp [*] <;> omega
        rw [e2, e]
        clear e e2
        unfold Rs.cells
        obtain ⟨line, dot, odd, vbl, nmi, draw, hold⟩ := r
        simp only at *
        subst hl h0 hv hh
        go_enter Try.func41, Try.ntmps41
        go_wp2
        all_goals refine bodyPost_ret (by simp [results, Try.results41, go_sem] <;> assumption) rfl ⟨rfl, ?_⟩
        all_goals exact below_new2 _ _
      · have e : r.d1 = ⟨241, 1, r.odd, false, r.nmi, r.draw, false⟩ := by unfold Rs.d1 Rs.nl Rs.nd; simp [*] <;> omega
        have e2 : r.d1.clk = false := by rw [e]; unfold Rs.clk; simp [*] <;> omega
        rw [e2, e]
        clear e e2
        unfold Rs.cells
        obtain ⟨line, dot, odd, vbl, nmi, draw, hold⟩ := r
        simp only at *
        subst hl h0 hv hh
        go_enter Try.func41, Try.ntmps41
        go_wp2
        all_goals refine bodyPost_ret (by simp [results, Try.results41, go_sem] <;> assumption) rfl ⟨rfl, ?_⟩
        all_goals exact below_new2 _ _
      · have e : r.d1 = ⟨241, 1, r.odd, true, r.nmi, r.draw, false⟩ := by unfold Rs.d1 Rs.nl Rs.nd; simp [*] <;> omega
        have e2 : r.d1.clk = false := by rw [e]; unfold Rs.clk; simp [*] <;> omega
        rw [e2, e]
        clear e e2
        unfold Rs.cells
        obtain ⟨line, dot, odd, vbl, nmi, draw, hold⟩ := r
        simp only at *
        subst hl h0 hv hh
        go_enter Try.func41, Try.ntmps41
        go_wp2
        all_goals refine bodyPost_ret (by simp [results, Try.results41, go_sem] <;> assumption) rfl ⟨rfl, ?_⟩
        all_goals exact below_new2 _ _
      · have e : r.d1 = ⟨241, 1, r.odd, true, r.nmi, r.draw, false⟩ := by unfold Rs.d1 Rs.nl Rs.nd; simp [*] <;> omega
        have e2 : r.d1.clk = false := by rw [e]; unfold Rs.clk; simp [*] <;> omega
        rw [e2, e]
        clear e e2
        unfold Rs.cells
        obtain ⟨line, dot, odd, vbl, nmi, draw, hold⟩ := r
        simp only at *
        subst hl h0 hv hh
        go_enter Try.func41, Try.ntmps41
        go_wp2
        all_goals refine bodyPost_ret (by simp [results, Try.results41, go_sem] <;> assumption) rfl ⟨rfl, ?_⟩
        all_goals exact below_new2 _ _
    · by_cases hl2 : r.line = 261
      · have e : r.d1 = ⟨261, 1, r.odd, false, r.nmi, r.draw, r.hold⟩ := by unfold Rs.d1 Rs.nl Rs.nd; simp [*] <;> omega
        have e2 : r.d1.clk = false := by rw [e]; unfold Rs.clk; simp [*] <;> omega
        rw [e2, e]
        clear e e2
        unfold Rs.cells
        obtain ⟨line, dot, odd, vbl, nmi, draw, hold⟩ := r
        simp only at *
        subst hl2 h0
        go_enter Try.func41, Try.ntmps41
        go_wp2
        all_goals refine bodyPost_ret (by simp [results, Try.results41, go_sem] <;> assumption) rfl ⟨rfl, ?_⟩
        all_goals exact below_new2 _ _
      · have e : r.d1 = ⟨r.line, 1, r.odd, r.vbl, r.nmi, r.draw, r.hold⟩ := by unfold Rs.d1 Rs.nl Rs.nd; simp [*] <;> omega
        have e2 : r.d1.clk = false := by rw [e]; unfold Rs.clk; simp [*] <;> omega
        rw [e2, e]
        clear e e2
        unfold Rs.cells
        obtain ⟨line, dot, odd, vbl, nmi, draw, hold⟩ := r
        simp only at *
        subst h0
        go_enter Try.func41, Try.ntmps41
        go_wp2
        all_goals refine bodyPost_ret (by simp [results, Try.results41, go_sem] <;> assumption) rfl ⟨rfl, ?_⟩
        all_goals exact below_new2 _ _
set_option maxHeartbeats 2000000 in
theorem rdot_c (r : Rs) (w : World) (h1 : 0 ≤ r.line) (h2 : r.line ≤ 261) (h3 : 0 ≤ r.dot) (h4 : r.dot ≤ 340) (h9 : r.dot = 339) :
    Calls Try.prog 41 #[.agg r.cells] w fun e w' => e = .returned (.tuple #[.agg r.d1.cells, .int .i64 (if r.d1.clk = true then 1 else 0)]) ∧ Below w.heap.size w w' := by
  have hd3 : r.dot < 340 := by omega
  have h01 : 1 ≤ r.dot := by omega
  · by_cases hl : r.line = 261
    · cases ho : r.odd <;> cases hw : r.draw
      · have e : r.d1 = ⟨261, 340, false, r.vbl, r.nmi, false, r.hold⟩ := by unfold Rs.d1 Rs.nl Rs.nd; simp [*] <;> omega
        have e2 : r.d1.clk = false := by rw [e]; unfold Rs.clk; simp [*] <;> omega
        rw [e2, e]
        clear e e2
        unfold Rs.cells
        obtain ⟨line, dot, odd, vbl, nmi, draw, hold⟩ := r
        simp only at *
        subst hl h9 ho hw
        go_enter Try.func41, Try.ntmps41
        go_wp2
        all_goals refine bodyPost_ret (by simp [results, Try.results41, go_sem] <;> assumption) rfl ⟨rfl, ?_⟩
        all_goals exact below_new2 _ _
      · have e : r.d1 = ⟨261, 340, false, r.vbl, r.nmi, true, r.hold⟩ := by unfold Rs.d1 Rs.nl Rs.nd; simp [*] <;> omega
        have e2 : r.d1.clk = false := by rw [e]; unfold Rs.clk; simp [*] <;> omega
        rw [e2, e]
        clear e e2
        unfold Rs.cells
        obtain ⟨line, dot, odd, vbl, nmi, draw, hold⟩ := r
        simp only at *
        subst hl h9 ho hw
        go_enter Try.func41, Try.ntmps41
        go_wp2
        all_goals refine bodyPost_ret (by simp [results, Try.results41, go_sem] <;> assumption) rfl ⟨rfl, ?_⟩
        all_goals exact below_new2 _ _
      · have e : r.d1 = ⟨261, 340, true, r.vbl, r.nmi, false, r.hold⟩ := by unfold Rs.d1 Rs.nl Rs.nd; simp [*] <;> omega
        have e2 : r.d1.clk = false := by rw [e]; unfold Rs.clk; simp [*] <;> omega
        rw [e2, e]
        clear e e2
        unfold Rs.cells
        obtain ⟨line, dot, odd, vbl, nmi, draw, hold⟩ := r
        simp only at *
        subst hl h9 ho hw
        go_enter Try.func41, Try.ntmps41
        go_wp2
        all_goals refine bodyPost_ret (by simp [results, Try.results41, go_sem] <;> assumption) rfl ⟨rfl, ?_⟩
        all_goals exact below_new2 _ _
      · have e : r.d1 = ⟨0, 0, false, r.vbl, r.nmi, true, r.hold⟩ := by unfold Rs.d1 Rs.nl Rs.nd; simp [*] <;> omega
        have e2 : r.d1.clk = false := by rw [e]; unfold Rs.clk; simp [*] <;> omega
        rw [e2, e]
        clear e e2
        unfold Rs.cells
        obtain ⟨line, dot, odd, vbl, nmi, draw, hold⟩ := r
        simp only at *
        subst hl h9 ho hw
        go_enter Try.func41, Try.ntmps41
        go_wp2
        all_goals refine bodyPost_ret (by simp [results, Try.results41, go_sem] <;> assumption) rfl ⟨rfl, ?_⟩
        all_goals exact below_new2 _ _
    · have e : r.d1 = ⟨r.line, 340, r.odd, r.vbl, r.nmi, r.draw, r.hold⟩ := by unfold Rs.d1 Rs.nl Rs.nd; simp [*] <;> omega
      have e2 : r.d1.clk = false := by rw [e]; unfold Rs.clk; simp [*] <;> omega
      rw [e2, e]
      clear e e2
      unfold Rs.cells
      obtain ⟨line, dot, odd, vbl, nmi, draw, hold⟩ := r
      simp only at *
      subst h9
      go_enter Try.func41, Try.ntmps41
      go_wp2
      all_goals refine bodyPost_ret (by simp [results, Try.results41, go_sem] <;> assumption) rfl ⟨rfl, ?_⟩
      all_goals exact below_new2 _ _
set_option maxHeartbeats 2000000 in
theorem rdot_d (r : Rs) (w : World) (h1 : 0 ≤ r.line) (h2 : r.line ≤ 261) (h3 : 0 ≤ r.dot) (h4 : r.dot ≤ 340) (h5 : r.dot = 259) :
    Calls Try.prog 41 #[.agg r.cells] w fun e w' => e = .returned (.tuple #[.agg r.d1.cells, .int .i64 (if r.d1.clk = true then 1 else 0)]) ∧ Below w.heap.size w w' := by
  have hd3 : r.dot < 340 := by omega
  have h01 : 1 ≤ r.dot := by omega
  have h9 : r.dot ≠ 339 := by omega
  · cases hw : r.draw
    · have e : r.d1 = ⟨r.line, 260, r.odd, r.vbl, r.nmi, false, r.hold⟩ := by unfold Rs.d1 Rs.nl Rs.nd; simp [*] <;> omega
      have e2 : r.d1.clk = false := by rw [e]; unfold Rs.clk; simp [*] <;> omega
      rw [e2, e]
      clear e e2
      unfold Rs.cells
      obtain ⟨line, dot, odd, vbl, nmi, draw, hold⟩ := r
      simp only at *
      subst h5 hw
      go_enter Try.func41, Try.ntmps41
      go_wp2
      all_goals refine bodyPost_ret (by simp [results, Try.results41, go_sem] <;> assumption) rfl ⟨rfl, ?_⟩
      all_goals exact below_new2 _ _
    · by_cases hl : r.line < 240
      · have e : r.d1 = ⟨r.line, 260, r.odd, r.vbl, r.nmi, true, r.hold⟩ := by unfold Rs.d1 Rs.nl Rs.nd; simp [*] <;> omega
        have e2 : r.d1.clk = true := by rw [e]; unfold Rs.clk; simp [*] <;> omega
        rw [e2, e]
        clear e e2
        unfold Rs.cells
        obtain ⟨line, dot, odd, vbl, nmi, draw, hold⟩ := r
        simp only at *
        subst h5 hw
        go_enter Try.func41, Try.ntmps41
        go_wp2
        all_goals refine bodyPost_ret (by simp [results, Try.results41, go_sem] <;> assumption) rfl ⟨rfl, ?_⟩
        all_goals exact below_new2 _ _
      · by_cases hl2 : r.line = 261
        · have e : r.d1 = ⟨261, 260, r.odd, r.vbl, r.nmi, true, r.hold⟩ := by unfold Rs.d1 Rs.nl Rs.nd; simp [*] <;> omega
          have e2 : r.d1.clk = true := by rw [e]; unfold Rs.clk; simp [*] <;> omega
          rw [e2, e]
          clear e e2
          unfold Rs.cells
          obtain ⟨line, dot, odd, vbl, nmi, draw, hold⟩ := r
          simp only at *
          subst h5 hw hl2
          go_enter Try.func41, Try.ntmps41
          go_wp2
          all_goals refine bodyPost_ret (by simp [results, Try.results41, go_sem] <;> assumption) rfl ⟨rfl, ?_⟩
          all_goals exact below_new2 _ _
        · have e : r.d1 = ⟨r.line, 260, r.odd, r.vbl, r.nmi, true, r.hold⟩ := by unfold Rs.d1 Rs.nl Rs.nd; simp [*] <;> omega
          have e2 : r.d1.clk = false := by rw [e]; unfold Rs.clk; simp [*] <;> omega
          rw [e2, e]
          clear e e2
          unfold Rs.cells
          obtain ⟨line, dot, odd, vbl, nmi, draw, hold⟩ := r
          simp only at *
          subst h5 hw
          go_enter Try.func41, Try.ntmps41
          go_wp2
          all_goals refine bodyPost_ret (by simp [results, Try.results41, go_sem] <;> assumption) rfl ⟨rfl, ?_⟩
          all_goals exact below_new2 _ _
set_option maxHeartbeats 2000000 in
theorem rdot_e (r : Rs) (w : World) (h1 : 0 ≤ r.line) (h2 : r.line ≤ 261) (h3 : 0 ≤ r.dot) (h4 : r.dot ≤ 340) (h01 : 1 ≤ r.dot) (h9 : r.dot < 339) (h5 : r.dot ≠ 259) :
    Calls Try.prog 41 #[.agg r.cells] w fun e w' => e = .returned (.tuple #[.agg r.d1.cells, .int .i64 (if r.d1.clk = true then 1 else 0)]) ∧ Below w.heap.size w w' := by
  have hd3 : r.dot < 340 := by omega
  have h6 : r.dot + 1 ≠ 260 := by omega
  have e : r.d1 = ⟨r.line, r.dot + 1, r.odd, r.vbl, r.nmi, r.draw, r.hold⟩ := Rs.d1_plain h01 h9
  have e2 : r.d1.clk = false := by rw [e]; exact Rs.clk_plain h6
  rw [e2, e]
  clear e e2
  unfold Rs.cells
  obtain ⟨line, dot, odd, vbl, nmi, draw, hold⟩ := r
  simp only at *
  have h1b : (dot == 339) = false := by simpa using (show ¬ dot = 339 by omega)
  have h2b : (dot + 1 == 260) = false := by simpa using h6
  go_enter Try.func41, Try.ntmps41
  go_wp2
  all_goals refine bodyPost_ret (by simp [results, Try.results41, go_sem] <;> assumption) rfl ⟨rfl, ?_⟩
  all_goals exact below_new2 _ _
end Go.Proofs.Ytlnpcbofebppcab
