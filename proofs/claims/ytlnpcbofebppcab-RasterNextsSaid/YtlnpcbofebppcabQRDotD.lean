/-
  The document's dot at a clock.
-/
import Derived.Test.YtlnpcbofebppcabQLeaf
import Derived.Test.YtlnpcbofebppcabQLaw0
set_option linter.unusedSimpArgs false
set_option linter.unusedVariables false
namespace Go.Proofs.Ytlnpcbofebppcab
open Go.RowKit
set_option maxHeartbeats 2000000 in
theorem rdot_d (r : Rs) (w : World) (h1 : 0 ≤ r.line) (h2 : r.line ≤ 261) (h3 : 0 ≤ r.dot) (h4 : r.dot ≤ 340) (h5 : r.dot = 259) :
    Calls Try.prog 41 #[.agg r.cells] w fun e w' => e = .returned (.tuple #[.agg r.d1.cells, .int .i64 (if r.d1.clk = true then 1 else 0)]) ∧ Below w.heap.size w w' := by
  have hd3 : r.dot < 340 := by omega
  have h01 : 1 ≤ r.dot := by omega
  have h9 : r.dot ≠ 339 := by omega
  · cases hw : r.draw
    · have e : r.d1 = ⟨r.line, 260, r.odd, r.vbl, r.nmi, false, r.hold⟩ := by unfold Rs.d1 Rs.nl Rs.nd; simp [*] <;> omega
      have e2 : r.d1.clk = false := by rw [e]; unfold Rs.clk; simp [*] <;> omega
      rw [e2, e]
      clear e e2
      unfold Rs.cells
      obtain ⟨line, dot, odd, vbl, nmi, draw, hold⟩ := r
      simp only at *
      subst h5 hw
      go_enter Try.func41, Try.ntmps41
      go_wp2
      all_goals refine bodyPost_ret (by simp [results, Try.results41, go_sem] <;> assumption) rfl ⟨rfl, ?_⟩
      all_goals exact below_new2 _ _
    · by_cases hl : r.line < 240
      · have e : r.d1 = ⟨r.line, 260, r.odd, r.vbl, r.nmi, true, r.hold⟩ := by unfold Rs.d1 Rs.nl Rs.nd; simp [*] <;> omega
        have e2 : r.d1.clk = true := by rw [e]; unfold Rs.clk; simp [*] <;> omega
        rw [e2, e]
        clear e e2
        unfold Rs.cells
        obtain ⟨line, dot, odd, vbl, nmi, draw, hold⟩ := r
        simp only at *
        subst h5 hw
        go_enter Try.func41, Try.ntmps41
        go_wp2
        all_goals refine bodyPost_ret (by simp [results, Try.results41, go_sem] <;> assumption) rfl ⟨rfl, ?_⟩
        all_goals exact below_new2 _ _
      · by_cases hl2 : r.line = 261
        · have e : r.d1 = ⟨261, 260, r.odd, r.vbl, r.nmi, true, r.hold⟩ := by unfold Rs.d1 Rs.nl Rs.nd; simp [*] <;> omega
          have e2 : r.d1.clk = true := by rw [e]; unfold Rs.clk; simp [*] <;> omega
          rw [e2, e]
          clear e e2
          unfold Rs.cells
          obtain ⟨line, dot, odd, vbl, nmi, draw, hold⟩ := r
          simp only at *
          subst h5 hw hl2
          go_enter Try.func41, Try.ntmps41
          go_wp2
          all_goals refine bodyPost_ret (by simp [results, Try.results41, go_sem] <;> assumption) rfl ⟨rfl, ?_⟩
          all_goals exact below_new2 _ _
        · have e : r.d1 = ⟨r.line, 260, r.odd, r.vbl, r.nmi, true, r.hold⟩ := by unfold Rs.d1 Rs.nl Rs.nd; simp [*] <;> omega
          have e2 : r.d1.clk = false := by rw [e]; unfold Rs.clk; simp [*] <;> omega
          rw [e2, e]
          clear e e2
          unfold Rs.cells
          obtain ⟨line, dot, odd, vbl, nmi, draw, hold⟩ := r
          simp only at *
          subst h5 hw
          go_enter Try.func41, Try.ntmps41
          go_wp2
          all_goals refine bodyPost_ret (by simp [results, Try.results41, go_sem] <;> assumption) rfl ⟨rfl, ?_⟩
          all_goals exact below_new2 _ _
end Go.Proofs.Ytlnpcbofebppcab
