/-
  The contract of the rule that moves a beam; conditions: its place is one of the screen's.
-/
import Derived.Test.YtlnpcbofebppcabQLeaf
set_option linter.unusedSimpArgs false
set_option linter.unusedVariables false
namespace Go.Proofs.Ytlnpcbofebppcab
open Go.RowKit Classical
/-- A raster at its next place, all else as it was. -/
def Rs.moved (r : Rs) : Rs := { r with line := r.nl, dot := r.nd }
set_option maxHeartbeats 2000000 in
theorem move_any (r : Rs) (c : Bool) (w : World) (h1 : 0 ≤ r.line) (h2 : r.line ≤ 261) (h3 : 0 ≤ r.dot) (h4 : r.dot ≤ 340) :
    Calls Try.prog 42 #[.agg (bm r c)] w fun e w' => e = .returned (.agg (bm r.moved c)) ∧ Below w.heap.size w w' := by
  by_cases hl : r.line = 261
  · by_cases hd : r.dot = 340
    · have e : r.nl = 0 ∧ r.nd = 0 := by unfold Rs.nl Rs.nd; simp [*]
      unfold Rs.moved
      rw [e.1, e.2]
      clear e
      unfold bm
      obtain ⟨line, dot, odd, vbl, nmi, draw, hold⟩ := r
      simp only at *
      subst hl hd
      go_enter Try.func42, Try.ntmps42
      go_wp2_with (first
        | (go_at_call 47; refine (is_any _ _ _ _ _ _ _ _ _ _ _).mono ?_; rintro e w1 ⟨rfl, rfl⟩))
      all_goals refine bodyPost_ret (by simp [results, Try.results42, go_sem] <;> assumption) rfl ⟨rfl, ?_⟩
      exact below_new3 _ _ _
    · by_cases hd9 : r.dot = 339
      · cases ho : r.odd
        · have e : r.nl = 261 ∧ r.nd = 340 := by unfold Rs.nl Rs.nd; simp [*]
          unfold Rs.moved
          rw [e.1, e.2]
          clear e
          unfold bm
          obtain ⟨line, dot, odd, vbl, nmi, draw, hold⟩ := r
          simp only at *
          subst hl hd9 ho
          go_enter Try.func42, Try.ntmps42
          go_wp2_with (first
            | (go_at_call 47; refine (is_any _ _ _ _ _ _ _ _ _ _ _).mono ?_; rintro e w1 ⟨rfl, rfl⟩))
          all_goals refine bodyPost_ret (by simp [results, Try.results42, go_sem] <;> assumption) rfl ⟨rfl, ?_⟩
          exact below_new4 _ _ _ _
        · cases hw : r.draw
          · have e : r.nl = 261 ∧ r.nd = 340 := by unfold Rs.nl Rs.nd; simp [*]
            unfold Rs.moved
            rw [e.1, e.2]
            clear e
            unfold bm
            obtain ⟨line, dot, odd, vbl, nmi, draw, hold⟩ := r
            simp only at *
            subst hl hd9 ho hw
            go_enter Try.func42, Try.ntmps42
            go_wp2_with (first
              | (go_at_call 47; refine (is_any _ _ _ _ _ _ _ _ _ _ _).mono ?_; rintro e w1 ⟨rfl, rfl⟩))
            all_goals refine bodyPost_ret (by simp [results, Try.results42, go_sem] <;> assumption) rfl ⟨rfl, ?_⟩
            exact below_new4 _ _ _ _
          · have e : r.nl = 0 ∧ r.nd = 0 := by unfold Rs.nl Rs.nd; simp [*]
            unfold Rs.moved
            rw [e.1, e.2]
            clear e
            unfold bm
            obtain ⟨line, dot, odd, vbl, nmi, draw, hold⟩ := r
            simp only at *
            subst hl hd9 ho hw
            go_enter Try.func42, Try.ntmps42
            go_wp2_with (first
              | (go_at_call 47; refine (is_any _ _ _ _ _ _ _ _ _ _ _).mono ?_; rintro e w1 ⟨rfl, rfl⟩))
            all_goals refine bodyPost_ret (by simp [results, Try.results42, go_sem] <;> assumption) rfl ⟨rfl, ?_⟩
            exact below_new4 _ _ _ _
      · have hd8 : r.dot < 340 := by omega
        have e : r.nl = 261 ∧ r.nd = r.dot + 1 := by unfold Rs.nl Rs.nd; simp [*]
        unfold Rs.moved
        rw [e.1, e.2]
        clear e
        unfold bm
        obtain ⟨line, dot, odd, vbl, nmi, draw, hold⟩ := r
        simp only at *
        subst hl
        go_enter Try.func42, Try.ntmps42
        go_wp2_with (first
          | (go_at_call 47; refine (is_any _ _ _ _ _ _ _ _ _ _ _).mono ?_; rintro e w1 ⟨rfl, rfl⟩))
        all_goals refine bodyPost_ret (by simp [results, Try.results42, go_sem] <;> assumption) rfl ⟨rfl, ?_⟩
        exact below_new4 _ _ _ _
  · by_cases hd : r.dot = 340
    · have e : r.nl = r.line + 1 ∧ r.nd = 0 := by unfold Rs.nl Rs.nd; simp [*]
      unfold Rs.moved
      rw [e.1, e.2]
      clear e
      unfold bm
      obtain ⟨line, dot, odd, vbl, nmi, draw, hold⟩ := r
      simp only at *
      subst hd
      have h2 : line < 261 := by omega
      go_enter Try.func42, Try.ntmps42
      go_wp2_with (first
        | (go_at_call 47; refine (is_any _ _ _ _ _ _ _ _ _ _ _).mono ?_; rintro e w1 ⟨rfl, rfl⟩))
      all_goals refine bodyPost_ret (by simp [results, Try.results42, go_sem] <;> assumption) rfl ⟨rfl, ?_⟩
      exact below_new4 _ _ _ _
    · have hd8 : r.dot < 340 := by omega
      have e : r.nl = r.line ∧ r.nd = r.dot + 1 := by unfold Rs.nl Rs.nd; simp [*]
      unfold Rs.moved
      rw [e.1, e.2]
      clear e
      unfold bm
      obtain ⟨line, dot, odd, vbl, nmi, draw, hold⟩ := r
      simp only at *
      go_enter Try.func42, Try.ntmps42
      go_wp2_with (first
        | (go_at_call 47; refine (is_any _ _ _ _ _ _ _ _ _ _ _).mono ?_; rintro e w1 ⟨rfl, rfl⟩))
      all_goals refine bodyPost_ret (by simp [results, Try.results42, go_sem] <;> assumption) rfl ⟨rfl, ?_⟩
      exact below_new4 _ _ _ _
end Go.Proofs.Ytlnpcbofebppcab
