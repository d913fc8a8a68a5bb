/-
  The contract of Line; conditions: the numbers fit their kinds.
-/
import Derived.Test.YtlnpcbofebppcabQVal
import Derived.Test.YtlnpcbofebppcabQMath2
set_option linter.unusedSimpArgs false
set_option linter.unusedVariables false
namespace Go.Proofs.Ytlnpcbofebppcab
open Go.RowKit Classical
set_option maxHeartbeats 2000000 in
theorem line_false (r : Rs) (w : World) (o : r.Ok) (hv : r.valid = false) :
    Calls Try.prog 9 #[.agg r.cells] w fun e w' => e = .returned (.bool r.nmiL) ∧ Below w.heap.size w w' := by
  have V : Hid (∀ W : World, Calls Try.prog 26 #[.agg r.cells] W fun e w' => e = .returned (.bool false) ∧ w' = W.alloc (.cells r.cells 23)) := fun W => by
    have := valid_ex r W o
    rwa [hv] at this
  have p1 : r.nmiL = (false && (r.vbl && r.nmi)) := by unfold Rs.nmiL; rw [hv]
  rw [p1]
  clear p1 hv o
  obtain ⟨line, dot, odd, vbl, nmi, draw, hold⟩ := r
  unfold Rs.cells at *
  simp only
  cases vbl <;> cases nmi
  all_goals
    go_enter Try.func9, Try.ntmps9
    go_wp2_with (go_at_call 26; refine (V.out _).mono ?_; rintro e w2 ⟨rfl, rfl⟩)
    go_ret
    exact ⟨rfl, below_new2 _ _⟩
set_option maxHeartbeats 2000000 in
theorem line_true (r : Rs) (w : World) (o : r.Ok) (hv : r.valid = true) :
    Calls Try.prog 9 #[.agg r.cells] w fun e w' => e = .returned (.bool r.nmiL) ∧ Below w.heap.size w w' := by
  have V : Hid (∀ W : World, Calls Try.prog 26 #[.agg r.cells] W fun e w' => e = .returned (.bool true) ∧ w' = W.alloc (.cells r.cells 23)) := fun W => by
    have := valid_ex r W o
    rwa [hv] at this
  have p1 : r.nmiL = (true && (r.vbl && r.nmi)) := by unfold Rs.nmiL; rw [hv]
  rw [p1]
  clear p1 hv o
  obtain ⟨line, dot, odd, vbl, nmi, draw, hold⟩ := r
  unfold Rs.cells at *
  simp only
  cases vbl <;> cases nmi
  all_goals
    go_enter Try.func9, Try.ntmps9
    go_wp2_with (go_at_call 26; refine (V.out _).mono ?_; rintro e w2 ⟨rfl, rfl⟩)
    go_ret
    exact ⟨rfl, below_new2 _ _⟩
theorem line_any (r : Rs) (w : World) (o : r.Ok) :
    Calls Try.prog 9 #[.agg r.cells] w fun e w' => e = .returned (.bool r.nmiL) ∧ Below w.heap.size w w' := by
  cases hv : r.valid
  · exact line_false r w o hv
  · exact line_true r w o hv
end Go.Proofs.Ytlnpcbofebppcab
