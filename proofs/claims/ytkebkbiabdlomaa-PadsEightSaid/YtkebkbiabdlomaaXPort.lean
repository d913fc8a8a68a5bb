/-
  The contracts of Set, Write and Read; conditions: the bytes are bytes.
-/
import Derived.Test.YtkebkbiabdlomaaXHelp
set_option linter.unusedSimpArgs false
set_option linter.unusedVariables false
namespace Go.Proofs.Ytkebkbiabdlomaa
open Go.RowKit Classical
set_option maxHeartbeats 1000000 in
theorem set_any (p : Pd) (a b : Int) (w : World) :
    Calls Try.prog 6 #[.agg p.cells, .int .u8 a, .int .u8 b] w fun e w' => e = .returned (.agg (p.set a b).cells) ∧ Below w.heap.size w w' := by
  obtain ⟨s, h0, h1, p0, p1⟩ := p
  unfold Pd.set Pd.cells
  cases s
  · simp only [if_true, if_false, Bool.false_eq_true]
    go_enter Try.func6, Try.ntmps6
    go_wp2
    exact bodyPost_ret (v := .agg #[.bool false, .int .u8 (a), .int .u8 (b), .int .u8 (p0), .int .u8 (p1)]) (by simp [results, Try.results6, go_sem]) rfl ⟨rfl, below_a2 w _ _⟩
  · simp only [if_true, if_false, Bool.false_eq_true]
    go_enter Try.func6, Try.ntmps6
    go_wp2
    exact bodyPost_ret (v := .agg #[.bool true, .int .u8 (a), .int .u8 (b), .int .u8 (a), .int .u8 (b)]) (by simp [results, Try.results6, go_sem]) rfl ⟨rfl, below_a2 w _ _⟩
set_option maxHeartbeats 1000000 in
theorem wr_any (p : Pd) (v : Int) (w : World) (v0 : 0 ≤ v) (v1 : v ≤ 255) :
    Calls Try.prog 7 #[.agg p.cells, .int .u8 v] w fun e w' => e = .returned (.agg (p.wr v).cells) ∧ Below w.heap.size w w' := by
  obtain ⟨s, h0, h1, p0, p1⟩ := p
  unfold Pd.wr Pd.cells
  have z01 : Hid (decide ((0 : Int) = 1) = false) := rfl
  have z11 : Hid (decide ((1 : Int) = 1) = true) := rfl
  have a1 := and1 v v0 v1
  have hw : IntKind.u8.wrap (v % 2) = v % 2 := by rw [IntKind.wrap_u8]; omega
  rcases (show v % 2 = 0 ∨ v % 2 = 1 by omega) with e | e
  all_goals rw [e] at a1 hw
  all_goals simp only [e]
  all_goals clear hw
  all_goals cases s
  · simp only [z01.out, z11.out, Bool.or_true, Bool.or_false, Bool.true_or, Bool.false_or, if_true, if_false, Bool.false_eq_true, decide_true]
    go_enter Try.func7, Try.ntmps7
    go_wp2
    exact bodyPost_ret (v := .agg #[.bool false, .int .u8 (h0), .int .u8 (h1), .int .u8 (p0), .int .u8 (p1)]) (by simp [results, Try.results7, go_sem]) rfl ⟨rfl, below_a2 w _ _⟩
  · simp only [z01.out, z11.out, Bool.or_true, Bool.or_false, Bool.true_or, Bool.false_or, if_true, if_false, Bool.false_eq_true, decide_true]
    go_enter Try.func7, Try.ntmps7
    go_wp2
    exact bodyPost_ret (v := .agg #[.bool false, .int .u8 (h0), .int .u8 (h1), .int .u8 (h0), .int .u8 (h1)]) (by simp [results, Try.results7, go_sem]) rfl ⟨rfl, below_a2 w _ _⟩
  · simp only [z01.out, z11.out, Bool.or_true, Bool.or_false, Bool.true_or, Bool.false_or, if_true, if_false, Bool.false_eq_true, decide_true]
    go_enter Try.func7, Try.ntmps7
    go_wp2
    exact bodyPost_ret (v := .agg #[.bool true, .int .u8 (h0), .int .u8 (h1), .int .u8 (h0), .int .u8 (h1)]) (by simp [results, Try.results7, go_sem]) rfl ⟨rfl, below_a2 w _ _⟩
  · simp only [z01.out, z11.out, Bool.or_true, Bool.or_false, Bool.true_or, Bool.false_or, if_true, if_false, Bool.false_eq_true, decide_true]
    go_enter Try.func7, Try.ntmps7
    go_wp2
    exact bodyPost_ret (v := .agg #[.bool true, .int .u8 (h0), .int .u8 (h1), .int .u8 (h0), .int .u8 (h1)]) (by simp [results, Try.results7, go_sem]) rfl ⟨rfl, below_a2 w _ _⟩
theorem rd_none (p : Pd) (k : Int) (w : World) (hk : k < 0 ∨ 2 ≤ k) :
    Calls Try.prog 8 #[.agg p.cells, .int .i64 k] w fun e w' => e = .returned (.tuple #[.int .u8 0, .agg p.cells]) ∧ Below w.heap.size w w' := by
  obtain ⟨s, h0, h1, p0, p1⟩ := p
  unfold Pd.cells
  rcases hk with hk | hk
  all_goals have hk0 : (k != 0) = true := by simp; omega
  all_goals have hk1 : (k != 1) = true := by simp; omega
  all_goals
    go_enter Try.func8, Try.ntmps8
    go_upto_region 2 with fail
    go_region
    all_goals go_wp2
    all_goals exact bodyPost_ret (v := .tuple #[.int .u8 0, .agg #[.bool s, .int .u8 (h0), .int .u8 (h1), .int .u8 (p0), .int .u8 (p1)]]) (by simp [results, Try.results8, go_sem]) rfl ⟨rfl, by first | exact below_a2 w _ _ | exact below_draws (below_a2 w _ _) _⟩
set_option maxHeartbeats 1000000 in
theorem rd_0t (h0 h1 p0 p1 : Int) (w : World) (o : Pd.Ok ⟨true, h0, h1, p0, p1⟩) :
    Calls Try.prog 8 #[.agg #[.bool true, .int .u8 (h0), .int .u8 (h1), .int .u8 (p0), .int .u8 (p1)], .int .i64 0] w fun e w' => e = .returned (.tuple #[.int .u8 (h0 % 2), .agg #[.bool true, .int .u8 (h0), .int .u8 (h1), .int .u8 (p0), .int .u8 (p1)]]) ∧ Below w.heap.size w w' := by
  obtain ⟨a0, a1, b0, b1, c0, c1, d0, d1⟩ := o
  simp only at a0 a1 b0 b1 c0 c1 d0 d1
  have x0 := and1 h0 a0 a1
  have x1 := and1 h1 b0 b1
  have x2 := and1 p0 c0 c1
  have x3 := and1 p1 d0 d1
  have y0 := or128 p0 c0 c1
  have y1 := or128 p1 d0 d1
  go_enter Try.func8, Try.ntmps8
  go_upto_region 4 with fail
  go_region
  all_goals go_wp2
  all_goals exact bodyPost_ret (v := .tuple #[.int .u8 (h0 % 2), .agg #[.bool true, .int .u8 (h0), .int .u8 (h1), .int .u8 (p0), .int .u8 (p1)]]) (by simp [results, Try.results8, go_sem]) rfl ⟨rfl, by first | exact below_a2 w _ _ | exact below_draws (below_a2 w _ _) _⟩
set_option maxHeartbeats 1000000 in
theorem rd_0f (h0 h1 p0 p1 : Int) (w : World) (o : Pd.Ok ⟨false, h0, h1, p0, p1⟩) :
    Calls Try.prog 8 #[.agg #[.bool false, .int .u8 (h0), .int .u8 (h1), .int .u8 (p0), .int .u8 (p1)], .int .i64 0] w fun e w' => e = .returned (.tuple #[.int .u8 (p0 % 2), .agg #[.bool false, .int .u8 (h0), .int .u8 (h1), .int .u8 (p0 / 2 + 128), .int .u8 (p1)]]) ∧ Below w.heap.size w w' := by
  obtain ⟨a0, a1, b0, b1, c0, c1, d0, d1⟩ := o
  simp only at a0 a1 b0 b1 c0 c1 d0 d1
  have x0 := and1 h0 a0 a1
  have x1 := and1 h1 b0 b1
  have x2 := and1 p0 c0 c1
  have x3 := and1 p1 d0 d1
  have y0 := or128 p0 c0 c1
  have y1 := or128 p1 d0 d1
  go_enter Try.func8, Try.ntmps8
  go_upto_region 7 with fail
  go_region
  all_goals go_wp2
  all_goals exact bodyPost_ret (v := .tuple #[.int .u8 (p0 % 2), .agg #[.bool false, .int .u8 (h0), .int .u8 (h1), .int .u8 (p0 / 2 + 128), .int .u8 (p1)]]) (by simp [results, Try.results8, go_sem]) rfl ⟨rfl, by first | exact below_a2 w _ _ | exact below_draws (below_a2 w _ _) _⟩
set_option maxHeartbeats 1000000 in
theorem rd_1t (h0 h1 p0 p1 : Int) (w : World) (o : Pd.Ok ⟨true, h0, h1, p0, p1⟩) :
    Calls Try.prog 8 #[.agg #[.bool true, .int .u8 (h0), .int .u8 (h1), .int .u8 (p0), .int .u8 (p1)], .int .i64 1] w fun e w' => e = .returned (.tuple #[.int .u8 (h1 % 2), .agg #[.bool true, .int .u8 (h0), .int .u8 (h1), .int .u8 (p0), .int .u8 (p1)]]) ∧ Below w.heap.size w w' := by
  obtain ⟨a0, a1, b0, b1, c0, c1, d0, d1⟩ := o
  simp only at a0 a1 b0 b1 c0 c1 d0 d1
  have x0 := and1 h0 a0 a1
  have x1 := and1 h1 b0 b1
  have x2 := and1 p0 c0 c1
  have x3 := and1 p1 d0 d1
  have y0 := or128 p0 c0 c1
  have y1 := or128 p1 d0 d1
  go_enter Try.func8, Try.ntmps8
  go_upto_region 4 with fail
  go_region
  all_goals go_wp2
  all_goals exact bodyPost_ret (v := .tuple #[.int .u8 (h1 % 2), .agg #[.bool true, .int .u8 (h0), .int .u8 (h1), .int .u8 (p0), .int .u8 (p1)]]) (by simp [results, Try.results8, go_sem]) rfl ⟨rfl, by first | exact below_a2 w _ _ | exact below_draws (below_a2 w _ _) _⟩
set_option maxHeartbeats 1000000 in
theorem rd_1f (h0 h1 p0 p1 : Int) (w : World) (o : Pd.Ok ⟨false, h0, h1, p0, p1⟩) :
    Calls Try.prog 8 #[.agg #[.bool false, .int .u8 (h0), .int .u8 (h1), .int .u8 (p0), .int .u8 (p1)], .int .i64 1] w fun e w' => e = .returned (.tuple #[.int .u8 (p1 % 2), .agg #[.bool false, .int .u8 (h0), .int .u8 (h1), .int .u8 (p0), .int .u8 (p1 / 2 + 128)]]) ∧ Below w.heap.size w w' := by
  obtain ⟨a0, a1, b0, b1, c0, c1, d0, d1⟩ := o
  simp only at a0 a1 b0 b1 c0 c1 d0 d1
  have x0 := and1 h0 a0 a1
  have x1 := and1 h1 b0 b1
  have x2 := and1 p0 c0 c1
  have x3 := and1 p1 d0 d1
  have y0 := or128 p0 c0 c1
  have y1 := or128 p1 d0 d1
  go_enter Try.func8, Try.ntmps8
  go_upto_region 7 with fail
  go_region
  all_goals go_wp2
  all_goals exact bodyPost_ret (v := .tuple #[.int .u8 (p1 % 2), .agg #[.bool false, .int .u8 (h0), .int .u8 (h1), .int .u8 (p0), .int .u8 (p1 / 2 + 128)]]) (by simp [results, Try.results8, go_sem]) rfl ⟨rfl, by first | exact below_a2 w _ _ | exact below_draws (below_a2 w _ _) _⟩
theorem rd_any (p : Pd) (k : Int) (w : World) (o : p.Ok) :
    Calls Try.prog 8 #[.agg p.cells, .int .i64 k] w fun e w' => e = .returned (.tuple #[.int .u8 (p.rdV k), .agg (p.rd k).cells]) ∧ Below w.heap.size w w' := by
  by_cases h0 : k = 0
  · subst h0
    obtain ⟨s, h0, h1, p0, p1⟩ := p
    cases s
    · exact rd_0f h0 h1 p0 p1 w o
    · exact rd_0t h0 h1 p0 p1 w o
  · by_cases h1 : k = 1
    · subst h1
      obtain ⟨s, h0, h1, p0, p1⟩ := p
      cases s
      · exact rd_1f h0 h1 p0 p1 w o
      · exact rd_1t h0 h1 p0 p1 w o
    · have e1 : p.rdV k = 0 := by unfold Pd.rdV; rw [if_neg h0, if_neg h1]
      have e2 : p.rd k = p := by unfold Pd.rd; rw [if_neg (fun h => h0 h.1), if_neg (fun h => h1 h.1)]
      rw [e1, e2]
      exact rd_none p k w (by omega)
end Go.Proofs.Ytkebkbiabdlomaa
