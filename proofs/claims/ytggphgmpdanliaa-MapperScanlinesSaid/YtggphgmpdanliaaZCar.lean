/-
  What carried answers of a shape.
-/
import Derived.Test.YtggphgmpdanliaaNCart
import Derived.Test.YtggphgmpdanliaaZNew
set_option linter.unusedSimpArgs false
set_option linter.unusedVariables false
namespace Go.Proofs.Ytggphgmpdanliaa
open Go.RowKit Classical
set_option maxRecDepth 100000 in
set_option maxHeartbeats 1000000 in
theorem carried_any (w : World) (mp sub ram nv pr ch : Int) (vert four : Bool) (hpr : -9223372036854775808 ≤ pr ∧ pr ≤ 9223372036854775807) (hch : -9223372036854775808 ≤ ch ∧ ch ≤ 9223372036854775807) :
    Calls Try.prog 16 #[.agg #[.int .i64 mp, .int .i64 sub, .int .i64 ram, .int .i64 nv, .int .i64 pr, .int .i64 ch, .bool vert, .bool four]] w fun e w' => e = .returned (.bool (carB mp sub (pr % 1081344).toNat (ch % 540672).toNat)) ∧ Below w.heap.size w w' := by
  have h1 : Hid _ := fun (W : World) => length_any pr 1081344 W hpr (by decide)
  have h2 : Hid _ := fun (W : World) => length_any ch 540672 W hch (by decide)
  have b0 : 0 ≤ pr % 1081344 ∧ pr % 1081344 < 1081344 := by omega
  have b1 : 0 ≤ ch % 540672 ∧ ch % 540672 < 540672 := by omega
  have CB : Hid (carB mp sub (pr % 1081344).toNat (ch % 540672).toNat = (lst mp sub && (okP (pr % 1081344).toNat && okC (ch % 540672).toNat))) := rfl
  have OP : okP (pr % 1081344).toNat = !((pr % 1081344 % 16384 != 0) || ((pr % 1081344 == 0) || decide (1048576 < pr % 1081344))) := by unfold okP; rw [Int.toNat_of_nonneg b0.1]
  have OC : okC (ch % 540672).toNat = !((ch % 540672 % 8192 != 0) || decide (524288 < ch % 540672)) := by unfold okC; rw [Int.toNat_of_nonneg b1.1]
  rw [OP, OC] at CB
  clear OP OC
  obtain ⟨cv, hcv⟩ : ∃ x, carB mp sub (pr % 1081344).toNat (ch % 540672).toNat = x := ⟨_, rfl⟩
  rw [hcv] at CB ⊢
  clear hcv
  generalize pr % 1081344 = p at *
  generalize ch % 540672 = c at *
  have m1 : p.tmod 16384 = p % 16384 := Int.tmod_eq_emod_of_nonneg b0.1
  have m2 : c.tmod 8192 = c % 8192 := Int.tmod_eq_emod_of_nonneg b1.1
  have m3 : 0 ≤ p % 16384 ∧ p % 16384 < 16384 := by omega
  have m4 : 0 ≤ c % 8192 ∧ c % 8192 < 8192 := by omega
  go_enter Try.func16, Try.ntmps16
  go_upto_region 1 with fail
  have s0 : Blk (w.alloc (.cells #[.int .i64 mp, .int .i64 sub, .int .i64 ram, .int .i64 nv, .int .i64 pr, .int .i64 ch, .bool vert, .bool four] 23)) w.heap.size #[.int .i64 mp, .int .i64 sub, .int .i64 ram, .int .i64 nv, .int .i64 pr, .int .i64 ch, .bool vert, .bool four] 23 := Blk.new w _ _
  have hb0 : Below w.heap.size w (w.alloc (.cells #[.int .i64 mp, .int .i64 sub, .int .i64 ram, .int .i64 nv, .int .i64 pr, .int .i64 ch, .bool vert, .bool four] 23)) := (Below.refl _ _).alloc (Nat.le_refl _) _
  generalize w.alloc (.cells #[.int .i64 mp, .int .i64 sub, .int .i64 ram, .int .i64 nv, .int .i64 pr, .int .i64 ch, .bool vert, .bool four] 23) = W0 at *
  have d0 : W0.cell? ⟨w.heap.size, 0, none⟩ = some (.int .i64 mp) := s0.cell 0
  have d1 : W0.cell? ⟨w.heap.size, 1, none⟩ = some (.int .i64 sub) := s0.cell 1
  have d4 : W0.cell? ⟨w.heap.size, 4, none⟩ = some (.int .i64 pr) := s0.cell 4
  have d5 : W0.cell? ⟨w.heap.size, 5, none⟩ = some (.int .i64 ch) := s0.cell 5
  clear s0
  go_wp2_with fail
  refine (h1.out W0).mono ?_
  rintro e W1 ⟨rfl, hW⟩
  subst hW
  go_wp2_with fail
  refine (h2.out _).mono ?_
  rintro e W2 ⟨rfl, hW⟩
  obtain ⟨W3, hW3⟩ : ∃ x, x = W2 := ⟨W2, rfl⟩
  subst hW3
  subst hW
  clear h1 h2
  go_upto_region 3 with fail
  cases e1 : (p == 0)
  rotate_left
  · have Z : Hid (cv = false) := by unfold Hid; rw [CB.out]; simp [e1]
    clear CB
    go_wp2
    go_ret
    exact ⟨by rw [Z.out]; rfl, hb0⟩
  cases e2 : (p % 16384 != 0)
  rotate_left
  · have Z : Hid (cv = false) := by unfold Hid; rw [CB.out]; simp [e2]
    clear CB
    go_wp2
    go_ret
    exact ⟨by rw [Z.out]; rfl, hb0⟩
  cases e3 : decide (1048576 < p)
  rotate_left
  · have Z : Hid (cv = false) := by unfold Hid; rw [CB.out]; simp [e3]
    clear CB
    go_wp2
    go_ret
    exact ⟨by rw [Z.out]; rfl, hb0⟩
  cases e4 : (c % 8192 != 0)
  rotate_left
  · have Z : Hid (cv = false) := by unfold Hid; rw [CB.out]; simp [e4]
    clear CB
    go_wp2
    go_ret
    exact ⟨by rw [Z.out]; rfl, hb0⟩
  cases e5 : decide (524288 < c)
  rotate_left
  · have Z : Hid (cv = false) := by unfold Hid; rw [CB.out]; simp [e5]
    clear CB
    go_wp2
    go_ret
    exact ⟨by rw [Z.out]; rfl, hb0⟩
  have CB2 : Hid (cv = lst mp sub) := by unfold Hid; rw [CB.out, e1, e2, e3, e4, e5]; simp
  clear CB
  go_upto_region 5 with fail
  clear e1 e2 e3 e4 e5 m1 m2 m3 m4
  by_cases k0 : mp = 0
  · subst k0
    by_cases g0 : sub = 0
    · subst g0
      have Z : Hid (cv = true) := by unfold Hid; rw [CB2.out]; simp [lst]
      clear CB2
      go_wp2
      go_ret
      exact ⟨by rw [Z.out]; first | rfl | simp, hb0⟩
    have gb0 : (sub == 0) = false := by simpa using g0
    have Z : Hid (cv = false) := by unfold Hid; rw [CB2.out]; simp [lst, g0]
    clear CB2 g0
    go_wp2
    go_ret
    exact ⟨by rw [Z.out]; first | rfl | simp, hb0⟩
  have kb0 : (mp == 0) = false := by simpa using k0
  by_cases k1 : mp = 1
  · subst k1
    by_cases g0 : sub = 0
    · subst g0
      have Z : Hid (cv = true) := by unfold Hid; rw [CB2.out]; simp [lst]
      clear CB2
      go_wp2
      go_ret
      exact ⟨by rw [Z.out]; first | rfl | simp, hb0⟩
    have gb0 : (sub == 0) = false := by simpa using g0
    by_cases g5 : sub = 5
    · subst g5
      have Z : Hid (cv = true) := by unfold Hid; rw [CB2.out]; simp [lst]
      clear CB2
      go_wp2
      go_ret
      exact ⟨by rw [Z.out]; first | rfl | simp, hb0⟩
    have gb5 : (sub == 5) = false := by simpa using g5
    have Z : Hid (cv = false) := by unfold Hid; rw [CB2.out]; simp [lst, g0, g5]
    clear CB2 g0 g5
    go_wp2
    go_ret
    exact ⟨by rw [Z.out]; first | rfl | simp, hb0⟩
  have kb1 : (mp == 1) = false := by simpa using k1
  by_cases k2 : mp = 2
  · subst k2
    by_cases g0 : sub = 0
    · subst g0
      have Z : Hid (cv = true) := by unfold Hid; rw [CB2.out]; simp [lst]
      clear CB2
      go_wp2
      go_ret
      exact ⟨by rw [Z.out]; first | rfl | simp, hb0⟩
    have gb0 : (sub == 0) = false := by simpa using g0
    by_cases g1 : sub = 1
    · subst g1
      have Z : Hid (cv = true) := by unfold Hid; rw [CB2.out]; simp [lst]
      clear CB2
      go_wp2
      go_ret
      exact ⟨by rw [Z.out]; first | rfl | simp, hb0⟩
    have gb1 : (sub == 1) = false := by simpa using g1
    by_cases g2 : sub = 2
    · subst g2
      have Z : Hid (cv = true) := by unfold Hid; rw [CB2.out]; simp [lst]
      clear CB2
      go_wp2
      go_ret
      exact ⟨by rw [Z.out]; first | rfl | simp, hb0⟩
    have gb2 : (sub == 2) = false := by simpa using g2
    have Z : Hid (cv = false) := by unfold Hid; rw [CB2.out]; simp [lst]; omega
    clear CB2 g0 g1 g2
    go_wp2
    go_ret
    exact ⟨by rw [Z.out]; rfl, hb0⟩
  have kb2 : (mp == 2) = false := by simpa using k2
  by_cases k3 : mp = 3
  · subst k3
    by_cases g0 : sub = 0
    · subst g0
      have Z : Hid (cv = true) := by unfold Hid; rw [CB2.out]; simp [lst]
      clear CB2
      go_wp2
      go_ret
      exact ⟨by rw [Z.out]; first | rfl | simp, hb0⟩
    have gb0 : (sub == 0) = false := by simpa using g0
    by_cases g1 : sub = 1
    · subst g1
      have Z : Hid (cv = true) := by unfold Hid; rw [CB2.out]; simp [lst]
      clear CB2
      go_wp2
      go_ret
      exact ⟨by rw [Z.out]; first | rfl | simp, hb0⟩
    have gb1 : (sub == 1) = false := by simpa using g1
    by_cases g2 : sub = 2
    · subst g2
      have Z : Hid (cv = true) := by unfold Hid; rw [CB2.out]; simp [lst]
      clear CB2
      go_wp2
      go_ret
      exact ⟨by rw [Z.out]; first | rfl | simp, hb0⟩
    have gb2 : (sub == 2) = false := by simpa using g2
    have Z : Hid (cv = false) := by unfold Hid; rw [CB2.out]; simp [lst]; omega
    clear CB2 g0 g1 g2
    go_wp2
    go_ret
    exact ⟨by rw [Z.out]; rfl, hb0⟩
  have kb3 : (mp == 3) = false := by simpa using k3
  by_cases k7 : mp = 7
  · subst k7
    by_cases g0 : sub = 0
    · subst g0
      have Z : Hid (cv = true) := by unfold Hid; rw [CB2.out]; simp [lst]
      clear CB2
      go_wp2
      go_ret
      exact ⟨by rw [Z.out]; first | rfl | simp, hb0⟩
    have gb0 : (sub == 0) = false := by simpa using g0
    by_cases g1 : sub = 1
    · subst g1
      have Z : Hid (cv = true) := by unfold Hid; rw [CB2.out]; simp [lst]
      clear CB2
      go_wp2
      go_ret
      exact ⟨by rw [Z.out]; first | rfl | simp, hb0⟩
    have gb1 : (sub == 1) = false := by simpa using g1
    by_cases g2 : sub = 2
    · subst g2
      have Z : Hid (cv = true) := by unfold Hid; rw [CB2.out]; simp [lst]
      clear CB2
      go_wp2
      go_ret
      exact ⟨by rw [Z.out]; first | rfl | simp, hb0⟩
    have gb2 : (sub == 2) = false := by simpa using g2
    have Z : Hid (cv = false) := by unfold Hid; rw [CB2.out]; simp [lst]; omega
    clear CB2 g0 g1 g2
    go_wp2
    go_ret
    exact ⟨by rw [Z.out]; rfl, hb0⟩
  have kb7 : (mp == 7) = false := by simpa using k7
  by_cases k4 : mp = 4
  · subst k4
    by_cases g0 : sub = 0
    · subst g0
      have Z : Hid (cv = true) := by unfold Hid; rw [CB2.out]; simp [lst]
      clear CB2
      go_wp2
      go_ret
      exact ⟨by rw [Z.out]; first | rfl | simp, hb0⟩
    have gb0 : (sub == 0) = false := by simpa using g0
    by_cases g4 : sub = 4
    · subst g4
      have Z : Hid (cv = true) := by unfold Hid; rw [CB2.out]; simp [lst]
      clear CB2
      go_wp2
      go_ret
      exact ⟨by rw [Z.out]; first | rfl | simp, hb0⟩
    have gb4 : (sub == 4) = false := by simpa using g4
    have Z : Hid (cv = false) := by unfold Hid; rw [CB2.out]; simp [lst, g0, g4]
    clear CB2 g0 g4
    go_wp2
    go_ret
    exact ⟨by rw [Z.out]; first | rfl | simp, hb0⟩
  have kb4 : (mp == 4) = false := by simpa using k4
  have Z : Hid (cv = false) := by unfold Hid; rw [CB2.out]; simp [lst, k0, k1, k2, k3, k4, k7]
  clear CB2 k0 k1 k2 k3 k4 k7
  go_wp2
  go_ret
  exact ⟨by rw [Z.out]; first | rfl | simp, hb0⟩
end Go.Proofs.Ytggphgmpdanliaa
