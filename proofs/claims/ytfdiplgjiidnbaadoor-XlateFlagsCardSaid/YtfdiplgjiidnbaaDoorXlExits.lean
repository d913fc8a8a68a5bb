/-
  exits of the laws of xlate.
-/
import Derived.Test.YtfdiplgjiidnbaaDoorXlFlgS
set_option linter.unusedSimpArgs false
set_option linter.unusedVariables false
namespace Go.Proofs.YtfdiplgjiidnbaaDoor
open Go.RowKit Classical
set_option maxRecDepth 100000 in
set_option maxHeartbeats 4000000 in
theorem exits_any (kd md num cyc : Nat) (op arg fl : Int) (w : World) :
    Calls Tryd.prog 31 #[.agg #[.int .u8 ((kd : Nat) : Int), .int .i64 op, .int .i64 ((md : Nat) : Int), .int .u16 arg, .int .u8 fl, .int .i64 ((num : Nat) : Int), .int .i64 ((cyc : Nat) : Int)]] w fun e w' => e = .returned (.bool (exB ⟨kd, op, md, arg, fl, num, cyc⟩)) ∧ Below w.heap.size w w' := by
  by_cases hkd10 : kd = 10
  · subst hkd10
    have HV : Hid (exB ⟨10, op, md, arg, fl, num, cyc⟩ = true) := by unfold Hid exB; simp [*]
    go_enter Tryd.func31, Tryd.ntmps31
    go_wp2
    go_ret
    exact ⟨by rw [HV.out]; rfl, (Below.refl _ _).alloc (Nat.le_refl _) _⟩
  have fkd10 : (((kd : Nat) : Int) == 10) = false := by rw [beq_eq_false_iff_ne]; omega
  by_cases hkd12 : kd = 12
  · subst hkd12
    have HV : Hid (exB ⟨12, op, md, arg, fl, num, cyc⟩ = true) := by unfold Hid exB; simp [*]
    go_enter Tryd.func31, Tryd.ntmps31
    go_wp2
    go_ret
    exact ⟨by rw [HV.out]; rfl, (Below.refl _ _).alloc (Nat.le_refl _) _⟩
  have fkd12 : (((kd : Nat) : Int) == 12) = false := by rw [beq_eq_false_iff_ne]; omega
  by_cases hkd1 : kd = 1
  · subst hkd1
    by_cases hmd9 : md = 9
    · subst hmd9
      have HV : Hid (exB ⟨1, op, 9, arg, fl, num, cyc⟩ = true) := by unfold Hid exB; simp [*]
      go_enter Tryd.func31, Tryd.ntmps31
      go_wp2
      go_ret
      exact ⟨by rw [HV.out]; rfl, (Below.refl _ _).alloc (Nat.le_refl _) _⟩
    have fmd9 : (((md : Nat) : Int) == 9) = false := by rw [beq_eq_false_iff_ne]; omega
    by_cases hmd10 : md = 10
    · subst hmd10
      have HV : Hid (exB ⟨1, op, 10, arg, fl, num, cyc⟩ = true) := by unfold Hid exB; simp [*]
      go_enter Tryd.func31, Tryd.ntmps31
      go_wp2
      go_ret
      exact ⟨by rw [HV.out]; rfl, (Below.refl _ _).alloc (Nat.le_refl _) _⟩
    have fmd10 : (((md : Nat) : Int) == 10) = false := by rw [beq_eq_false_iff_ne]; omega
    by_cases hmd6 : md = 6
    · subst hmd6
      have HV : Hid (exB ⟨1, op, 6, arg, fl, num, cyc⟩ = true) := by unfold Hid exB; simp [*]
      go_enter Tryd.func31, Tryd.ntmps31
      go_wp2
      go_ret
      exact ⟨by rw [HV.out]; rfl, (Below.refl _ _).alloc (Nat.le_refl _) _⟩
    have fmd6 : (((md : Nat) : Int) == 6) = false := by rw [beq_eq_false_iff_ne]; omega
    by_cases hmd7 : md = 7
    · subst hmd7
      have HV : Hid (exB ⟨1, op, 7, arg, fl, num, cyc⟩ = true) := by unfold Hid exB; simp [*]
      go_enter Tryd.func31, Tryd.ntmps31
      go_wp2
      go_ret
      exact ⟨by rw [HV.out]; rfl, (Below.refl _ _).alloc (Nat.le_refl _) _⟩
    have fmd7 : (((md : Nat) : Int) == 7) = false := by rw [beq_eq_false_iff_ne]; omega
    by_cases hmd8 : md = 8
    · subst hmd8
      by_cases ha : 8192 ≤ arg
      ·
        have HV : Hid (exB ⟨1, op, 8, arg, fl, num, cyc⟩ = true) := by unfold Hid exB; simp [*]
        go_enter Tryd.func31, Tryd.ntmps31
        go_wp2
        go_ret
        exact ⟨by rw [HV.out]; rfl, (Below.refl _ _).alloc (Nat.le_refl _) _⟩
      · have ha2 : ¬ 8192 ≤ arg := ha
        have HV : Hid (exB ⟨1, op, 8, arg, fl, num, cyc⟩ = false) := by unfold Hid exB; simp [*]
        go_enter Tryd.func31, Tryd.ntmps31
        go_wp2
        go_ret
        exact ⟨by rw [HV.out]; rfl, (Below.refl _ _).alloc (Nat.le_refl _) _⟩
    have fmd8 : (((md : Nat) : Int) == 8) = false := by rw [beq_eq_false_iff_ne]; omega
    have HV : Hid (exB ⟨1, op, md, arg, fl, num, cyc⟩ = false) := by unfold Hid exB; simp [*]
    go_enter Tryd.func31, Tryd.ntmps31
    go_wp2
    go_ret
    exact ⟨by rw [HV.out]; rfl, (Below.refl _ _).alloc (Nat.le_refl _) _⟩
  have fkd1 : (((kd : Nat) : Int) == 1) = false := by rw [beq_eq_false_iff_ne]; omega
  have HV : Hid (exB ⟨kd, op, md, arg, fl, num, cyc⟩ = false) := by unfold Hid exB; simp [*]
  go_enter Tryd.func31, Tryd.ntmps31
  go_wp2
  go_ret
  exact ⟨by rw [HV.out]; rfl, (Below.refl _ _).alloc (Nat.le_refl _) _⟩
end Go.Proofs.YtfdiplgjiidnbaaDoor
