/-
  What the small functions of the check answer that take plain numbers: within, greatestKind, ramSize, ramMayBe; conditions: the bounds that are named.
-/
import Derived.Test.YtpdbndkckioamaaDoorRows
import Derived.Test.YtpdbndkckioamaaDoorChkSpec
import Derived.WalkKit
import Derived.WalkSpells
import Derived.WalkLawsBesides
set_option linter.unusedSimpArgs false
set_option linter.unusedVariables false
namespace Go.Proofs.YtpdbndkckioamaaDoor
open Go.RowKit
theorem within_any (n hi : Int) (w : World) :
    Calls Tryd.prog 50 #[.int .i64 n, .int .i64 hi] w fun e w' => e = .returned (.bool (Chk.within n hi)) ∧ w' = w := by
  unfold Chk.within
  by_cases h1 : 0 ≤ n
  · have d1 : decide (0 ≤ n) = true := decide_eq_true h1
    by_cases h2 : n ≤ hi
    · have d2 : decide (n ≤ hi) = true := decide_eq_true h2
      go_enter Tryd.func50, Tryd.ntmps50
      go_wp2
      go_ret
      exact ⟨by simp [h1, h2], rfl⟩
    · have d2 : decide (n ≤ hi) = false := decide_eq_false h2
      go_enter Tryd.func50, Tryd.ntmps50
      go_wp2
      go_ret
      exact ⟨by simp [h2], rfl⟩
  · have d1 : decide (0 ≤ n) = false := decide_eq_false h1
    go_enter Tryd.func50, Tryd.ntmps50
    go_wp2
    go_ret
    exact ⟨by simp [h1], rfl⟩
theorem greatestKind_any (con : Int) (w : World) :
    Calls Tryd.prog 80 #[.int .i64 con] w fun e w' => e = .returned (.int .i64 (Chk.kindTop con)) ∧ w' = w := by
  unfold Chk.kindTop
  by_cases h1 : con = 1
  · subst h1
    go_enter Tryd.func80, Tryd.ntmps80
    go_wp2
    go_ret
    exact ⟨rfl, rfl⟩
  · have d1 : (con == 1) = false := by simp [h1]
    by_cases h3 : con = 3
    · subst h3
      go_enter Tryd.func80, Tryd.ntmps80
      go_wp2
      go_ret
      exact ⟨rfl, rfl⟩
    · have d3 : (con == 3) = false := by simp [h3]
      go_enter Tryd.func80, Tryd.ntmps80
      go_wp2
      go_ret
      exact ⟨rfl, rfl⟩
/-- The bytes of a memory that four bits tell. -/
def ramV (k : Nat) : Nat := if k = 0 then 0 else 64 * 2 ^ k
theorem ramV_le : ∀ k : Nat, k ≤ 15 → ramV k ≤ 2097152 := by decide
theorem ramSize_any (k : Nat) (hk : k ≤ 15) (w : World) :
    Calls Tryd.prog 81 #[.int .u8 k] w fun e w' => e = .returned (.int .i64 (ramV k : Nat)) ∧ w' = w := by
  by_cases h0 : k = 0
  · subst h0
    go_enter Tryd.func81, Tryd.ntmps81
    go_wp2
    go_ret
    exact ⟨rfl, rfl⟩
  · have h0' : ((k : Int) == 0) = false := by simp [h0]
    have hb := ramV_le k hk
    have e : (ramV k : Int) = 64 * 2 ^ k := by unfold ramV; rw [if_neg h0]; simp
    have H : Hid (wrap64 (64 * 2 ^ k) = (ramV k : Nat)) := by
      unfold Hid
      rw [← e, IntWalk.wrap64_in _ ⟨by omega, by omega⟩]
    clear e hb
    go_enter Tryd.func81, Tryd.ntmps81
    go_wp2
    go_ret
    exact ⟨congrArg (fun n => Ending.returned (.int .i64 n)) H.out, rfl⟩
theorem ramOk_iff (n : Int) : Chk.ramOk n = true ↔ ∃ k, k < 16 ∧ n = (ramV k : Nat) := by
  unfold Chk.ramOk
  rw [List.any_eq_true]
  constructor
  · rintro ⟨k, hk, h⟩
    refine ⟨k, by simpa using hk, ?_⟩
    have h := of_decide_eq_true h
    rw [h]; unfold ramV
    split <;> simp_all
  · rintro ⟨k, hk, h⟩
    refine ⟨k, by simpa using hk, decide_eq_true ?_⟩
    rw [h]; unfold ramV
    split <;> simp_all
set_option maxHeartbeats 400000 in
theorem ramMayBe_any (n : Int) (w : World) :
    Calls Tryd.prog 83 #[.int .i64 n] w fun e w' => e = .returned (.bool (Chk.ramOk n)) ∧ w' = w := by
  go_enter Tryd.func83, Tryd.ntmps83
  go_wp2
  go_loop [4] (fun i => ∃ k : Nat, k ≤ 16 ∧ i = .int .u8 k ∧ Hid (∀ j, j < k → n ≠ (ramV j : Nat))) (fun i => 16 - (intOf i).toNat)
  case atStart => exact ⟨0, by omega, rfl, fun j hj => absurd hj (by omega)⟩
  case round =>
    obtain ⟨k, hk, rfl, hno⟩ := hrel
    by_cases hlt : k < 16
    · have hki : decide ((k : Int) < 16) = true := decide_eq_true (by omega)
      have hki' : (k : Int) < 16 := by omega
      go_wp2_with fail
      refine (ramSize_any k (by omega) w).mono ?_
      rintro e w ⟨rfl, rfl⟩
      by_cases heq : n = (ramV k : Nat)
      · have H : Hid (Chk.ramOk n = true) := (ramOk_iff n).2 ⟨k, hlt, heq⟩
        have hq : (((ramV k : Nat) : Int) == n) = true := by simp [heq]
        clear heq
        generalize ramV k = r at *
        go_wp2
        go_ret
        exact ⟨by rw [H.out]; rfl, rfl⟩
      · have hq : (((ramV k : Nat) : Int) == n) = false := by rw [beq_eq_false_iff_ne]; exact fun h => heq h.symm
        have hno' : Hid (∀ j, j < k + 1 → n ≠ (ramV j : Nat)) := fun j hj => by
          rcases Nat.lt_succ_iff_lt_or_eq.1 hj with h | rfl
          · exact hno.out j h
          · exact heq
        clear heq
        generalize ramV k = r at *
        go_wp2
        go_round
        case rel => exact ⟨k + 1, by omega, by go_num, hno'⟩
        case measure => simp [intOf]; omega
    · have H : Hid (Chk.ramOk n = false) := by
        cases h : Chk.ramOk n with
        | false => rfl
        | true =>
          obtain ⟨j, hj, e⟩ := (ramOk_iff n).1 h
          exact absurd e (hno.out j (by omega))
      have hki : ¬ (k : Int) < 16 := by omega
      go_wp2
      go_ret
      exact ⟨by rw [H.out]; rfl, rfl⟩
end Go.Proofs.YtpdbndkckioamaaDoor
