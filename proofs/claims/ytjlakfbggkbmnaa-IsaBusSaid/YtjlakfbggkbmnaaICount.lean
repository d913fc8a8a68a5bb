/-
  What count and moved of the law answer; conditions: the list lies in memory.
-/
import Derived.Test.YtjlakfbggkbmnaaIBusP
import Derived.Test.YtjlakfbggkbmnaaIAlike0
set_option linter.unusedSimpArgs false
set_option linter.unusedVariables false
namespace Go.Proofs.Ytjlakfbggkbmnaa
open Go.RowKit
theorem cnt_snoc (l : List Nat) (j : Nat) (hj : j < l.length) (a : Nat) : cnt (l.take (j + 1)) a = cnt (l.take j) a + (if l.getD j 0 = a then 1 else 0) := by
  unfold cnt
  rw [List.take_succ_eq_append_getElem hj, List.count_append]
  simp [List.count_singleton, List.getD, hj]
theorem cnt_le (l : List Nat) (j a : Nat) : cnt (l.take j) a ≤ j := Nat.le_trans List.count_le_length (by simp; omega)
set_option maxRecDepth 100000 in
theorem count_any (l : List Nat) (hl : l.length ≤ 100) (g c a : Nat) (w : World) (hc : Cel w g l) :
    Calls Try.prog 6 #[.slice (some ⟨g, 0, none⟩) l.length c, .int .i64 (a : Nat)] w fun e w' => e = .returned (.int .i64 (cnt l a : Nat)) ∧ w' = w := by
  go_enter Try.func6, Try.ntmps6
  go_wp2
  go_loop [5, 6] (fun n i => ∃ j : Nat, j ≤ l.length ∧ i = .int .i64 j ∧ n = .int .i64 (cnt (l.take j) a : Nat)) (fun _ i => l.length - (intOf i).toNat)
  case atStart => exact ⟨0, by omega, rfl, rfl⟩
  case round =>
    obtain ⟨j, hj, rfl, rfl⟩ := hrel
    have hle := cnt_le l j a
    by_cases hjl : j = l.length
    · subst hjl
      rw [List.take_of_length_le (Nat.le_refl _)]
      go_wp2
      go_ret
      exact ⟨rfl, rfl⟩
    · have hlt : (j : Int) < l.length := by omega
      have hcj := hc j (by omega)
      have HS := Hid.mk3 (cnt_snoc l j (by omega) a)
      by_cases he : l.getD j 0 = a
      · have E : Hid (cnt (l.take (j + 1)) a = cnt (l.take j) a + 1) := by unfold Hid; rw [HS.out, if_pos he]
        rw [he] at hcj
        clear HS he
        go_wp2
        go_round
        case rel => exact ⟨j + 1, by omega, by go_num, by rw [E.out]; go_num⟩
        case measure => simp [intOf]; omega
      · have E : Hid (cnt (l.take (j + 1)) a = cnt (l.take j) a) := by unfold Hid; rw [HS.out, if_neg he]; rfl
        have he' : (((l.getD j 0 : Nat) : Int) == (a : Int)) = false := by rw [beq_eq_false_iff_ne]; omega
        generalize l.getD j 0 = x at *
        clear HS he
        go_wp2
        go_round
        case rel => exact ⟨j + 1, by omega, by go_num, by rw [E.out]⟩
        case measure => simp [intOf]; omega
theorem retI {a b : Int} (h : a = b) : Ending.returned (.int .i64 a) = .returned (.int .i64 b) := by rw [h]
theorem moved_any (o m kd ln cy cl : Nat) (w : World) :
    Calls Try.prog 7 #[.agg #[.int .i64 (o : Nat), .int .i64 (m : Nat), .int .i64 (kd : Nat), .int .i64 (ln : Nat), .int .i64 (cy : Nat), .int .i64 (cl : Nat)]] w fun e w' => e = .returned (.int .i64 (mvN o : Nat)) ∧ Below w.heap.size w w' := by
  go_enter Try.func7, Try.ntmps7
  go_wp2
  all_goals
    go_ret
    refine ⟨retI ?_, (Below.refl _ _).alloc (Nat.le_refl _) _⟩
    go_light
    unfold mvN
    simp only [beq_iff_eq, beq_eq_false_iff_ne] at *
    repeat' split
    all_goals omega
end Go.Proofs.Ytjlakfbggkbmnaa
