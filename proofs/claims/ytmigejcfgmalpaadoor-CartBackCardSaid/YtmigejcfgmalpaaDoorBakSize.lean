/-
  What the functions memory and size answer: lengths that NES 2.0 can tell; conditions: the numbers are ints.
-/
import Derived.Test.YtmigejcfgmalpaaDoorBakSpec
import Derived.Test.YtmigejcfgmalpaaDoorSpan
import Derived.BigQuiet
set_option linter.unusedSimpArgs false
set_option linter.unusedVariables false
namespace Go.Proofs.YtmigejcfgmalpaaDoor
open Go.RowKit
theorem pow_small : ∀ k : Nat, k ≤ 15 → (2 : Int) ^ k ≤ 32768 ∧ 1 ≤ (2 : Int) ^ k := by decide
theorem lmemory_any (n : Int) (w : World) (h1 : -9223372036854775808 ≤ n) (h2 : n ≤ 9223372036854775807) :
    Calls Tryd.prog 29 #[.int .i64 n] w fun e w' => ∃ k : Nat, k ≤ 15 ∧ e = .returned (.int .i64 (if k = 0 then 0 else 64 * 2 ^ k : Nat)) ∧ w' = w := by
  have hb := spanV_bd n 0 15 (by omega)
  go_enter Tryd.func29, Tryd.ntmps29
  go_wp2_with fail
  refine (span_any n 0 15 w h1 h2 (by omega) (by omega) (by omega)).mono ?_
  rintro e w ⟨rfl, rfl⟩
  generalize spanV n 0 15 = k at *
  obtain ⟨k, rfl⟩ := Int.eq_ofNat_of_zero_le hb.1
  have hk : k ≤ 15 := by omega
  by_cases h0 : k = 0
  · subst h0
    go_wp2
    go_ret
    exact ⟨0, by omega, rfl, rfl⟩
  · have h0' : ((k : Int) == 0) = false := by simp [h0]
    have hp := pow_small k hk
    have H : Hid (wrap64 (64 * 2 ^ k) = ((64 * 2 ^ k : Nat) : Int)) := by
      unfold Hid
      rw [IntWalk.wrap64_in _ ⟨by omega, by omega⟩]
      simp
    clear hp
    go_wp2
    go_ret
    exact ⟨k, hk, by rw [if_neg h0]; exact congrArg (fun n => Ending.returned (.int .i64 n)) H.out, rfl⟩

theorem tdiv_bd (n k : Int) (hk : 0 < k) (h1 : -9223372036854775808 ≤ n) (h2 : n ≤ 9223372036854775807) : -9223372036854775808 ≤ n.tdiv k ∧ n.tdiv k ≤ 9223372036854775807 := by
  rcases Int.le_total 0 n with h | h
  · have e := IntWalk.tdiv_le n k h (by omega)
    rw [Int.tdiv_eq_ediv_of_nonneg h]
    omega
  · obtain ⟨m, rfl⟩ : ∃ m, n = -m := ⟨-n, by omega⟩
    have e := IntWalk.tdiv_le m k (by omega) (by omega)
    rw [Int.neg_tdiv, Int.tdiv_eq_ediv_of_nonneg (by omega)]
    omega
set_option maxHeartbeats 400000 in
theorem size_sz (n : Int) (unit bound : Nat) (w : World) (h1 : -9223372036854775808 ≤ n) (h2 : n ≤ 9223372036854775807) (hu1 : 1 ≤ unit) (hu2 : unit ≤ 16384) (hb1 : 7 ≤ bound) (hb2 : bound ≤ 65536) :
    Calls Tryd.prog 30 #[.int .i64 n, .int .i64 unit, .int .i64 bound] w fun e w' => ∃ k : Nat, Sz unit k ∧ e = .returned (.int .i64 k) ∧ w' = w := by
  have d2 := tdiv_bd n 2 (by decide) h1 h2
  have d16 := tdiv_bd n 16 (by decide) h1 h2
  by_cases hpar : n.tmod 2 = 0
  · have hpar' : (n.tmod 2 == 0) = true := by simp [hpar]
    go_enter Tryd.func30, Tryd.ntmps30
    go_wp2_with fail
    have hs := spanV_bd (n.tdiv 2) 1 3 (by omega)
    refine (span_any (n.tdiv 2) 1 3 w d2.1 d2.2 (by omega) (by omega) (by omega)).mono ?_
    rintro e w ⟨rfl, rfl⟩
    generalize spanV (n.tdiv 2) 1 3 = sp at *
    rcases (show sp = 1 ∨ sp = 2 ∨ sp = 3 by omega) with rfl | rfl | rfl
    · go_wp2
      go_ret
      exact ⟨unit, ⟨by omega, by omega, .inl (by simp)⟩, by go_num, rfl⟩
    · go_wp2
      go_ret
      exact ⟨2 * unit, ⟨by omega, by omega, .inl (by simp)⟩, by go_num, rfl⟩
    · go_wp2
      go_ret
      exact ⟨3 * unit, ⟨by omega, by omega, .inl (by simp)⟩, by go_num, rfl⟩
  · have hpar' : (n.tmod 2 == 0) = false := by simp [hpar]
    go_enter Tryd.func30, Tryd.ntmps30
    go_wp2_with fail
    have hs := spanV_bd (n.tdiv 2) 0 3 (by omega)
    refine (span_any (n.tdiv 2) 0 3 w d2.1 d2.2 (by omega) (by omega) (by omega)).mono ?_
    rintro e w ⟨rfl, rfl⟩
    generalize spanV (n.tdiv 2) 0 3 = sp at *
    obtain ⟨sp, rfl⟩ := Int.eq_ofNat_of_zero_le hs.1
    go_wp2_with fail
    have hs2 := spanV_bd (n.tdiv 16) 0 15 (by omega)
    refine (span_any (n.tdiv 16) 0 15 w d16.1 d16.2 (by omega) (by omega) (by omega)).mono ?_
    rintro e w ⟨rfl, rfl⟩
    generalize spanV (n.tdiv 16) 0 15 = st at *
    obtain ⟨st, rfl⟩ := Int.eq_ofNat_of_zero_le hs2.1
    have HSP : Hid (sp ≤ 3) := by unfold Hid; omega
    go_wp2
    go_loop [7, 8] (fun x i => ∃ k j e : Nat, k = (1 + 2 * sp) * 2 ^ e ∧ e + j ≤ 15 ∧ 1 ≤ k ∧ k ≤ 65536 ∧ j ≤ 15 ∧ x = .int .i64 k ∧ i = .int .i64 j) (fun _ i => (intOf i).toNat)
    case atStart => exact ⟨1 + 2 * sp, st, 0, by simp, by omega, by omega, by omega, by omega, by go_num, rfl⟩
    case round =>
      obtain ⟨k, j, e, hke, hej, hk1, hk2, hj, rfl, rfl⟩ := hrel
      have HK : Hid (k = (1 + 2 * sp) * 2 ^ e) := hke
      clear hke
      by_cases hj0 : 0 < j
      · have hj0' : decide ((0 : Int) < (j : Int)) = true := by simp; omega
        by_cases hkb : k * 2 ≤ bound
        · have hkb' : decide ((k : Int) * 2 ≤ (bound : Int)) = true := by simp; omega
          go_wp2
          go_round
          case rel => exact ⟨k * 2, j - 1, e + 1, by rw [HK.out, Nat.pow_succ, Nat.mul_assoc], by omega, by omega, by omega, by omega, by go_num, by go_num⟩
          case measure => simp [intOf]; omega
        · have hkb' : decide ((k : Int) * 2 ≤ (bound : Int)) = false := by simp; omega
          go_wp2
          go_ret
          exact ⟨k, ⟨hk1, hk2, .inr (by rw [HK.out]; exact odd_small sp HSP.out e (by omega))⟩, rfl, rfl⟩
      · have hj0' : decide ((0 : Int) < (j : Int)) = false := by simp; omega
        go_wp2
        go_ret
        exact ⟨k, ⟨hk1, hk2, .inr (by rw [HK.out]; exact odd_small sp HSP.out e (by omega))⟩, rfl, rfl⟩
theorem size_prg (n : Int) (w : World) (h1 : -9223372036854775808 ≤ n) (h2 : n ≤ 9223372036854775807) :
    Calls Tryd.prog 30 #[.int .i64 n, .int .i64 16384, .int .i64 65536] w fun e w' => ∃ k : Nat, Sz 16384 k ∧ e = .returned (.int .i64 k) ∧ w' = w := size_sz n 16384 65536 w h1 h2 (by decide) (by decide) (by decide) (by decide)
theorem size_chr (n : Int) (w : World) (h1 : -9223372036854775808 ≤ n) (h2 : n ≤ 9223372036854775807) :
    Calls Tryd.prog 30 #[.int .i64 n, .int .i64 8192, .int .i64 32768] w fun e w' => ∃ k : Nat, Sz 8192 k ∧ e = .returned (.int .i64 k) ∧ w' = w := size_sz n 8192 32768 w h1 h2 (by decide) (by decide) (by decide) (by decide)
theorem memory_mm (n : Int) (w : World) (h1 : -9223372036854775808 ≤ n) (h2 : n ≤ 9223372036854775807) :
    Calls Tryd.prog 29 #[.int .i64 n] w fun e w' => ∃ v : Int, Mm v ∧ e = .returned (.int .i64 v) ∧ w' = w := by
  refine (lmemory_any n w h1 h2).mono ?_
  rintro e w' ⟨k, hk, rfl, rfl⟩
  exact ⟨_, ⟨k, hk, rfl⟩, rfl, rfl⟩
end Go.Proofs.YtmigejcfgmalpaaDoor
