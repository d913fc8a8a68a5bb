/-
  What the document's within, power, ram, memory, units, odd answer.
-/
import Derived.Test.YtmjolcdocoiaeaaDoorChkA
set_option linter.unusedSimpArgs false
set_option linter.unusedVariables false
namespace Go.Proofs.YtmjolcdocoiaeaaDoor
open Go.RowKit
theorem rwithin_any (n lo hi : Int) (w : World) :
    Calls Tryd.prog 30 #[.int .i64 n, .int .i64 lo, .int .i64 hi] w fun e w' => e = .returned (.bool (decide (lo ≤ n) && decide (n ≤ hi))) ∧ w' = w := by
  by_cases h1 : lo ≤ n
  · have H : Hid (decide (lo ≤ n) = true) := decide_eq_true h1
    go_enter Tryd.func30, Tryd.ntmps30
    go_wp2
    go_ret
    exact ⟨retBo (by rw [H.out]; rfl), rfl⟩
  · have H : Hid (decide (lo ≤ n) = false) := decide_eq_false h1
    go_enter Tryd.func30, Tryd.ntmps30
    go_wp2
    go_ret
    exact ⟨retBo (by rw [H.out]; rfl), rfl⟩
theorem retN {a b : Int} (h : a = b) : Ending.returned (.int .i64 a) = .returned (.int .i64 b) := by rw [h]
theorem power_any (k : Nat) (hk : k ≤ 15) (w : World) :
    Calls Tryd.prog 44 #[.int .i64 (k : Nat), .int .i64 64, .int .i64 1073741824] w fun e w' => e = .returned (.int .i64 ((64 * 2 ^ k : Nat) : Int)) ∧ w' = w := by
  have hb : ∀ i : Nat, i ≤ 15 → 64 * 2 ^ i ≤ 2097152 := by decide
  have HB : Hid _ := hb
  clear hb
  go_enter Tryd.func44, Tryd.ntmps44
  go_upto_region 3 with fail
  go_loop [7, 8] (fun n x => ∃ i : Nat, i ≤ k ∧ x = .int .i64 i ∧ n = .int .i64 ((64 * 2 ^ i : Nat) : Int)) (fun _ x => k - (intOf x).toNat)
  case atStart => exact ⟨0, by omega, rfl, rfl⟩
  case round =>
    obtain ⟨i, hi, rfl, rfl⟩ := hrel
    have h0 := HB.out i (by omega)
    by_cases hik : i < k
    · have h1 := HB.out (i + 1) (by omega)
      have HP : Hid (64 * 2 ^ (i + 1) = 64 * 2 ^ i * 2) := by unfold Hid; rw [Nat.pow_succ, Nat.mul_assoc]
      rw [HP.out] at h1
      generalize 64 * 2 ^ i = p at *
      go_wp2
      go_round
      case rel => exact ⟨i + 1, by omega, by go_num, by rw [HP.out]; go_num⟩
      case measure => simp [intOf]; omega
    · obtain rfl : i = k := by omega
      go_wp2
      go_ret
      exact ⟨rfl, rfl⟩
theorem rram_any (k : Nat) (hk : k ≤ 15) (w : World) :
    Calls Tryd.prog 35 #[.int .i64 (k : Nat)] w fun e w' => e = .returned (.int .i64 (ramV k : Nat)) ∧ w' = w := by
  have PC : Hid (Calls _ _ _ _ _) := power_any k hk w
  by_cases h0 : k = 0
  · have H : Hid (ramV k = 0) := by unfold Hid ramV; rw [if_pos h0]
    subst h0
    go_enter Tryd.func35, Tryd.ntmps35
    go_wp2
    go_ret
    exact ⟨by rw [H.out]; rfl, rfl⟩
  · have H : Hid (ramV k = 64 * 2 ^ k) := by unfold Hid ramV; rw [if_neg h0]
    have h0' : ((k : Int) == 0) = false := by rw [beq_eq_false_iff_ne]; omega
    go_enter Tryd.func35, Tryd.ntmps35
    go_wp2_with (go_at_call 44; go_must (refine PC.out.mono ?_; rintro e w1 ⟨rfl, hw1⟩; obtain rfl := hw1.symm))
    go_ret
    exact ⟨by rw [H.out]; rfl, rfl⟩
theorem memory_any (n : Int) (w : World) :
    Calls Tryd.prog 31 #[.int .i64 n] w fun e w' => e = .returned (.bool (Chk.ramOk n)) ∧ w' = w := by
  have RC : Hid (∀ k : Nat, k ≤ 15 → Calls _ _ _ _ _) := fun k hk => rram_any k hk w
  have HI : Hid _ := ramOk_iff n
  go_enter Tryd.func31, Tryd.ntmps31
  go_upto_region 2 with fail
  go_loop [3] (fun x => ∃ i : Nat, i ≤ 16 ∧ x = .int .i64 i ∧ Hid (∀ j : Nat, j < i → n ≠ (ramV j : Nat))) (fun x => 16 - (intOf x).toNat)
  case atStart => exact ⟨0, by omega, rfl, fun j hj => absurd hj (Nat.not_lt_zero _)⟩
  case round =>
    obtain ⟨i, hi, rfl, hA⟩ := hrel
    by_cases h16 : i ≤ 15
    · have rc := RC.out i h16
      have HR : Hid (Calls _ _ _ _ _) := rc
      clear rc
      by_cases he : (ramV i : Int) = n
      · have HT : Hid (Chk.ramOk n = true) := HI.out.2 ⟨i, by omega, he.symm⟩
        have he' : ((ramV i : Int) == n) = true := by rw [beq_iff_eq]; exact he
        generalize ramV i = r at *
        clear he
        go_wp2_with (go_at_call 35; go_must (refine HR.out.mono ?_; rintro e w1 ⟨rfl, hw1⟩; obtain rfl := hw1.symm))
        go_ret
        exact ⟨by rw [HT.out]; rfl, rfl⟩
      · have HE : Hid (n ≠ (ramV i : Nat)) := fun h => he h.symm
        have he' : ((ramV i : Int) == n) = false := by rw [beq_eq_false_iff_ne]; exact he
        generalize ramV i = r at HR he'
        clear he
        go_wp2_with (go_at_call 35; go_must (refine HR.out.mono ?_; rintro e w1 ⟨rfl, hw1⟩; obtain rfl := hw1.symm))
        go_round
        case rel => exact ⟨i + 1, by omega, by go_num, fun j hj => (Nat.lt_succ_iff_lt_or_eq.1 hj).elim (fun h => hA.out j h) (fun h => by rw [h]; exact HE.out)⟩
        case measure => simp [intOf]; omega
    · obtain rfl : i = 16 := by omega
      have HF : Hid (Chk.ramOk n = false) := by
        unfold Hid
        rw [Bool.eq_false_iff]
        intro h
        obtain ⟨k, hk, e⟩ := HI.out.1 h
        exact hA.out k hk e
      go_wp2
      go_ret
      exact ⟨by rw [HF.out]; rfl, rfl⟩
/-- The document's units. -/
def unOk (n unit lo hi : Int) : Bool := decide (0 ≤ n) && decide (n % unit = 0) && decide (lo ≤ n / unit) && decide (n / unit ≤ hi)
set_option maxRecDepth 100000 in
theorem units_any (n unit lo hi : Int) (hu : unit = 16384 ∨ unit = 8192) (h1 : -9223372036854775808 ≤ n) (h2 : n ≤ 9223372036854775807) (w : World) :
    Calls Tryd.prog 32 #[.int .i64 n, .int .i64 unit, .int .i64 lo, .int .i64 hi] w fun e w' => e = .returned (.bool (unOk n unit lo hi)) ∧ w' = w := by
  have HU : Hid (unOk n unit lo hi = (decide (0 ≤ n) && decide (n % unit = 0) && decide (lo ≤ n / unit) && decide (n / unit ≤ hi))) := rfl
  by_cases h0 : 0 ≤ n
  · rw [decide_eq_true h0] at HU
    have h0' : decide (0 ≤ n) = true := decide_eq_true h0
    rcases hu with rfl | rfl
    · by_cases hm : n % 16384 = 0
      · rw [decide_eq_true hm] at HU
        have hd0 : 0 ≤ n / 16384 := by omega
        have hd1 : n / 16384 ≤ 9223372036854775807 := by omega
        have HX : Hid ((n % 16384 == 0) = true) := by unfold Hid; rw [beq_iff_eq]; exact hm
        by_cases hl : lo ≤ n / 16384
        · rw [decide_eq_true hl] at HU
          have hl' : decide (lo ≤ n / 16384) = true := decide_eq_true hl
          go_enter Tryd.func32, Tryd.ntmps32
          go_wp2
          go_ret
          exact ⟨retBo (by rw [HU.out]; first | rfl | simp [HX.out]), rfl⟩
        · rw [decide_eq_false hl] at HU
          have hl' : decide (lo ≤ n / 16384) = false := decide_eq_false hl
          go_enter Tryd.func32, Tryd.ntmps32
          go_wp2
          go_ret
          exact ⟨retBo (by rw [HU.out]; first | rfl | simp [HX.out]), rfl⟩
      · rw [decide_eq_false hm] at HU
        have HX : Hid ((n % 16384 == 0) = false) := by unfold Hid; rw [beq_eq_false_iff_ne]; exact hm
        go_enter Tryd.func32, Tryd.ntmps32
        go_wp2
        go_ret
        exact ⟨retBo (by rw [HU.out]; first | rfl | simp [HX.out]), rfl⟩
    · by_cases hm : n % 8192 = 0
      · rw [decide_eq_true hm] at HU
        have hd0 : 0 ≤ n / 8192 := by omega
        have hd1 : n / 8192 ≤ 9223372036854775807 := by omega
        have HX : Hid ((n % 8192 == 0) = true) := by unfold Hid; rw [beq_iff_eq]; exact hm
        by_cases hl : lo ≤ n / 8192
        · rw [decide_eq_true hl] at HU
          have hl' : decide (lo ≤ n / 8192) = true := decide_eq_true hl
          go_enter Tryd.func32, Tryd.ntmps32
          go_wp2
          go_ret
          exact ⟨retBo (by rw [HU.out]; first | rfl | simp [HX.out]), rfl⟩
        · rw [decide_eq_false hl] at HU
          have hl' : decide (lo ≤ n / 8192) = false := decide_eq_false hl
          go_enter Tryd.func32, Tryd.ntmps32
          go_wp2
          go_ret
          exact ⟨retBo (by rw [HU.out]; first | rfl | simp [HX.out]), rfl⟩
      · rw [decide_eq_false hm] at HU
        have HX : Hid ((n % 8192 == 0) = false) := by unfold Hid; rw [beq_eq_false_iff_ne]; exact hm
        go_enter Tryd.func32, Tryd.ntmps32
        go_wp2
        go_ret
        exact ⟨retBo (by rw [HU.out]; first | rfl | simp [HX.out]), rfl⟩
  · rw [decide_eq_false h0] at HU
    clear hu
    go_enter Tryd.func32, Tryd.ntmps32
    go_wp2
    go_ret
    exact ⟨by rw [HU.out]; rfl, rfl⟩
theorem odd_eq (n : Nat) (hn : 0 < n) : ∀ f : Nat, n ≤ 2 ^ f → Chk.oddPart f n = if n % 2 = 0 then Chk.oddPart f (n / 2) else n := by
  intro f
  induction f generalizing n with
  | zero =>
    intro h
    have : n = 1 := by simp at h; omega
    subst this
    rfl
  | succ f ih =>
    intro h
    rw [Chk.oddPart]
    by_cases h2 : n % 2 = 0
    · rw [if_pos h2, if_pos h2]
      have h3 : n / 2 ≤ 2 ^ f := by rw [Nat.pow_succ] at h; omega
      rw [Chk.oddPart, ih (n / 2) (by omega) h3]
    · rw [if_neg h2, if_neg h2]
theorem rodd_any (n0 : Nat) (hn : n0 ≤ 9223372036854775807) (w : World) :
    Calls Tryd.prog 33 #[.int .i64 (n0 : Nat)] w fun e w' => e = .returned (.bool (decide (0 < n0) && decide (Chk.oddPart 64 n0 ≤ 7))) ∧ w' = w := by
  by_cases h0 : 0 < n0
  · have H : Hid (decide (0 < n0) = true) := decide_eq_true h0
    have h0' : ¬ (n0 : Int) < 1 := by omega
    go_enter Tryd.func33, Tryd.ntmps33
    go_upto_region 3 with fail
    go_loop [0] (fun x => ∃ n : Nat, 0 < n ∧ n ≤ n0 ∧ x = .int .i64 n ∧ Hid (Chk.oddPart 64 n0 = Chk.oddPart 64 n)) (fun x => (intOf x).toNat)
    case atStart => exact ⟨n0, h0, Nat.le_refl _, rfl, rfl⟩
    case round =>
      obtain ⟨n, hp, hle, rfl, hE⟩ := hrel
      have HO : Hid (Chk.oddPart 64 n = if n % 2 = 0 then Chk.oddPart 64 (n / 2) else n) := odd_eq n hp 64 (by omega)
      by_cases h2 : n % 2 = 0
      · have h2' : (n : Int) % 2 = 0 := by omega
        rw [if_pos h2] at HO
        clear h2
        go_wp2
        go_round
        case rel => exact ⟨n / 2, by omega, by omega, by go_num, hE.out.trans HO.out⟩
        case measure => simp [intOf]; omega
      · have h2' : ¬ (n : Int) % 2 = 0 := by omega
        rw [if_neg h2] at HO
        have HQ : Hid (decide ((n : Int) ≤ 7) = decide (n ≤ 7)) := by unfold Hid; rw [decide_eq_decide]; omega
        clear h2
        go_wp2
        go_ret
        exact ⟨retBo (by rw [hE.out, HO.out, HQ.out]), rfl⟩
  · have H : Hid (decide (0 < n0) = false) := decide_eq_false h0
    obtain rfl : n0 = 0 := by omega
    go_enter Tryd.func33, Tryd.ntmps33
    go_wp2
    go_ret
    exact ⟨by rw [H.out]; rfl, rfl⟩
end Go.Proofs.YtmjolcdocoiaeaaDoor
