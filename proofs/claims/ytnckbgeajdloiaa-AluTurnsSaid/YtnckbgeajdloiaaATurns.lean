/-
  The law AluTurns returns true for every two bytes: nine turns by the contract of Shift.
-/
import Derived.Test.YtnckbgeajdloiaaADec
namespace Go.Proofs.Ytnckbgeajdloiaa
open Go.RowKit
/-- The byte and C behind k turns to the left. -/
def turn : Nat → Int → Bool → Int × Bool
  | 0, r, c => (r, c)
  | k + 1, r, c => turn k (r * 2 % 256 + ci c) (decide (128 ≤ r))
theorem turn_succ (k : Nat) (r : Int) (c : Bool) : turn (k + 1) r c = ((turn k r c).1 * 2 % 256 + ci (turn k r c).2, decide (128 ≤ (turn k r c).1)) := by
  induction k generalizing r c with
  | zero => rfl
  | succ k ih => exact ih _ _
theorem turn_bd (k : Nat) (r : Int) (c : Bool) (h0 : 0 ≤ r) (h1 : r ≤ 255) : 0 ≤ (turn k r c).1 ∧ (turn k r c).1 ≤ 255 := by
  induction k generalizing r c with
  | zero => exact ⟨h0, h1⟩
  | succ k ih => exact ih _ _ (by have := ci_bd c; omega) (by have := ci_bd c; omega)
theorem turn_bits (m : Nat) (h : m < 256) (c : Bool) : (∀ k : Nat, k < 8 → decide (128 ≤ (turn k (m : Int) c).1) = decide (m / 2 ^ (7 - k) % 2 = 1)) ∧ turn 9 (m : Int) c = ((m : Int), c) := by
  revert m c
  decide +kernel
set_option maxHeartbeats 2000000 in
theorem law_aluTurns (a0 a1 : Int) (w0 : (Lit.int .u8 a0).wf = true) (w1 : (Lit.int .u8 a1).wf = true) (w : World) :
    Calls Try.prog 3 #[.int .u8 a0, .int .u8 a1] w fun e w' => e = .returned (.bool true) ∧ Grown w w' := by
  obtain ⟨m0, m1⟩ := wf8 w0
  obtain ⟨F, rfl⟩ := Fl.ofInt a1 (wf8 w1).1 (wf8 w1).2
  clear w0 w1
  obtain ⟨m, rfl⟩ := Int.eq_ofNat_of_zero_le m0
  have TB : Hid _ := turn_bits m (by omega) F.c
  have gc := gt_c
  have gz := gt_z
  have gn := gt_n
  go_enter Try.func3, Try.ntmps3
  go_wp2
  go_loop [5, 6, 7] (fun r q i => ∃ (k : Nat) (G : Fl), k ≤ 9 ∧ i = .int .i64 k ∧ r = .int .u8 (turn k (m : Int) F.c).1 ∧ q = .int .u8 (G.val : Nat) ∧ G.c = (turn k (m : Int) F.c).2) (fun _ _ i => 9 - (intOf i).toNat)
  case atStart => exact ⟨0, F, by omega, rfl, rfl, rfl, rfl⟩
  case round =>
    obtain ⟨k, G, hk, rfl, rfl, rfl, hG⟩ := hrel
    have hb := turn_bd k (m : Int) F.c m0 m1
    have HT : Hid _ := turn_succ k (m : Int) F.c
    have H8 : Hid (k < 8 → decide (128 ≤ (turn k (m : Int) F.c).1) = decide (m / 2 ^ (7 - k) % 2 = 1)) := TB.out.1 k
    have H9 : Hid (k = 9 → (turn k (m : Int) F.c).1 = m ∧ (turn k (m : Int) F.c).2 = F.c) := by
      intro h
      subst h
      rw [TB.out.2]
      exact ⟨rfl, rfl⟩
    clear TB
    generalize (turn k (m : Int) F.c).1 = R at *
    generalize (turn k (m : Int) F.c).2 = gk at *
    obtain ⟨b0, b1⟩ := hb
    by_cases h9 : k = 9
    · obtain ⟨rfl, rfl⟩ := H9.out h9
      subst h9
      clear H8 H9 HT
      go_wp2_with (go_at_call 10; refine (has_any _ _ _).mono ?_; rintro e w' ⟨rfl, rfl⟩)
      go_ret
      exact ⟨rfl, Grown.refl _⟩
    · have bS : 0 ≤ shV 39 R gk ∧ shV 39 R gk ≤ 255 := by have := ci_bd gk; show 0 ≤ R * 2 % 256 + ci gk ∧ R * 2 % 256 + ci gk ≤ 255; omega
      have HS0 : Hid (shV 39 R gk = R * 2 % 256 + ci gk) := rfl
      have hTz : (shF 39 R G).z = (shV 39 R gk == 0) := by rw [← hG]; rfl
      have hTn : (shF 39 R G).n = decide (128 ≤ shV 39 R gk) := by rw [← hG]; rfl
      have hT0 : (shF 39 R G).c = decide (128 ≤ R) := rfl
      have hs1 : gt (shV 39 R gk) 1 = gk := by
        rw [gt_1 _ bS.1 bS.2, HS0.out]
        cases gk
        · exact decide_eq_false (by rw [show ci false = 0 from rfl]; omega)
        · exact decide_eq_true (by rw [show ci true = 1 from rfl]; omega)
      generalize hS : shV 39 R gk = S at *
      generalize hT : shF 39 R G = T at *
      have hU : shV 40 S T.c = R := by
        show S / 2 + 128 * ci T.c = R
        have := ci_bd gk
        rw [hT0, HS0.out]
        by_cases h : 128 ≤ R
        · rw [decide_eq_true h, show ci true = 1 from rfl]; omega
        · rw [decide_eq_false h, show ci false = 0 from rfl]; omega
      have hVc : (shF 40 S T).c = gk := by
        show (S % 2 == 1) = gk
        rw [HS0.out]
        cases gk
        · rw [show ci false = 0 from rfl, beq_eq_false_iff_ne]; omega
        · rw [show ci true = 1 from rfl, beq_iff_eq]; omega
      have HS : Hid (R * 2 % 256 + ci gk = S) := HS0.out.symm
      clear HS0
      obtain ⟨s0, s1⟩ := bS
      have hk' : k = 0 ∨ k = 1 ∨ k = 2 ∨ k = 3 ∨ k = 4 ∨ k = 5 ∨ k = 6 ∨ k = 7 ∨ k = 8 := by omega
      rcases hk' with rfl | rfl | rfl | rfl | rfl | rfl | rfl | rfl | rfl
      · have hTc : T.c = ((m : Int) / 128 % 2 == 1) := by
          rw [hT0, H8.out (by decide), Bool.eq_iff_iff]; simp; omega
        have hm := u8_and1 ((m : Int) / 128) (by omega) (by omega)
        have HTc : Hid _ := hT0
        rw [hTc] at hU
        clear H8 H9 hT0
        go_wp2_with (first
          | (go_at_call 10; refine (has_any _ _ _).mono ?_; rintro e w' ⟨rfl, rfl⟩)
          | (go_at_call 9; refine (shift_any _ _ _ _ (by omega) (by omega)).mono ?_; rintro e w' ⟨rfl, rfl⟩))
        go_round
        case rel => exact ⟨1, T, by omega, rfl, by rw [HT.out, HS.out], rfl, by rw [HT.out, HTc.out]⟩
        case measure => simp [intOf]
      · have hTc : T.c = ((m : Int) / 64 % 2 == 1) := by
          rw [hT0, H8.out (by decide), Bool.eq_iff_iff]; simp; omega
        have hm := u8_and1 ((m : Int) / 64) (by omega) (by omega)
        have HTc : Hid _ := hT0
        rw [hTc] at hU
        clear H8 H9 hT0
        go_wp2_with (first
          | (go_at_call 10; refine (has_any _ _ _).mono ?_; rintro e w' ⟨rfl, rfl⟩)
          | (go_at_call 9; refine (shift_any _ _ _ _ (by omega) (by omega)).mono ?_; rintro e w' ⟨rfl, rfl⟩))
        go_round
        case rel => exact ⟨2, T, by omega, rfl, by rw [HT.out, HS.out], rfl, by rw [HT.out, HTc.out]⟩
        case measure => simp [intOf]
      · have hTc : T.c = ((m : Int) / 32 % 2 == 1) := by
          rw [hT0, H8.out (by decide), Bool.eq_iff_iff]; simp; omega
        have hm := u8_and1 ((m : Int) / 32) (by omega) (by omega)
        have HTc : Hid _ := hT0
        rw [hTc] at hU
        clear H8 H9 hT0
        go_wp2_with (first
          | (go_at_call 10; refine (has_any _ _ _).mono ?_; rintro e w' ⟨rfl, rfl⟩)
          | (go_at_call 9; refine (shift_any _ _ _ _ (by omega) (by omega)).mono ?_; rintro e w' ⟨rfl, rfl⟩))
        go_round
        case rel => exact ⟨3, T, by omega, rfl, by rw [HT.out, HS.out], rfl, by rw [HT.out, HTc.out]⟩
        case measure => simp [intOf]
      · have hTc : T.c = ((m : Int) / 16 % 2 == 1) := by
          rw [hT0, H8.out (by decide), Bool.eq_iff_iff]; simp; omega
        have hm := u8_and1 ((m : Int) / 16) (by omega) (by omega)
        have HTc : Hid _ := hT0
        rw [hTc] at hU
        clear H8 H9 hT0
        go_wp2_with (first
          | (go_at_call 10; refine (has_any _ _ _).mono ?_; rintro e w' ⟨rfl, rfl⟩)
          | (go_at_call 9; refine (shift_any _ _ _ _ (by omega) (by omega)).mono ?_; rintro e w' ⟨rfl, rfl⟩))
        go_round
        case rel => exact ⟨4, T, by omega, rfl, by rw [HT.out, HS.out], rfl, by rw [HT.out, HTc.out]⟩
        case measure => simp [intOf]
      · have hTc : T.c = ((m : Int) / 8 % 2 == 1) := by
          rw [hT0, H8.out (by decide), Bool.eq_iff_iff]; simp; omega
        have hm := u8_and1 ((m : Int) / 8) (by omega) (by omega)
        have HTc : Hid _ := hT0
        rw [hTc] at hU
        clear H8 H9 hT0
        go_wp2_with (first
          | (go_at_call 10; refine (has_any _ _ _).mono ?_; rintro e w' ⟨rfl, rfl⟩)
          | (go_at_call 9; refine (shift_any _ _ _ _ (by omega) (by omega)).mono ?_; rintro e w' ⟨rfl, rfl⟩))
        go_round
        case rel => exact ⟨5, T, by omega, rfl, by rw [HT.out, HS.out], rfl, by rw [HT.out, HTc.out]⟩
        case measure => simp [intOf]
      · have hTc : T.c = ((m : Int) / 4 % 2 == 1) := by
          rw [hT0, H8.out (by decide), Bool.eq_iff_iff]; simp; omega
        have hm := u8_and1 ((m : Int) / 4) (by omega) (by omega)
        have HTc : Hid _ := hT0
        rw [hTc] at hU
        clear H8 H9 hT0
        go_wp2_with (first
          | (go_at_call 10; refine (has_any _ _ _).mono ?_; rintro e w' ⟨rfl, rfl⟩)
          | (go_at_call 9; refine (shift_any _ _ _ _ (by omega) (by omega)).mono ?_; rintro e w' ⟨rfl, rfl⟩))
        go_round
        case rel => exact ⟨6, T, by omega, rfl, by rw [HT.out, HS.out], rfl, by rw [HT.out, HTc.out]⟩
        case measure => simp [intOf]
      · have hTc : T.c = ((m : Int) / 2 % 2 == 1) := by
          rw [hT0, H8.out (by decide), Bool.eq_iff_iff]; simp; omega
        have hm := u8_and1 ((m : Int) / 2) (by omega) (by omega)
        have HTc : Hid _ := hT0
        rw [hTc] at hU
        clear H8 H9 hT0
        go_wp2_with (first
          | (go_at_call 10; refine (has_any _ _ _).mono ?_; rintro e w' ⟨rfl, rfl⟩)
          | (go_at_call 9; refine (shift_any _ _ _ _ (by omega) (by omega)).mono ?_; rintro e w' ⟨rfl, rfl⟩))
        go_round
        case rel => exact ⟨7, T, by omega, rfl, by rw [HT.out, HS.out], rfl, by rw [HT.out, HTc.out]⟩
        case measure => simp [intOf]
      · have hTc : T.c = ((m : Int) % 2 == 1) := by
          rw [hT0, H8.out (by decide), Bool.eq_iff_iff]; simp; omega
        have hm := u8_and1 (m : Int) (by omega) (by omega)
        have HTc : Hid _ := hT0
        rw [hTc] at hU
        clear H8 H9 hT0
        go_wp2_with (first
          | (go_at_call 10; refine (has_any _ _ _).mono ?_; rintro e w' ⟨rfl, rfl⟩)
          | (go_at_call 9; refine (shift_any _ _ _ _ (by omega) (by omega)).mono ?_; rintro e w' ⟨rfl, rfl⟩))
        go_round
        case rel => exact ⟨8, T, by omega, rfl, by rw [HT.out, HS.out], rfl, by rw [HT.out, HTc.out]⟩
        case measure => simp [intOf]
      · have hTc : T.c = decide (128 ≤ R) := hT0
        have HTc : Hid _ := hT0
        rw [hTc] at hU
        clear H8 H9 hT0
        go_wp2_with (first
          | (go_at_call 10; refine (has_any _ _ _).mono ?_; rintro e w' ⟨rfl, rfl⟩)
          | (go_at_call 9; refine (shift_any _ _ _ _ (by omega) (by omega)).mono ?_; rintro e w' ⟨rfl, rfl⟩))
        go_round
        case rel => exact ⟨9, T, by omega, rfl, by rw [HT.out, HS.out], rfl, by rw [HT.out, HTc.out]⟩
        case measure => simp [intOf]
end Go.Proofs.Ytnckbgeajdloiaa
