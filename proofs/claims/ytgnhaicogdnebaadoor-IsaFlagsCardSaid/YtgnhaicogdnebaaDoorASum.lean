/-
  The contracts of Adc and Sbc and of their decimal parts: bytes are from 0 to 255, P is its eight flags.
-/
import Derived.Test.YtgnhaicogdnebaaDoorAShift
namespace Go.Proofs.YtgnhaicogdnebaaDoor
open Go.RowKit
theorem adcD_eq {a m : Int} {F : Fl} {c s : Int} {b1 b3 b4 : Bool} (hc : ci F.c = c) (hs : sumA a m c = s) (h1 : b1 = (s / 128 % 2 == 1)) (h3 : b3 = ((a + m + c) % 256 == 0)) (h4 : b4 = decide (255 < upA s)) :
    (((F.put 128 b1).put 64 (lv a m (s % 256))).put 2 b3).put 1 b4 = adcD a m F := by
  subst hc; subst hs; subst h1; subst h3; subst h4
  rfl
theorem bne_beq {x : Int} : (x / 128 % 2 * 128 != 0) = (x / 128 % 2 == 1) := by
  rw [Bool.eq_iff_iff]; simp; omega
theorem adcDecimal_any (a m : Int) (F : Fl) (w : World) (a0 : 0 ≤ a) (a1 : a ≤ 255) (m0 : 0 ≤ m) (m1 : m ≤ 255) :
    Calls Tryd.prog 78 #[.int .u8 a, .int .u8 m, .int .u8 (F.val : Nat)] w fun e w' => e = .returned (.tuple #[.int .u8 (upA (sumA a m (ci F.c)) % 256), .int .u8 ((adcD a m F).val : Nat)]) ∧ w' = w := by
  have hc := bit_c F
  have ga := u8_and240 a a0 a1
  have gm := u8_and240 m m0 m1
  have hl := i64_and15
  have hs := i64_and128
  cases hF : F.c
  · have HC : Hid (ci F.c = 0) := by unfold Hid; rw [hF]; rfl
    rw [hF, show ci false = 0 from rfl] at hc
    rw [show ci false = 0 from rfl]
    clear hF
    go_enter Tryd.func78, Tryd.ntmps78
    go_wp2_with (first | (go_at_call 39; refine (putF_any _ _ _ _ (by decide)).mono ?_; rintro e w' ⟨rfl, rfl⟩) | (go_at_call 79; refine (leaves_any _ _ _ _ (by omega) (by omega) (by omega) (by omega) (by omega) (by omega)).mono ?_; rintro e w' ⟨rfl, rfl⟩))
    all_goals
      go_ret2
      exact ⟨two8 (by unfold upA sumA lowA; omega) (flv (adcD_eq HC.out (by unfold sumA lowA; omega) bne_beq (by simp) (decide_eq_decide.2 (by unfold upA; omega)))), rfl⟩
  · have HC : Hid (ci F.c = 1) := by unfold Hid; rw [hF]; rfl
    rw [hF, show ci true = 1 from rfl] at hc
    rw [show ci true = 1 from rfl]
    clear hF
    go_enter Tryd.func78, Tryd.ntmps78
    go_wp2_with (first | (go_at_call 39; refine (putF_any _ _ _ _ (by decide)).mono ?_; rintro e w' ⟨rfl, rfl⟩) | (go_at_call 79; refine (leaves_any _ _ _ _ (by omega) (by omega) (by omega) (by omega) (by omega) (by omega)).mono ?_; rintro e w' ⟨rfl, rfl⟩))
    all_goals
      go_ret2
      exact ⟨two8 (by unfold upA sumA lowA; omega) (flv (adcD_eq HC.out (by unfold sumA lowA; omega) bne_beq (by first | rfl | simp | (rw [Bool.eq_iff_iff]; simp; omega)) (decide_eq_decide.2 (by unfold upA; omega)))), rfl⟩
theorem adcB_eq {a m : Int} {F : Fl} {c s : Int} {b : Bool} (hc : ci F.c = c) (hs : (a + m + c) % 256 = s) (h : b = decide (255 < a + m + c)) : nzF s ((F.put 1 b).put 64 (lv a m s)) = adcB a m F := by
  subst hc; subst hs; subst h
  rfl
theorem adc_any (a m : Int) (F : Fl) (w : World) (a0 : 0 ≤ a) (a1 : a ≤ 255) (m0 : 0 ≤ m) (m1 : m ≤ 255) :
    Calls Tryd.prog 67 #[.int .u8 a, .int .u8 m, .int .u8 (F.val : Nat)] w fun e w' => e = .returned (.tuple #[.int .u8 (adcV a m F), .int .u8 ((adcF a m F).val : Nat)]) ∧ w' = w := by
  have hc := bit_c F
  have hd := bit_d F
  cases hD : F.d
  · have HV : Hid (adcV a m F = (a + m + ci F.c) % 256) := by unfold Hid; simp [adcV, hD]
    have HF : Hid (adcF a m F = adcB a m F) := by unfold Hid; simp [adcF, hD]
    rw [hD, show ci false = 0 from rfl] at hd
    clear hD
    cases hF : F.c
    · have HC : Hid (ci F.c = 0) := by unfold Hid; rw [hF]; rfl
      rw [hF, show ci false = 0 from rfl] at hc
      clear hF
      go_enter Tryd.func67, Tryd.ntmps67
      go_wp2_with (first | (go_at_call 39; refine (putF_any _ _ _ _ (by decide)).mono ?_; rintro e w' ⟨rfl, rfl⟩) | (go_at_call 79; refine (leaves_any _ _ _ _ (by omega) (by omega) (by omega) (by omega) (by omega) (by omega)).mono ?_; rintro e w' ⟨rfl, rfl⟩) | (go_at_call 38; refine (nz_any _ _ _).mono ?_; rintro e w' ⟨rfl, rfl⟩))
      go_ret2
      exact ⟨two8 (by rw [HV.out, HC.out]; simp) (flv (by rw [HF.out]; exact adcB_eq HC.out (by simp) (by simp))), rfl⟩
    · have HC : Hid (ci F.c = 1) := by unfold Hid; rw [hF]; rfl
      rw [hF, show ci true = 1 from rfl] at hc
      clear hF
      go_enter Tryd.func67, Tryd.ntmps67
      go_wp2_with (first | (go_at_call 39; refine (putF_any _ _ _ _ (by decide)).mono ?_; rintro e w' ⟨rfl, rfl⟩) | (go_at_call 79; refine (leaves_any _ _ _ _ (by omega) (by omega) (by omega) (by omega) (by omega) (by omega)).mono ?_; rintro e w' ⟨rfl, rfl⟩) | (go_at_call 38; refine (nz_any _ _ _).mono ?_; rintro e w' ⟨rfl, rfl⟩))
      go_ret2
      exact ⟨two8 (by rw [HV.out, HC.out]) (flv (by rw [HF.out]; exact adcB_eq HC.out (by simp) (by simp))), rfl⟩
  · have HV : Hid (adcV a m F = upA (sumA a m (ci F.c)) % 256) := by unfold Hid; simp [adcV, hD]
    have HF : Hid (adcF a m F = adcD a m F) := by unfold Hid; simp [adcF, hD]
    rw [hD, show 8 * ci true = 8 from rfl] at hd
    clear hD hc
    go_enter Tryd.func67, Tryd.ntmps67
    go_wp2_with (go_at_call 78; refine (adcDecimal_any _ _ _ _ (by omega) (by omega) (by omega) (by omega)).mono ?_; rintro e w' ⟨rfl, rfl⟩)
    go_ret2
    exact ⟨two8 HV.out.symm (flv HF.out.symm), rfl⟩
theorem sbcDecimal_any (a m c : Int) (w : World) (a0 : 0 ≤ a) (a1 : a ≤ 255) (m0 : 0 ≤ m) (m1 : m ≤ 255) (c0 : 0 ≤ c) (c1 : c ≤ 1) :
    Calls Tryd.prog 80 #[.int .u8 a, .int .u8 m, .int .i64 c] w fun e w' => e = .returned (.int .u8 (dnS (sumS a m c) % 256)) ∧ w' = w := by
  have ga := u8_and240 a a0 a1
  have gm := u8_and240 m m0 m1
  have hl := i64_and15
  go_enter Tryd.func80, Tryd.ntmps80
  go_wp2
  all_goals
    go_ret
    exact ⟨congrArg (fun x => Ending.returned (.int .u8 x)) (by unfold dnS sumS lowS; omega), rfl⟩
theorem sbcF_eq {a m : Int} {F : Fl} {c s y : Int} {b : Bool} (hc : 1 - ci F.c = c) (hs : (a - m - c) % 256 = s) (hy : y = 255 - m) (h : b = decide (0 ≤ a - m - c)) : nzF s ((F.put 1 b).put 64 (lv a y s)) = sbcF a m F := by
  subst hc; subst hs; subst h; subst hy
  rfl
theorem sbc_any (a m : Int) (F : Fl) (w : World) (a0 : 0 ≤ a) (a1 : a ≤ 255) (m0 : 0 ≤ m) (m1 : m ≤ 255) :
    Calls Tryd.prog 69 #[.int .u8 a, .int .u8 m, .int .u8 (F.val : Nat)] w fun e w' => e = .returned (.tuple #[.int .u8 (sbcV a m F), .int .u8 ((sbcF a m F).val : Nat)]) ∧ w' = w := by
  have key : ∀ c d : Bool, F.c = c → F.d = d → Calls Tryd.prog 69 #[.int .u8 a, .int .u8 m, .int .u8 (F.val : Nat)] w fun e w' => e = .returned (.tuple #[.int .u8 (sbcV a m F), .int .u8 ((sbcF a m F).val : Nat)]) ∧ w' = w := by
    intro c d hF hD
    have hc := bit_c F
    have hd := bit_d F
    have hn := u8_not m m0 m1
    have hn' := u8_not' m m0 m1
    have HV : Hid (sbcV a m F = if F.d then dnS (sumS a m (1 - ci F.c)) % 256 else (a - m - (1 - ci F.c)) % 256) := rfl
    have HC : Hid (ci F.c = ci c) := by unfold Hid; rw [hF]
    rw [hF] at hc HV
    rw [hD] at hd HV
    clear hF hD
    cases c
    all_goals
      simp only [show ci false = 0 from rfl, show ci true = 1 from rfl] at hc HC HV
      cases d
      all_goals
        simp only [show ci false = 0 from rfl, show ci true = 1 from rfl] at hd
        go_enter Tryd.func69, Tryd.ntmps69
        go_wp2_with (first | (go_at_call 39; refine (putF_any _ _ _ _ (by decide)).mono ?_; rintro e w' ⟨rfl, rfl⟩) | (go_at_call 79; refine (leaves_any _ _ _ _ (by omega) (by omega) (by omega) (by omega) (by omega) (by omega)).mono ?_; rintro e w' ⟨rfl, rfl⟩) | (go_at_call 38; refine (nz_any _ _ _).mono ?_; rintro e w' ⟨rfl, rfl⟩) | (go_at_call 80; refine (sbcDecimal_any _ _ _ _ (by omega) (by omega) (by omega) (by omega) (by omega) (by omega)).mono ?_; rintro e w' ⟨rfl, rfl⟩))
        go_ret2
        exact ⟨two8 (by rw [HV.out]; simp) (flv (sbcF_eq (by rw [HC.out]) (by simp) rfl (by simp))), rfl⟩
  exact key _ _ rfl rfl
end Go.Proofs.YtgnhaicogdnebaaDoor
