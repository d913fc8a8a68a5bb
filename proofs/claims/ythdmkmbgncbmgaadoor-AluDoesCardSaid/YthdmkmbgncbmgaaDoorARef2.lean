/-
  The contracts of the document's own high, Cmp, Adc, Sbc: the same answers as the program's.
-/
import Derived.Test.YthdmkmbgncbmgaaDoorARef
import Derived.Test.YthdmkmbgncbmgaaDoorACmp
namespace Go.Proofs.YthdmkmbgncbmgaaDoor
open Go.RowKit
theorem high_any (v : Int) (w : World) (v0 : -10000 ≤ v) (v1 : v ≤ 10000) :
    Calls Tryd.prog 91 #[.int .i64 v] w fun e w' => e = .returned (.bool (decide (128 ≤ v % 256))) ∧ w' = w := by
  go_enter Tryd.func91, Tryd.ntmps91
  go_wp2_with (go_at_call 82; refine (rest_any _ _ _ (by decide) (by omega) (by omega)).mono ?_; rintro e w' ⟨rfl, rfl⟩)
  go_ret
  exact ⟨rfl, rfl⟩
theorem rcmp_any (r m : Int) (F : Fl) (w : World) (r0 : 0 ≤ r) (r1 : r ≤ 255) (m0 : 0 ≤ m) (m1 : m ≤ 255) :
    Calls Tryd.prog 81 #[.int .u8 r, .int .u8 m, .int .u8 (F.val : Nat)] w fun e w' => e = .returned (.int .u8 ((nzF ((r - m) % 256) (F.put 1 (decide (m ≤ r)))).val : Nat)) ∧ w' = w := by
  go_enter Tryd.func81, Tryd.ntmps81
  go_wp2_with (first | (go_at_call 75; refine (rputF_any _ _ _ _ (by decide)).mono ?_; rintro e w' ⟨rfl, rfl⟩) | (go_at_call 73; refine (rnz_any _ _ _).mono ?_; rintro e w' ⟨rfl, rfl⟩) | (go_at_call 82; refine (rest_any _ _ _ (by decide) (by omega) (by omega)).mono ?_; rintro e w' ⟨rfl, rfl⟩))
  go_ret
  exact ⟨rfl, rfl⟩
theorem lv_add (A M S : Bool) : ((A != S) && (M != S)) = ((A == M) && (S != A)) := by revert A M S; decide
theorem lv_sub (A M S : Bool) : ((A != S) && ((!M) != S)) = ((A != M) && (S != A)) := by revert A M S; decide
theorem radcB_eq {a m s : Int} {F : Fl} {b1 b2 : Bool} (hs : s = (a + m + ci F.c) % 256) (h1 : b1 = lv a m ((a + m + ci F.c) % 256)) (h2 : b2 = decide (255 < a + m + ci F.c)) : nzF s ((F.put 64 b1).put 1 b2) = adcB a m F := by
  subst hs; subst h1; subst h2
  rfl
theorem radcD_eq {a m : Int} {F : Fl} {s : Int} {b1 b2 b3 b4 : Bool} (hs : sumA a m (ci F.c) = s) (h1 : b1 = (s / 128 % 2 == 1)) (h2 : b2 = lv a m (s % 256)) (h3 : b3 = ((a + m + ci F.c) % 256 == 0)) (h4 : b4 = decide (255 < upA s)) :
    (((F.put 128 b1).put 64 b2).put 2 b3).put 1 b4 = adcD a m F := by
  subst hs; subst h1; subst h2; subst h3; subst h4
  rfl
theorem dec_beq {x : Int} : decide (128 ≤ x % 256) = (x / 128 % 2 == 1) := by
  rw [Bool.eq_iff_iff]; simp; omega
theorem radc_any (a m : Int) (F : Fl) (w : World) (a0 : 0 ≤ a) (a1 : a ≤ 255) (m0 : 0 ≤ m) (m1 : m ≤ 255) :
    Calls Tryd.prog 78 #[.int .u8 a, .int .u8 m, .int .u8 (F.val : Nat)] w fun e w' => e = .returned (.tuple #[.int .u8 (adcV a m F), .int .u8 ((adcF a m F).val : Nat)]) ∧ w' = w := by
  have hb := ci_bd F.c
  have hd := bit_d F
  have ea : Hid (a % 256 = a) := by unfold Hid; omega
  have em : Hid (m % 256 = m) := by unfold Hid; omega
  have HL : ∀ s, Hid (lv a m s = ((decide (128 ≤ a) == decide (128 ≤ m)) && (decide (128 ≤ s) != decide (128 ≤ a)))) := fun s => lv_add _ _ _
  cases hD : F.d
  · have HV : Hid (adcV a m F = (a + m + ci F.c) % 256) := by unfold Hid; simp [adcV, hD]
    have HF : Hid (adcF a m F = adcB a m F) := by unfold Hid; simp [adcF, hD]
    rw [hD, show 8 * ci false = 0 from rfl] at hd
    clear hD
    cases e1 : (decide (128 ≤ a) == decide (128 ≤ m))
    all_goals
      go_enter Tryd.func78, Tryd.ntmps78
      go_wp2_with (first | (go_at_call 75; refine (rputF_any _ _ _ _ (by decide)).mono ?_; rintro e w' ⟨rfl, rfl⟩) | (go_at_call 73; refine (rnz_any _ _ _).mono ?_; rintro e w' ⟨rfl, rfl⟩) | (go_at_call 90; refine (carry_any _ _).mono ?_; rintro e w' ⟨rfl, rfl⟩) | (go_at_call 82; refine (rest_any _ _ _ (by decide) (by omega) (by omega)).mono ?_; rintro e w' ⟨rfl, rfl⟩) | (go_at_call 91; refine (high_any _ _ (by omega) (by omega)).mono ?_; rintro e w' ⟨rfl, rfl⟩; simp only [ea.out, em.out]))
      go_ret2
      exact ⟨two8 (by rw [HV.out]) (flv (by rw [HF.out]; exact radcB_eq rfl (by rw [(HL _).out, e1]; rfl) (decide_eq_decide.2 (by omega)))), rfl⟩
  · have HV : Hid (adcV a m F = upA (sumA a m (ci F.c)) % 256) := by unfold Hid; simp [adcV, hD]
    have HF : Hid (adcF a m F = adcD a m F) := by unfold Hid; simp [adcF, hD]
    rw [hD, show 8 * ci true = 8 from rfl] at hd
    clear hD
    cases e1 : (decide (128 ≤ a) == decide (128 ≤ m))
    all_goals
      go_enter Tryd.func78, Tryd.ntmps78
      go_wp2_with (first | (go_at_call 75; refine (rputF_any _ _ _ _ (by decide)).mono ?_; rintro e w' ⟨rfl, rfl⟩) | (go_at_call 73; refine (rnz_any _ _ _).mono ?_; rintro e w' ⟨rfl, rfl⟩) | (go_at_call 90; refine (carry_any _ _).mono ?_; rintro e w' ⟨rfl, rfl⟩) | (go_at_call 82; refine (rest_any _ _ _ (by decide) (by omega) (by omega)).mono ?_; rintro e w' ⟨rfl, rfl⟩) | (go_at_call 91; refine (high_any _ _ (by omega) (by omega)).mono ?_; rintro e w' ⟨rfl, rfl⟩; simp only [ea.out, em.out]))
      all_goals
        go_ret2
        exact ⟨two8 (by rw [HV.out]; unfold upA sumA lowA; omega) (flv (by rw [HF.out]; exact radcD_eq (by unfold sumA lowA; omega) dec_beq (by rw [(HL _).out, e1]; rfl) rfl (decide_eq_decide.2 (by unfold upA; omega)))), rfl⟩
theorem rsbcF_eq {a m s : Int} {F : Fl} {b1 b2 : Bool} (hs : s = (a - m - (1 - ci F.c)) % 256) (h1 : b1 = lv a (255 - m) ((a - m - (1 - ci F.c)) % 256)) (h2 : b2 = decide (0 ≤ a - m - (1 - ci F.c))) : nzF s ((F.put 1 b2).put 64 b1) = sbcF a m F := by
  subst hs; subst h1; subst h2
  rfl
theorem rsbc_any (a m : Int) (F : Fl) (w : World) (a0 : 0 ≤ a) (a1 : a ≤ 255) (m0 : 0 ≤ m) (m1 : m ≤ 255) :
    Calls Tryd.prog 79 #[.int .u8 a, .int .u8 m, .int .u8 (F.val : Nat)] w fun e w' => e = .returned (.tuple #[.int .u8 (sbcV a m F), .int .u8 ((sbcF a m F).val : Nat)]) ∧ w' = w := by
  have hb := ci_bd F.c
  have hd : ∀ r b b', bits .and .u8 ((nzF r ((F.put 1 b).put 64 b')).val : Nat) 8 = 8 * ci F.d := fun r b b' => bit_d _
  have ea : Hid (a % 256 = a) := by unfold Hid; omega
  have em : Hid (m % 256 = m) := by unfold Hid; omega
  have HL : ∀ s, Hid (lv a (255 - m) s = ((decide (128 ≤ a) != decide (128 ≤ m)) && (decide (128 ≤ s) != decide (128 ≤ a)))) := fun s => by
    unfold Hid lv
    rw [show decide (128 ≤ 255 - m) = !decide (128 ≤ m) by rw [Bool.eq_iff_iff]; simp; omega]
    exact lv_sub _ _ _
  cases hD : F.d
  · have HV : Hid (sbcV a m F = (a - m - (1 - ci F.c)) % 256) := by unfold Hid; simp [sbcV, hD]
    rw [hD, show 8 * ci false = 0 from rfl] at hd
    clear hD
    cases e1 : (decide (128 ≤ a) == decide (128 ≤ m))
    all_goals
      go_enter Tryd.func79, Tryd.ntmps79
      go_wp2_with (first | (go_at_call 75; refine (rputF_any _ _ _ _ (by decide)).mono ?_; rintro e w' ⟨rfl, rfl⟩) | (go_at_call 73; refine (rnz_any _ _ _).mono ?_; rintro e w' ⟨rfl, rfl⟩) | (go_at_call 90; refine (carry_any _ _).mono ?_; rintro e w' ⟨rfl, rfl⟩) | (go_at_call 82; refine (rest_any _ _ _ (by decide) (by omega) (by omega)).mono ?_; rintro e w' ⟨rfl, rfl⟩) | (go_at_call 91; refine (high_any _ _ (by omega) (by omega)).mono ?_; rintro e w' ⟨rfl, rfl⟩; simp only [ea.out, em.out]))
      go_ret2
      exact ⟨two8 (by rw [HV.out]; omega) (flv (rsbcF_eq (by omega) (by rw [(HL _).out, show a - m - (1 - ci F.c) = a - m - 1 + ci F.c by omega]; simp [bne, e1]) (decide_eq_decide.2 (by omega)))), rfl⟩
  · have HV : Hid (sbcV a m F = dnS (sumS a m (1 - ci F.c)) % 256) := by unfold Hid; simp [sbcV, hD]
    rw [hD, show 8 * ci true = 8 from rfl] at hd
    clear hD
    cases e1 : (decide (128 ≤ a) == decide (128 ≤ m))
    all_goals
      go_enter Tryd.func79, Tryd.ntmps79
      go_wp2_with (first | (go_at_call 75; refine (rputF_any _ _ _ _ (by decide)).mono ?_; rintro e w' ⟨rfl, rfl⟩) | (go_at_call 73; refine (rnz_any _ _ _).mono ?_; rintro e w' ⟨rfl, rfl⟩) | (go_at_call 90; refine (carry_any _ _).mono ?_; rintro e w' ⟨rfl, rfl⟩) | (go_at_call 82; refine (rest_any _ _ _ (by decide) (by omega) (by omega)).mono ?_; rintro e w' ⟨rfl, rfl⟩) | (go_at_call 91; refine (high_any _ _ (by omega) (by omega)).mono ?_; rintro e w' ⟨rfl, rfl⟩; simp only [ea.out, em.out]))
      all_goals
        go_ret2
        exact ⟨two8 (by rw [HV.out]; unfold dnS sumS lowS; omega) (flv (rsbcF_eq (by omega) (by rw [(HL _).out, show a - m - (1 - ci F.c) = a - m - 1 + ci F.c by omega]; simp [bne, e1]) (decide_eq_decide.2 (by omega)))), rfl⟩
end Go.Proofs.YthdmkmbgncbmgaaDoor
