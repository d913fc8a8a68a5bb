/-
  The contracts of Shift, leaves, Adc, Sbc, Cmp: a byte is from 0 to 255, P is its eight flags.
-/
import Derived.Test.YtgnhaicogdnebaaDoorANz
namespace Go.Proofs.YtgnhaicogdnebaaDoor
open Go.RowKit
theorem two8 {a a' b b' : Int} (ha : a = a') (hb : b = b') : Ending.returned (.tuple #[.int .u8 a, .int .u8 b]) = .returned (.tuple #[.int .u8 a', .int .u8 b']) := by rw [ha, hb]
theorem flv {a b : Fl} (h : a = b) : ((a.val : Nat) : Int) = ((b.val : Nat) : Int) := by rw [h]
theorem beq_dec {a b : Int} {p : Prop} [Decidable p] (h : a = b ↔ p) : (a == b) = decide p := by
  rw [Bool.eq_iff_iff]; simpa using h
theorem shift_any (op m : Int) (F : Fl) (w : World) (h0 : 0 ≤ m) (h1 : m ≤ 255) :
    Calls Tryd.prog 25 #[.int .i64 op, .int .u8 m, .int .u8 (F.val : Nat)] w fun e w' => e = .returned (.tuple #[.int .u8 (shV op m F.c), .int .u8 ((shF op m F).val : Nat)]) ∧ w' = w := by
  have hc := bit_c F
  have hm := u8_and1 m h0 h1
  have hb1 := u8_or0 (m * 2 % 256) (by omega) (by omega)
  have hb2 := u8_or1 (m * 2 % 256) (by omega) (by omega) (by omega)
  have hb3 := u8_or0 (m / 2) (by omega) (by omega)
  have hb4 := u8_or128' (m / 2) (by omega) (by omega)
  by_cases k2 : op = 2
  · subst k2
    have E1 : shV 2 m F.c = m * 2 % 256 := by simp [shV]
    have E2 : shF 2 m F = nzF (m * 2 % 256) (F.put 1 (m / 128 == 1)) := by
      unfold shF; rw [E1, if_pos (by simp)]; congr 2; simp only [shO, true_or, if_true]; rw [eq_comm]; exact beq_dec (by omega)
    rw [E1, E2]
    clear E1 E2 hb1 hb2 hb3 hb4 hm
    cases hF : F.c
    all_goals
      rw [hF] at hc
      simp only [ci] at hc
      clear hF
      go_enter Tryd.func25, Tryd.ntmps25
      go_wp2_with (first | (go_at_call 39; refine (putF_any _ _ _ _ (by decide)).mono ?_; rintro e w' ⟨rfl, rfl⟩) | (go_at_call 38; refine (nz_any _ _ _).mono ?_; rintro e w' ⟨rfl, rfl⟩))
      go_ret2
      exact ⟨rfl, rfl⟩
  have d2 : (op == 2) = false := by simp [k2]
  by_cases k32 : op = 32
  · subst k32
    have E1 : shV 32 m F.c = m / 2 := by simp [shV]
    have E2 : shF 32 m F = nzF (m / 2) (F.put 1 (m % 2 == 1)) := by
      unfold shF; rw [E1, if_pos (by simp)]; simp [shO]
    rw [E1, E2]
    clear E1 E2 hb1 hb2 hb3 hb4 k2 d2
    cases hF : F.c
    all_goals
      rw [hF] at hc
      simp only [ci] at hc
      clear hF
      go_enter Tryd.func25, Tryd.ntmps25
      go_wp2_with (first | (go_at_call 39; refine (putF_any _ _ _ _ (by decide)).mono ?_; rintro e w' ⟨rfl, rfl⟩) | (go_at_call 38; refine (nz_any _ _ _).mono ?_; rintro e w' ⟨rfl, rfl⟩))
      go_ret2
      exact ⟨rfl, rfl⟩
  have d32 : (op == 32) = false := by simp [k32]
  by_cases k39 : op = 39
  · subst k39
    have E1 : shV 39 m F.c = m * 2 % 256 + ci F.c := by simp [shV]
    have E2 : shF 39 m F = nzF (m * 2 % 256 + ci F.c) (F.put 1 (m / 128 == 1)) := by
      unfold shF; rw [E1, if_pos (by simp)]; congr 2; simp only [shO, or_true, if_true]; rw [eq_comm]; exact beq_dec (by omega)
    rw [E1, E2]
    clear E1 E2 hb3 hb4 hm k2 d2 k32 d32
    cases hF : F.c
    all_goals
      rw [hF] at hc
      simp only [ci] at hc
      clear hF
      go_enter Tryd.func25, Tryd.ntmps25
      go_wp2_with (first | (go_at_call 39; refine (putF_any _ _ _ _ (by decide)).mono ?_; rintro e w' ⟨rfl, rfl⟩) | (go_at_call 38; refine (nz_any _ _ _).mono ?_; rintro e w' ⟨rfl, rfl⟩))
      go_ret2
      exact ⟨two8 (by simp [ci]) (flv (by simp [ci])), rfl⟩
  have d39 : (op == 39) = false := by simp [k39]
  by_cases k40 : op = 40
  · subst k40
    have E1 : shV 40 m F.c = m / 2 + 128 * ci F.c := by simp [shV]
    have E2 : shF 40 m F = nzF (m / 2 + 128 * ci F.c) (F.put 1 (m % 2 == 1)) := by
      unfold shF; rw [E1, if_pos (by simp)]; simp [shO]
    rw [E1, E2]
    clear E1 E2 hb1 hb2 k2 d2 k32 d32 k39 d39
    cases hF : F.c
    all_goals
      rw [hF] at hc
      simp only [ci] at hc
      clear hF
      go_enter Tryd.func25, Tryd.ntmps25
      go_wp2_with (first | (go_at_call 39; refine (putF_any _ _ _ _ (by decide)).mono ?_; rintro e w' ⟨rfl, rfl⟩) | (go_at_call 38; refine (nz_any _ _ _).mono ?_; rintro e w' ⟨rfl, rfl⟩))
      go_ret2
      exact ⟨two8 (by simp [ci]) (flv (by simp [ci])), rfl⟩
  have d40 : (op == 40) = false := by simp [k40]
  have E1 : shV op m F.c = m := by simp [shV, k2, k32, k39, k40]
  have E2 : shF op m F = F := by simp [shF, k2, k32, k39, k40]
  rw [E1, E2]
  clear E1 E2 hb1 hb2 hb3 hb4 hm k2 k32 k39 k40
  cases hF : F.c
  all_goals
    rw [hF] at hc
    simp only [ci] at hc
    clear hF
    go_enter Tryd.func25, Tryd.ntmps25
    go_wp2
    go_ret2
    exact ⟨rfl, rfl⟩
theorem leaves_any (a m s : Int) (w : World) (a0 : 0 ≤ a) (a1 : a ≤ 255) (m0 : 0 ≤ m) (m1 : m ≤ 255) (s0 : 0 ≤ s) (s1 : s ≤ 255) :
    Calls Tryd.prog 79 #[.int .u8 a, .int .u8 m, .int .u8 s] w fun e w' => e = .returned (.bool (lv a m s)) ∧ w' = w := by
  have h := leaves_bits a m s a0 a1 m0 m1 s0 s1
  cases hl : lv a m s
  all_goals
    rw [hl] at h
    simp only [ci] at h
    clear hl
    go_enter Tryd.func79, Tryd.ntmps79
    go_wp2
    go_ret
    exact ⟨rfl, rfl⟩
end Go.Proofs.YtgnhaicogdnebaaDoor
