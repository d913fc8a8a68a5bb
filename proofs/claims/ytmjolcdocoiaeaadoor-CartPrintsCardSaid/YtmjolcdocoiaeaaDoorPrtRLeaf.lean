/-
  What the document's told and number answer; conditions: the bounds that are named.
-/
import Derived.Test.YtmjolcdocoiaeaaDoorPrtBase
import Derived.Test.YtmjolcdocoiaeaaDoorChkR7
namespace Go.Proofs.YtmjolcdocoiaeaaDoor
open Go.RowKit
theorem ctz_pow : ∀ (e f m : Nat), m % 2 = 1 → e < f → Lib.ctzFrom f (m * 2 ^ e) = e ∧ Chk.oddPart f (m * 2 ^ e) = m
  | 0, f + 1, m, h, _ => by
    rw [Nat.pow_zero, Nat.mul_one, Lib.ctzFrom, Chk.oddPart, if_pos h, if_neg (by omega)]
    exact ⟨rfl, rfl⟩
  | e + 1, f + 1, m, h, hf => by
    obtain ⟨i1, i2⟩ := ctz_pow e f m h (by omega)
    have e2 : m * 2 ^ (e + 1) = m * 2 ^ e * 2 := by rw [Nat.pow_succ, Nat.mul_assoc]
    rw [Lib.ctzFrom, Chk.oddPart, e2, if_neg (by omega), if_pos (by omega), Nat.mul_div_cancel _ (by decide), i1, i2]
    exact ⟨by omega, rfl⟩
theorem pow_le_e (e : Nat) : e < 2 ^ e := Nat.lt_two_pow_self
theorem told_end (n m e : Nat) (hn : n = m * 2 ^ e) (h : m % 2 = 1) (hb : n ≤ 1048576) : Lib.ctz 64 n = e ∧ Chk.oddPart 64 n = m ∧ e < 64 := by
  have h1 : 2 ^ e ≤ n := by rw [hn]; exact Nat.le_mul_of_pos_left _ (by omega)
  have h2 : e < 64 := by
    apply Classical.byContradiction
    intro hh
    have h3 : 2 ^ 64 ≤ 2 ^ e := Nat.pow_le_pow_right (by decide) (by omega)
    have h4 : (2 : Nat) ^ 64 = 18446744073709551616 := by decide
    omega
  obtain ⟨i1, i2⟩ := ctz_pow e 64 m h h2
  have hp : 0 < 2 ^ e := Nat.two_pow_pos e
  rw [Lib.ctz, if_neg (by omega), hn]
  exact ⟨i1, i2, h2⟩
set_option maxHeartbeats 400000 in
theorem told_any (n unit : Nat) (hu : unit = 16384 ∨ unit = 8192) (hb : n ≤ 1048576) (hq : n / unit < 256) (ho : n % unit = 0 ∨ Chk.oddPart 64 n ≤ 7) (w : World) :
    Calls Tryd.prog 24 #[.int .i64 n, .int .i64 unit] w fun e w' => e = .returned (.tuple #[.int .u8 (loB n unit : Nat), .int .u8 (hiB n unit : Nat)]) ∧ w' = w := by
  by_cases h0 : n % unit = 0
  · have hz : (unit : Int) ≠ 0 := by omega
    have hm : (((n : Int).tmod unit) == 0) = true := by rw [Int.tmod_eq_emod_of_nonneg (by omega), beq_iff_eq]; omega
    have hm2 : (((n : Int) % unit) == 0) = true := by rw [beq_iff_eq]; omega
    have hd : (n : Int).tdiv unit = ((n / unit : Nat) : Int) := by rw [Int.tdiv_eq_ediv_of_nonneg (by omega)]; simp
    have hd2 : (n : Int) / unit = ((n / unit : Nat) : Int) := by simp
    have hv : ((n / unit : Nat) : Int) % 256 = ((n / unit : Nat) : Int) := Int.emod_eq_of_lt (Int.natCast_nonneg _) (Int.ofNat_lt.2 hq)
    unfold loB hiB
    rw [if_pos h0, if_pos h0]
    generalize n / unit = v at *
    clear h0 ho
    go_enter Tryd.func24, Tryd.ntmps24
    go_wp2
    go_ret2
    exact ⟨rfl, rfl⟩
  · have hn0 : n ≠ 0 := fun e => h0 (by rw [e]; exact Nat.zero_mod _)
    have h7 : Chk.oddPart 64 n ≤ 7 := ho.resolve_left h0
    have hz : (unit : Int) ≠ 0 := by omega
    have hm : (((n : Int).tmod unit) == 0) = false := by rw [Int.tmod_eq_emod_of_nonneg (by omega), beq_eq_false_iff_ne]; omega
    have hm2 : (((n : Int) % unit) == 0) = false := by rw [beq_eq_false_iff_ne]; omega
    have HL : Hid (loB n unit = Lib.ctz 64 n * 4 + Chk.oddPart 64 n / 2 ∧ hiB n unit = 15) := by unfold Hid loB hiB; rw [if_neg h0, if_neg h0]; exact ⟨rfl, rfl⟩
    have H7 : Hid (Chk.oddPart 64 n ≤ 7) := h7
    clear h0 ho h7 hq
    go_enter Tryd.func24, Tryd.ntmps24
    go_upto_region 3 with fail
    clear hm hm2 hz
    go_upto_region 4 with fail
    go_loop [0, 6] (fun x y => ∃ m e : Nat, 0 < m ∧ m ≤ 1048576 ∧ e ≤ 1048576 ∧ x = .int .i64 m ∧ y = .int .i64 e ∧ Hid (n = m * 2 ^ e)) (fun x _ => (intOf x).toNat)
    case atStart => exact ⟨n, 0, by omega, hb, by omega, rfl, rfl, by unfold Hid; simp⟩
    case round =>
      obtain ⟨m, e, hp, hle, hee, rfl, rfl, hE⟩ := hrel
      by_cases h2 : m % 2 = 0
      · have h2' : (m : Int) % 2 = 0 := by omega
        have HE2 : Hid (n = m / 2 * 2 ^ (e + 1)) := by
          unfold Hid
          have hh := hE.out
          rw [Nat.pow_succ, Nat.mul_comm (2 ^ e) 2, ← Nat.mul_assoc, show m / 2 * 2 = m by omega]
          exact hh
        have he : e < 1048576 := by
          have h1 : 2 ^ e ≤ n := by rw [hE.out]; exact Nat.le_mul_of_pos_left _ hp
          have := pow_le_e e
          omega
        clear h2
        go_wp2
        go_round
        case rel => exact ⟨m / 2, e + 1, by omega, by omega, by omega, by go_num, by go_num, HE2⟩
        case measure => simp [intOf]; omega
      · have h2' : ¬ (m : Int) % 2 = 0 := by omega
        obtain ⟨t1, t2, t3⟩ := told_end n m e hE.out (by omega) hb
        have h7 := H7.out
        rw [t2] at h7
        have HV : Hid (loB n unit = e * 4 + m / 2) := by unfold Hid; rw [HL.out.1, t1, t2]
        clear t1 t2 h2
        go_wp2
        go_ret2
        exact ⟨by rw [HV.out, HL.out.2]; go_num, rfl⟩
set_option maxHeartbeats 400000 in
theorem number_any (k : Nat) (hk : k ≤ 15) (w : World) :
    Calls Tryd.prog 25 #[.int .i64 (rz k : Nat)] w fun e w' => e = .returned (.int .u8 (k : Nat)) ∧ w' = w := by
  have RC : Hid (∀ i : Nat, i ≤ 15 → Calls _ _ _ _ _) := fun i hi => rram_any i hi w
  have NE : ∀ i k : Fin 16, i ≠ k → ramV i.val ≠ rz k.val := by decide
  have HN : Hid (∀ i : Nat, i < k → ramV i ≠ rz k) := fun i hi => NE ⟨i, by omega⟩ ⟨k, by omega⟩ (fun h => by have := congrArg Fin.val h; simp at this; omega)
  have HE : Hid (ramV k = rz k) := rfl
  have HB : Hid (rz k ≤ 2097152) := by
    have : ∀ k : Fin 16, rz k.val ≤ 2097152 := by decide
    exact this ⟨k, by omega⟩
  clear NE
  go_enter Tryd.func25, Tryd.ntmps25
  go_upto_region 2 with fail
  go_loop [3] (fun x => ∃ i : Nat, i ≤ k ∧ x = .int .i64 i) (fun x => 16 - (intOf x).toNat)
  case atStart => exact ⟨0, by omega, rfl⟩
  case round =>
    obtain ⟨i, hi, rfl⟩ := hrel
    have HR : Hid (Calls _ _ _ _ _) := RC.out i (by omega)
    by_cases he : i = k
    · subst he
      have he' : ((ramV i : Int) == (rz i : Int)) = true := by rw [beq_iff_eq, HE.out]
      generalize ramV i = r at *
      generalize rz i = z at *
      have hm : (i : Int) % 256 = (i : Int) := by omega
      go_wp2_with (go_at_call 35; go_must (refine HR.out.mono ?_; rintro e w1 ⟨rfl, hw1⟩; obtain rfl := hw1.symm))
      go_ret
      exact ⟨by go_num, rfl⟩
    · have hne := HN.out i (by omega)
      have he' : ((ramV i : Int) == (rz k : Int)) = false := by rw [beq_eq_false_iff_ne]; omega
      generalize ramV i = r at HR he' hne
      generalize rz k = z at *
      go_wp2_with (go_at_call 35; go_must (refine HR.out.mono ?_; rintro e w1 ⟨rfl, hw1⟩; obtain rfl := hw1.symm))
      go_round
      case rel => exact ⟨i + 1, by omega, by go_num⟩
      case measure => simp [intOf]; omega
end Go.Proofs.YtmjolcdocoiaeaaDoor
