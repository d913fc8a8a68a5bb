/-
  What bit, ramBits and romBits answer; conditions: the bounds that are named, the table of the library lies in its variable.
-/
import Derived.Test.YtpdbndkckioamaaDoorPrtBase2
namespace Go.Proofs.YtpdbndkckioamaaDoor
open Go.RowKit
theorem retB {a b : Int} (h : a = b) : Ending.returned (.int .u8 a) = .returned (.int .u8 b) := by rw [h]
theorem bit_any (b : Bool) (i : Nat) (hi : i ≤ 3) (w : World) :
    Calls Tryd.prog 53 #[.bool b, .int .i64 i] w fun e w' => e = .returned (.int .u8 (bv b i : Nat)) ∧ w' = w := by
  cases b
  · go_enter Tryd.func53, Tryd.ntmps53
    go_wp2
    go_ret
    exact ⟨rfl, rfl⟩
  · rcases (show i = 0 ∨ i = 1 ∨ i = 2 ∨ i = 3 by omega) with rfl | rfl | rfl | rfl
    all_goals
      go_enter Tryd.func53, Tryd.ntmps53
      go_wp2
      go_ret
      exact ⟨by go_num, rfl⟩
set_option maxHeartbeats 400000 in
theorem ramBits_core (n p k : Nat) (hn : n = 64 * p) (hk : k < 256) (h0 : ((n : Int) == 0) = false) (hb : n ≤ 9223372036854775807) (w : World) (hc : Calls Tryd.prog 74 #[.int .u64 p] w fun e w' => e = .returned (.int .i64 (k : Nat)) ∧ w' = w) :
    Calls Tryd.prog 54 #[.int .i64 n] w fun e w' => e = .returned (.int .u8 (k : Nat)) ∧ w' = w := by
  have hd : (n : Int) / 64 = (p : Int) := by omega
  have hd2 : (n : Int).tdiv 64 = (p : Int) := by rw [Int.tdiv_eq_ediv_of_nonneg (by omega)]; exact hd
  have hw : IntKind.u64.wrap (p : Int) = (p : Int) := by rw [IntKind.wrap_u64]; omega
  have hm : (k : Int) % 256 = (k : Int) := by omega
  clear hn
  go_enter Tryd.func54, Tryd.ntmps54
  go_wp2_with fail
  refine hc.mono ?_
  rintro e w' ⟨rfl, hw'⟩
  subst hw'
  clear hc
  go_wp2
  go_ret
  exact ⟨by go_num, rfl⟩
theorem ramBits_any (k : Nat) (hk : k ≤ 15) (w : World) (T : Tz w) :
    Calls Tryd.prog 54 #[.int .i64 (rz k : Nat)] w fun e w' => e = .returned (.int .u8 (k : Nat)) ∧ w' = w := by
  by_cases h0 : k = 0
  · subst h0
    go_enter Tryd.func54, Tryd.ntmps54
    have e : ((rz 0 : Nat) : Int) = 0 := rfl
    rw [e]
    go_wp2
    go_ret
    exact ⟨rfl, rfl⟩
  · have hp : ∀ k : Nat, k ≤ 15 → 1 ≤ 2 ^ k ∧ 2 ^ k ≤ 32768 := by decide
    obtain ⟨p1, p2⟩ := hp k hk
    have e : rz k = 64 * 2 ^ k := by unfold rz; rw [if_neg h0]
    have t := tz_any (2 ^ k) (by omega) (by omega) w T
    rw [rz_ctz k hk h0] at t
    exact ramBits_core (rz k) (2 ^ k) k e (by omega) (by rw [e, beq_eq_false_iff_ne]; omega) (by omega) w t
set_option maxHeartbeats 400000 in
theorem romBits_core (n k o unit : Nat) (hu : unit = 16384 ∨ unit = 8192) (hk : k < 64) (ho : o ≤ 7) (h0 : n % unit ≠ 0) (hb : n ≤ 1048576) (hs : n / 2 ^ k = o) (w : World)
    (hc : Calls Tryd.prog 74 #[.int .u64 n] w fun e w' => e = .returned (.int .i64 (k : Nat)) ∧ w' = w) :
    Calls Tryd.prog 52 #[.int .i64 n, .int .i64 unit] w fun e w' => e = .returned (.tuple #[.int .u8 (k * 4 + o / 2 : Nat), .int .u8 (15 : Nat)]) ∧ w' = w := by
  have hw : IntKind.u64.wrap (n : Int) = (n : Int) := by rw [IntKind.wrap_u64]; omega
  have hz : (unit : Int) ≠ 0 := by omega
  have hm : (((n : Int).tmod unit) == 0) = false := by rw [Int.tmod_eq_emod_of_nonneg (by omega), beq_eq_false_iff_ne]; omega
  have hm2 : (((n : Int) % unit) == 0) = false := by rw [beq_eq_false_iff_ne]; omega
  have E : (n : Int) / 2 ^ k = (o : Int) := by rw [← hs, Int.natCast_ediv]; simp
  have O : bits BinOp.or IntKind.i64 ((k : Int) * 4) ((o : Int) / 2) = ((k * 4 + o / 2 : Nat) : Int) := by
    have := or_p k o hk ho
    simpa using this
  have hv : ((k * 4 + o / 2 : Nat) : Int) % 256 = ((k * 4 + o / 2 : Nat) : Int) := by omega
  generalize hV : k * 4 + o / 2 = v at *
  clear hs hV
  go_enter Tryd.func52, Tryd.ntmps52
  go_wp2_with fail
  refine hc.mono ?_
  rintro e w' ⟨rfl, hw'⟩
  subst hw'
  clear hc
  go_wp2
  go_ret2
  exact ⟨rfl, rfl⟩
set_option maxHeartbeats 400000 in
theorem romBits_any (n unit : Nat) (hu : unit = 16384 ∨ unit = 8192) (hb : n ≤ 1048576) (hq : n / unit < 256) (ho : n % unit = 0 ∨ Chk.oddPart 64 n ≤ 7) (w : World) (T : Tz w) :
    Calls Tryd.prog 52 #[.int .i64 n, .int .i64 unit] w fun e w' => e = .returned (.tuple #[.int .u8 (loB n unit : Nat), .int .u8 (hiB n unit : Nat)]) ∧ w' = w := by
  by_cases h0 : n % unit = 0
  · have hz : (unit : Int) ≠ 0 := by omega
    have hm : (((n : Int).tmod unit) == 0) = true := by rw [Int.tmod_eq_emod_of_nonneg (by omega), beq_iff_eq]; omega
    have hm2 : (((n : Int) % unit) == 0) = true := by rw [beq_iff_eq]; omega
    have hd : (n : Int).tdiv unit = ((n / unit : Nat) : Int) := by rw [Int.tdiv_eq_ediv_of_nonneg (by omega)]; simp
    have hd2 : (n : Int) / unit = ((n / unit : Nat) : Int) := by simp
    have hv : ((n / unit : Nat) : Int) % 256 = ((n / unit : Nat) : Int) := Int.emod_eq_of_lt (Int.natCast_nonneg _) (Int.ofNat_lt.2 hq)
    unfold loB hiB
    rw [if_pos h0, if_pos h0]
    generalize n / unit = v at *
    clear h0 ho
    go_enter Tryd.func52, Tryd.ntmps52
    go_wp2
    go_ret2
    exact ⟨rfl, rfl⟩
  · have hn0 : n ≠ 0 := fun e => h0 (by rw [e]; exact Nat.zero_mod _)
    have h7 : Chk.oddPart 64 n ≤ 7 := ho.resolve_left h0
    unfold loB hiB
    rw [if_neg h0, if_neg h0]
    exact romBits_core n _ _ unit hu (ctz_lt n hn0 (by omega)) h7 h0 hb (odd_shift n hn0 (by omega)) w (tz_any n hn0 (by omega) w T)
end Go.Proofs.YtpdbndkckioamaaDoor
