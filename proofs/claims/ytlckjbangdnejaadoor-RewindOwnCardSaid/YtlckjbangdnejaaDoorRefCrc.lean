/-
  What the document's own crc and Crc answer: the same register as the table's; conditions: the bytes lie in the slice.
-/
import Derived.Test.YtlckjbangdnejaaDoorCrcs
namespace Go.Proofs.YtlckjbangdnejaaDoor
open Go.RowKit Classical
/-- k single bits. -/
def bitsOf : Nat → Nat → Nat
  | 0, r => r
  | k + 1, r => CrcM.s1 (bitsOf k r)
theorem bitsOf_lt (k r : Nat) (h : r < 4294967296) : bitsOf k r < 4294967296 := by
  induction k with
  | zero => exact h
  | succ k ih => exact CrcM.s1_lt _ ih
theorem bitsOf_eight (r : Nat) : bitsOf 8 r = CrcM.s4 (CrcM.s4 r) := CrcM.s1_eight r
theorem bit_and (m : Nat) (hm : m < 4294967296) : bits .and .u32 (m : Int) 1 = ((m % 2 : Nat) : Int) := by
  have := u32_and_nat m 1 hm (by decide)
  rw [nat_mask1] at this
  exact this
theorem bit_xor (m : Nat) (hm : m < 4294967296) : bits .xor .u32 ((m : Int) / 2) 3988292384 = ((m / 2 ^^^ 3988292384 : Nat) : Int) := by
  rw [show (m : Int) / 2 = ((m / 2 : Nat) : Int) by omega]
  exact u32_xor_nat (m / 2) 3988292384 (by omega) (by decide)

set_option maxHeartbeats 800000 in
theorem refcrc_any (r : Nat) (hr : r < 4294967296) (l : List Nat) (hl : Bytes l) (hlen : l.length ≤ 140737488351232) (a : Option Addr) (cap : Nat) (w : World) (hrow : Row w a l) :
    Calls Tryd.prog 58 #[.int .u32 r, .slice a l.length cap] w fun e w' => e = .returned (.int .u32 (CrcM.feed r l : Nat)) ∧ w' = w := by
  go_enter Tryd.func58, Tryd.ntmps58
  go_wp2
  go_loop [0, 5] (fun x i => ∃ k : Nat, k ≤ l.length ∧ i = .int .i64 k ∧ x = .int .u32 (CrcM.feed r (l.take k) : Nat)) (fun _ i => l.length - (intOf i).toNat)
  case atStart => exact ⟨0, Nat.zero_le _, rfl, rfl⟩
  case round =>
    obtain ⟨k, hk, rfl, rfl⟩ := hrel
    by_cases hlt : k < l.length
    · rcases hrow with rfl | ⟨b, off, rfl, hc⟩
      · simp at hlt
      have H : Hid (CrcM.feed r (l.take (k + 1)) = _) := feed_snoc r l k hlt
      have hcell := hc k hlt
      have hy := bytes_at hl k
      have hx := CrcM.feed_lt _ (bytes_take hl k) r hr
      clear hc
      generalize l.getD k 0 = y at *
      generalize CrcM.feed r (l.take k) = x at *
      have e0 : (y : Int) % 4294967296 = y := by omega
      have e1 := u32_xor_nat x y hx (by omega)
      have hm := Nat.xor_lt_two_pow (n := 32) hx (show y < 2 ^ 32 by omega)
      generalize x ^^^ y = m at *
      have hki : (k : Int) < (l.length : Int) := by omega
      go_wp2
      go_loop [0, 6] (fun x i => ∃ j : Nat, j ≤ 8 ∧ i = .int .i64 j ∧ x = .int .u32 (bitsOf j m : Nat)) (fun _ i => 8 - (intOf i).toNat)
      case atStart => exact ⟨0, by omega, rfl, rfl⟩
      case round =>
        obtain ⟨j, hj, rfl, rfl⟩ := hrel
        have hq := bitsOf_lt j m hm
        by_cases hj8 : j < 8
        · have S : Hid (bitsOf (j + 1) m = CrcM.s1 (bitsOf j m)) := rfl
          generalize bitsOf j m = q at *
          have ea := bit_and q hq
          have ex := bit_xor q hq
          by_cases hodd : q % 2 = 1
          · have S2 : Hid (CrcM.s1 q = q / 2 ^^^ 3988292384) := by unfold Hid CrcM.s1; rw [if_pos hodd]
            have ho : (((q % 2 : Nat) : Int) == 1) = true := by rw [hodd]; rfl
            have hi1 : (q : Int) % 2 = 1 := by omega
            go_wp2
            go_round
            case rel => exact ⟨j + 1, by omega, by go_num, by rw [S.out, S2.out]⟩
            case measure => simp [intOf]; omega
          · have S2 : Hid (CrcM.s1 q = q / 2) := by unfold Hid CrcM.s1; rw [if_neg hodd, Nat.xor_zero]
            have ho : (((q % 2 : Nat) : Int) == 1) = false := by rw [show q % 2 = 0 by omega]; rfl
            have hi1 : (q : Int) % 2 = 0 := by omega
            go_wp2
            go_round
            case rel => exact ⟨j + 1, by omega, by go_num, by rw [S.out, S2.out]; go_num⟩
            case measure => simp [intOf]; omega
        · have hj' : j = 8 := by omega
          subst hj'
          have E : Hid (CrcM.feed r (l.take (k + 1)) = bitsOf 8 m) := by unfold Hid; rw [H.out, bitsOf_eight]
          generalize bitsOf 8 m = q at *
          go_wp2
          go_round
          case rel => exact ⟨k + 1, by omega, by go_num, by rw [E.out]⟩
          case measure => simp [intOf]; omega
    · have : l.take k = l := List.take_of_length_le (by omega)
      rw [this]
      go_wp2
      go_ret
      exact ⟨rfl, rfl⟩
theorem refCrc_any (l : List Nat) (hl : Bytes l) (hlen : l.length ≤ 140737488351232) (a : Option Addr) (cap : Nat) (w : World) (hrow : Row w a l) :
    Calls Tryd.prog 57 #[.slice a l.length cap] w fun e w' => e = .returned (.int .u32 (crc l : Nat)) ∧ w' = w := by
  have hx := CrcM.feed_lt l hl 4294967295 (by decide)
  have H : Hid (bits .xor .u32 ((CrcM.feed 4294967295 l : Nat) : Int) 4294967295 = (crc l : Nat)) := u32_xor_nat (CrcM.feed 4294967295 l) 4294967295 hx (by decide)
  go_enter Tryd.func57, Tryd.ntmps57
  go_wp2_with fail
  refine (refcrc_any 4294967295 (by decide) l hl hlen a cap w hrow).mono ?_
  rintro e w' ⟨rfl, rfl⟩
  go_wp2
  go_ret
  exact ⟨congrArg (fun n => Ending.returned (.int .u32 n)) H.out, rfl⟩
end Go.Proofs.YtlckjbangdnejaaDoor
