/-
  The contracts of the document's hex and target.
-/
import Derived.Test.YtebnapgnnflnhaaDoorILFill
set_option linter.unusedSimpArgs false
set_option linter.unusedVariables false
namespace Go.Proofs.YtebnapgnnflnhaaDoor
open Go.RowKit
/-- The last n digits. -/
def hexS (v : Nat) : Nat → List UInt8
  | 0 => []
  | n + 1 => dig (v / 16 ^ n % 16) :: hexS v n
theorem hexS_2 (v : Nat) : hexS v 2 = hx2 v := by simp [hexS, hx2]
theorem hexS_4 (v : Nat) : hexS v 4 = hx4 v := by simp [hexS, hx4, Nat.div_div_eq_div_mul]
theorem hexS_len (v : Nat) : ∀ n, (hexS v n).length = n
  | 0 => rfl
  | n + 1 => by simp [hexS, hexS_len v n]
theorem strApp (a b : List UInt8) : (⟨a.toArray⟩ : ByteArray) ++ ⟨b.toArray⟩ = ⟨(a ++ b).toArray⟩ := by
  apply ByteArray.ext
  simp
theorem dig_cut (m : Nat) (h : m < 16) : (ByteArray.mk #[48, 49, 50, 51, 52, 53, 54, 55, 56, 57, 65, 66, 67, 68, 69, 70]).extract m (m + 1) = ⟨[dig m].toArray⟩ := by
  have : m = 0 ∨ m = 1 ∨ m = 2 ∨ m = 3 ∨ m = 4 ∨ m = 5 ∨ m = 6 ∨ m = 7 ∨ m = 8 ∨ m = 9 ∨ m = 10 ∨ m = 11 ∨ m = 12 ∨ m = 13 ∨ m = 14 ∨ m = 15 := by omega
  rcases this with rfl | rfl | rfl | rfl | rfl | rfl | rfl | rfl | rfl | rfl | rfl | rfl | rfl | rfl | rfl | rfl <;> decide +kernel
set_option maxRecDepth 100000 in
set_option maxHeartbeats 1000000 in
theorem hex_any (v n : Nat) (hv : v < 65536) (hn : n ≤ 4) (w : World) :
    Calls Tryd.prog 18 #[.int .i64 (v : Nat), .int .i64 (n : Nat)] w fun e w' => e = .returned (.string ⟨(hexS v n).toArray⟩) ∧ w' = w := by
  go_enter Tryd.func18, Tryd.ntmps18
  go_upto_region 3 with fail
  go_loop [0, 5, 6] (fun x s i => ∃ j : Nat, j ≤ n ∧ i = .int .i64 j ∧ s = .string ⟨(hexS v j).toArray⟩ ∧ x = .int .i64 ((v / 16 ^ j : Nat) : Int)) (fun _ _ i => n - (intOf i).toNat)
  case atStart => exact ⟨0, by omega, rfl, rfl, by simp⟩
  case round =>
    obtain ⟨j, hj, rfl, rfl, rfl⟩ := hrel
    have hd : v / 16 ^ j < 65536 := Nat.lt_of_le_of_lt (Nat.div_le_self _ _) hv
    by_cases hjn : j < n
    · have HN : Hid (hexS v (j + 1) = [dig (v / 16 ^ j % 16)] ++ hexS v j) := rfl
      have HV : Hid (v / 16 ^ (j + 1) = v / 16 ^ j / 16) := by unfold Hid; rw [Nat.pow_succ, Nat.div_div_eq_div_mul]
      have hl := hexS_len v j
      generalize v / 16 ^ j = x at *
      have hm : x % 16 < 16 := Nat.mod_lt _ (by decide)
      have hc := dig_cut (x % 16) hm
      have hx : (x : Int) % 16 = ((x % 16 : Nat) : Int) := by omega
      generalize hexS v j = t at *
      generalize x % 16 = m at *
      go_wp2
      go_round
      case rel => exact ⟨j + 1, by omega, by go_num, by rw [HN.out, ← strApp], by rw [HV.out]; go_num⟩
      case measure => simp [intOf]; omega
    · obtain rfl : j = n := by omega
      go_wp2
      go_ret
      exact ⟨rfl, rfl⟩
theorem retI {a b : Int} (h : a = b) : Ending.returned (.int .i64 a) = .returned (.int .i64 b) := by rw [h]
/-- A branch's target. -/
def tgN (pc d : Nat) : Nat := (pc + 2 + (if 127 < d then d + 65280 else d)) % 65536
theorem target_any (pc d : Nat) (hp : pc < 65536) (hd : d < 256) (w : World) :
    Calls Tryd.prog 19 #[.int .u16 (pc : Nat), .int .u8 (d : Nat)] w fun e w' => e = .returned (.int .i64 (tgN pc d : Nat)) ∧ w' = w := by
  have HT : Hid (tgN pc d = (pc + 2 + (if 127 < d then d + 65280 else d)) % 65536) := rfl
  generalize tgN pc d = t at *
  by_cases h : 127 < d
  · have h' : (127 : Int) < (d : Int) := by omega
    have e2 : Hid (((pc : Int) + 2 + ((d : Int) - 256) + 65536) % 65536 = (t : Int)) := by have := HT.out; rw [if_pos h] at this; unfold Hid; omega
    go_enter Tryd.func19, Tryd.ntmps19
    go_wp2
    go_ret
    exact ⟨retI e2.out, rfl⟩
  · have h' : ¬ (127 : Int) < (d : Int) := by omega
    have e2 : Hid (((pc : Int) + 2 + (d : Int)) % 65536 = (t : Int)) := by have := HT.out; rw [if_neg h] at this; unfold Hid; omega
    go_enter Tryd.func19, Tryd.ntmps19
    go_wp2
    go_ret
    exact ⟨retI e2.out, rfl⟩
end Go.Proofs.YtebnapgnnflnhaaDoor
