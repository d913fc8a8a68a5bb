/-
  What the functions filled, memory and size answer; conditions: the bounds that are named.
-/
import Derived.Test.YtfmionfbknadiaaDoorBase
import Derived.Test.YtfmionfbknadiaaDoorSpan
namespace Go.Proofs.YtfmionfbknadiaaDoor
open Go.RowKit
/-- The register behind k rounds. -/
def lcg (x : Int) : Nat → Int
  | 0 => x
  | k + 1 => (lcg x k * 1103515245 + 12345) % 4294967296
/-- The byte of round k. -/
def fillAt (x : Int) (k : Nat) : Nat := ((lcg x (k + 1) / 65536) % 256).toNat
def fillL (x : Int) (n : Nat) : List Nat := (List.range n).map (fillAt x)
theorem fillL_len (x : Int) (n : Nat) : (fillL x n).length = n := by simp [fillL]
theorem fillAt_lt (x : Int) (k : Nat) : fillAt x k < 256 := by unfold fillAt; omega
theorem fillL_bytes (x : Int) (n : Nat) : Bytes (fillL x n) := by
  intro y hy
  simp only [fillL, List.mem_map] at hy
  obtain ⟨k, _, rfl⟩ := hy
  exact fillAt_lt x k
theorem fillL_at (x : Int) (n k : Nat) (h : k < n) : (fillL x n).getD k 0 = fillAt x k := by simp [fillL, h]

theorem lcg_bd (x : Int) (h0 : 0 ≤ x) (h1 : x < 4294967296) (k : Nat) : 0 ≤ lcg x k ∧ lcg x k < 4294967296 := by
  cases k with
  | zero => exact ⟨h0, h1⟩
  | succ k => simp only [lcg]; omega

set_option maxHeartbeats 400000 in
theorem filled_any (n : Nat) (hn : n ≤ 1048576) (fill : Int) (w : World) :
    Calls Tryd.prog 22 #[.int .i64 n, .int .i64 fill] w fun e w' => ∃ g, e = .returned (.slice (some ⟨g, 0, none⟩) n n) ∧ w.heap.size ≤ g ∧ Own w' g (fillL (fill % 4294967296) n) ∧ Below w.heap.size w w' := by
  obtain ⟨i0, hi, hz0, hz1, hz2⟩ := info_parts Tryd.infoU8
  go_enter Tryd.func22, Tryd.ntmps22
  go_wp2_with (at_make; refine wpList_make_full _ rfl _ _ 22 rfl w.heap.size 5 i0 (.int .u8 0) 1 Tryd.underlying22 hi hz0 hz1 .i64 .i64 _ _ n rfl rfl rfl rfl (by rw [hz2]; omega) (by unfold maxLen; omega) (Nat.le_refl _) ?_; intro w1 hown hgrow)
  have ho := Own.of_row (List.replicate n 0) (vals_zero _) hown
  have hb := (Below.refl w.heap.size w).grown hgrow (Nat.le_refl _) (by simp)
  clear hown hgrow hi hz0 hz1 hz2
  have hX0 : 0 ≤ fill % 4294967296 := by omega
  have hX1 : fill % 4294967296 < 4294967296 := by omega
  generalize hXX : fill % 4294967296 = X at *
  have HX : Hid (fill % 4294967296 = X) := hXX
  clear hXX
  go_loopw [6, 7] (fun x i wr => ∃ k : Nat, k ≤ n ∧ i = .int .i64 k ∧ x = .int .u32 (lcg X k) ∧ Own wr w.heap.size ((fillL X n).take k ++ List.replicate ((fillL X n).length - k) 0) ∧ Below w.heap.size w wr) (fun _ i _ => n - (intOf i).toNat)
  case atStart => exact ⟨0, Nat.zero_le _, rfl, rfl, by rw [fillL_len]; simpa using ho, hb⟩
  case round =>
    obtain ⟨k, hk, rfl, rfl, hor, hbr⟩ := hrel
    by_cases hkl : k < n
    · have hfr := hor.free k
      have hold := hor.cell k (by rw [List.length_append, List.length_take, List.length_replicate, fillL_len]; omega)
      have hset := hor.set k (fillAt X k)
      have hbs := hbr.setCell (p := ⟨w.heap.size, k, none⟩) (Nat.le_refl _) (.int .u8 (fillAt X k : Nat))
      rw [show fillAt X k = (fillL X n).getD k 0 from (fillL_at X n k hkl).symm, copy_step (fillL X n) k (by rw [fillL_len]; omega), fillL_at X n k hkl] at hset
      have hx := lcg_bd X hX0 hX1 k
      have e1 : (lcg X k * 1103515245 % 4294967296 + 12345) % 4294967296 = lcg X (k + 1) := by
        show _ = (lcg X k * 1103515245 + 12345) % 4294967296
        omega
      have hy := lcg_bd X hX0 hX1 (k + 1)
      have e2 : lcg X (k + 1) / 65536 % 256 = (fillAt X k : Nat) := by unfold fillAt; omega
      have hf := fillAt_lt X k
      clear hor hbr ho hb
      generalize fillAt X k = b at *
      have HY : Hid (lcg X (k + 1) = lcg X (k + 1)) := rfl
      generalize hyy : lcg X (k + 1) = y at *
      have HY' : Hid (lcg X (k + 1) = y) := hyy
      clear hyy HY
      generalize lcg X k = x at *
      obtain ⟨hx0, hx1⟩ := hx
      obtain ⟨hy0, hy1⟩ := hy
      go_wp2
      go_roundw
      case rel => exact ⟨k + 1, by omega, by go_num, by rw [HY'.out, e1], hset, hbs⟩
      case measure => simp [intOf]; omega
    · have e : (fillL X n).take k ++ List.replicate ((fillL X n).length - k) 0 = fillL X n := by
        rw [List.take_of_length_le (by rw [fillL_len]; omega), show (fillL X n).length - k = 0 by rw [fillL_len]; omega]; simp
      rw [e] at hor
      go_wp2
      go_ret
      exact ⟨_, rfl, Nat.le_refl _, by rw [HX.out]; exact hor, hbr⟩

theorem pow_small : ∀ k : Nat, k ≤ 15 → (2 : Int) ^ k ≤ 32768 ∧ 1 ≤ (2 : Int) ^ k := by decide
theorem memory_any (n : Int) (w : World) (h1 : -9223372036854775808 ≤ n) (h2 : n ≤ 9223372036854775807) :
    Calls Tryd.prog 20 #[.int .i64 n] w fun e w' => ∃ k : Nat, k ≤ 15 ∧ e = .returned (.int .i64 (if k = 0 then 0 else 64 * 2 ^ k : Nat)) ∧ w' = w := by
  have hb := spanV_bd n 0 15 (by omega)
  go_enter Tryd.func20, Tryd.ntmps20
  go_wp2_with fail
  refine (span_any n 0 15 w h1 h2 (by omega) (by omega) (by omega)).mono ?_
  rintro e w ⟨rfl, rfl⟩
  generalize spanV n 0 15 = k at *
  obtain ⟨k, rfl⟩ := Int.eq_ofNat_of_zero_le hb.1
  have hk : k ≤ 15 := by omega
  by_cases h0 : k = 0
  · subst h0
    go_wp2
    go_ret
    exact ⟨0, by omega, rfl, rfl⟩
  · have h0' : ((k : Int) == 0) = false := by simp [h0]
    have hp := pow_small k hk
    have H : Hid (wrap64 (64 * 2 ^ k) = ((64 * 2 ^ k : Nat) : Int)) := by
      unfold Hid
      rw [IntWalk.wrap64_in _ ⟨by omega, by omega⟩]
      simp
    clear hp
    go_wp2
    go_ret
    exact ⟨k, hk, by rw [if_neg h0]; exact congrArg (fun n => Ending.returned (.int .i64 n)) H.out, rfl⟩

theorem tdiv_bd (n k : Int) (hk : 0 < k) (h1 : -9223372036854775808 ≤ n) (h2 : n ≤ 9223372036854775807) : -9223372036854775808 ≤ n.tdiv k ∧ n.tdiv k ≤ 9223372036854775807 := by
  rcases Int.le_total 0 n with h | h
  · have e := IntWalk.tdiv_le n k h (by omega)
    rw [Int.tdiv_eq_ediv_of_nonneg h]
    omega
  · obtain ⟨m, rfl⟩ : ∃ m, n = -m := ⟨-n, by omega⟩
    have e := IntWalk.tdiv_le m k (by omega) (by omega)
    rw [Int.neg_tdiv, Int.tdiv_eq_ediv_of_nonneg (by omega)]
    omega
set_option maxHeartbeats 400000 in
theorem size_any (n : Int) (unit bound : Nat) (w : World) (h1 : -9223372036854775808 ≤ n) (h2 : n ≤ 9223372036854775807) (hu1 : 1 ≤ unit) (hu2 : unit ≤ 16384) (hb1 : 7 ≤ bound) (hb2 : bound ≤ 65536) :
    Calls Tryd.prog 21 #[.int .i64 n, .int .i64 unit, .int .i64 bound] w fun e w' => ∃ k : Nat, 1 ≤ k ∧ k ≤ 65536 ∧ e = .returned (.int .i64 k) ∧ w' = w := by
  have d2 := tdiv_bd n 2 (by decide) h1 h2
  have d16 := tdiv_bd n 16 (by decide) h1 h2
  by_cases hpar : n.tmod 2 = 0
  · have hpar' : (n.tmod 2 == 0) = true := by simp [hpar]
    go_enter Tryd.func21, Tryd.ntmps21
    go_wp2_with fail
    have hs := spanV_bd (n.tdiv 2) 1 3 (by omega)
    refine (span_any (n.tdiv 2) 1 3 w d2.1 d2.2 (by omega) (by omega) (by omega)).mono ?_
    rintro e w ⟨rfl, rfl⟩
    generalize spanV (n.tdiv 2) 1 3 = sp at *
    rcases (show sp = 1 ∨ sp = 2 ∨ sp = 3 by omega) with rfl | rfl | rfl
    · go_wp2
      go_ret
      exact ⟨unit, by omega, by omega, by go_num, rfl⟩
    · go_wp2
      go_ret
      exact ⟨2 * unit, by omega, by omega, by go_num, rfl⟩
    · go_wp2
      go_ret
      exact ⟨3 * unit, by omega, by omega, by go_num, rfl⟩
  · have hpar' : (n.tmod 2 == 0) = false := by simp [hpar]
    go_enter Tryd.func21, Tryd.ntmps21
    go_wp2_with fail
    have hs := spanV_bd (n.tdiv 2) 0 3 (by omega)
    refine (span_any (n.tdiv 2) 0 3 w d2.1 d2.2 (by omega) (by omega) (by omega)).mono ?_
    rintro e w ⟨rfl, rfl⟩
    generalize spanV (n.tdiv 2) 0 3 = sp at *
    obtain ⟨sp, rfl⟩ := Int.eq_ofNat_of_zero_le hs.1
    go_wp2_with fail
    have hs2 := spanV_bd (n.tdiv 16) 0 15 (by omega)
    refine (span_any (n.tdiv 16) 0 15 w d16.1 d16.2 (by omega) (by omega) (by omega)).mono ?_
    rintro e w ⟨rfl, rfl⟩
    generalize spanV (n.tdiv 16) 0 15 = st at *
    obtain ⟨st, rfl⟩ := Int.eq_ofNat_of_zero_le hs2.1
    go_wp2
    go_loop [7, 8] (fun x i => ∃ k j : Nat, 1 ≤ k ∧ k ≤ 65536 ∧ j ≤ 15 ∧ x = .int .i64 k ∧ i = .int .i64 j) (fun _ i => (intOf i).toNat)
    case atStart => exact ⟨1 + 2 * sp, st, by omega, by omega, by omega, by go_num, rfl⟩
    case round =>
      obtain ⟨k, j, hk1, hk2, hj, rfl, rfl⟩ := hrel
      by_cases hj0 : 0 < j
      · have hj0' : decide ((0 : Int) < (j : Int)) = true := by simp; omega
        by_cases hkb : k * 2 ≤ bound
        · have hkb' : decide ((k : Int) * 2 ≤ (bound : Int)) = true := by simp; omega
          go_wp2
          go_round
          case rel => exact ⟨k * 2, j - 1, by omega, by omega, by omega, by go_num, by go_num⟩
          case measure => simp [intOf]; omega
        · have hkb' : decide ((k : Int) * 2 ≤ (bound : Int)) = false := by simp; omega
          go_wp2
          go_ret
          exact ⟨k, hk1, hk2, rfl, rfl⟩
      · have hj0' : decide ((0 : Int) < (j : Int)) = false := by simp; omega
        go_wp2
        go_ret
        exact ⟨k, hk1, hk2, rfl, rfl⟩
end Go.Proofs.YtfmionfbknadiaaDoor
