/-
  What the function filled answers; conditions: the bounds that are named.
-/
import Derived.Test.YtpdbndkckioamaaDoorBase
import Derived.Test.YtpdbndkckioamaaDoorSpan
set_option linter.unusedSimpArgs false
set_option linter.unusedVariables false
namespace Go.Proofs.YtpdbndkckioamaaDoor
open Go.RowKit Classical
/-- The register behind k rounds. -/
def lcg (x : Int) : Nat → Int
  | 0 => x
  | k + 1 => (lcg x k * 1103515245 + 12345) % 4294967296
/-- The byte of round k. -/
def fillAt (x : Int) (k : Nat) : Nat := ((lcg x (k + 1) / 65536) % 256).toNat
def fillL (x : Int) (n : Nat) : List Nat := (List.range n).map (fillAt x)
theorem fillL_len (x : Int) (n : Nat) : (fillL x n).length = n := by simp [fillL]
theorem fillAt_lt (x : Int) (k : Nat) : fillAt x k < 256 := by unfold fillAt; omega
theorem fillL_bytes (x : Int) (n : Nat) : Bytes (fillL x n) := by
  intro y hy
  simp only [fillL, List.mem_map] at hy
  obtain ⟨k, _, rfl⟩ := hy
  exact fillAt_lt x k
theorem fillL_at (x : Int) (n k : Nat) (h : k < n) : (fillL x n).getD k 0 = fillAt x k := by simp [fillL, h]

theorem lcg_bd (x : Int) (h0 : 0 ≤ x) (h1 : x < 4294967296) (k : Nat) : 0 ≤ lcg x k ∧ lcg x k < 4294967296 := by
  cases k with
  | zero => exact ⟨h0, h1⟩
  | succ k => simp only [lcg]; omega

set_option maxHeartbeats 400000 in
theorem filled_any (n : Nat) (hn : n ≤ 1048576) (fill : Int) (w : World) :
    Calls Tryd.prog 32 #[.int .i64 n, .int .i64 fill] w fun e w' => ∃ g, e = .returned (.slice (some ⟨g, 0, none⟩) n n) ∧ w.heap.size ≤ g ∧ Own w' g (fillL (fill % 4294967296) n) ∧ Below w.heap.size w w' := by
  obtain ⟨i0, hi, hz0, hz1, hz2⟩ := info_parts Tryd.infoU8
  go_enter Tryd.func32, Tryd.ntmps32
  go_wp2_with (at_make; refine wpList_make_full _ rfl _ _ 22 rfl w.heap.size 5 i0 (.int .u8 0) 1 Tryd.underlying22 hi hz0 hz1 .i64 .i64 _ _ n rfl rfl rfl rfl (by rw [hz2]; omega) (by unfold maxLen; omega) (Nat.le_refl _) ?_; intro w1 hown hgrow)
  have ho := Own.of_row (List.replicate n 0) (vals_zero _) hown
  have hb := (Below.refl w.heap.size w).grown hgrow (Nat.le_refl _) (by simp)
  clear hown hgrow hi hz0 hz1 hz2
  have hX0 : 0 ≤ fill % 4294967296 := by omega
  have hX1 : fill % 4294967296 < 4294967296 := by omega
  generalize hXX : fill % 4294967296 = X at *
  have HX : Hid (fill % 4294967296 = X) := hXX
  clear hXX
  go_loopw [6, 7] (fun x i wr => ∃ k : Nat, k ≤ n ∧ i = .int .i64 k ∧ x = .int .u32 (lcg X k) ∧ Own wr w.heap.size ((fillL X n).take k ++ List.replicate ((fillL X n).length - k) 0) ∧ Below w.heap.size w wr) (fun _ i _ => n - (intOf i).toNat)
  case atStart => exact ⟨0, Nat.zero_le _, rfl, rfl, by rw [fillL_len]; simpa using ho, hb⟩
  case round =>
    obtain ⟨k, hk, rfl, rfl, hor, hbr⟩ := hrel
    by_cases hkl : k < n
    · have hfr := hor.free k
      have hold := hor.cell k (by rw [List.length_append, List.length_take, List.length_replicate, fillL_len]; omega)
      have hset := hor.set k (fillAt X k)
      have hbs := hbr.setCell (p := ⟨w.heap.size, k, none⟩) (Nat.le_refl _) (.int .u8 (fillAt X k : Nat))
      rw [show fillAt X k = (fillL X n).getD k 0 from (fillL_at X n k hkl).symm, copy_step (fillL X n) k (by rw [fillL_len]; omega), fillL_at X n k hkl] at hset
      have hx := lcg_bd X hX0 hX1 k
      have e1 : (lcg X k * 1103515245 % 4294967296 + 12345) % 4294967296 = lcg X (k + 1) := by
        show _ = (lcg X k * 1103515245 + 12345) % 4294967296
        omega
      have hy := lcg_bd X hX0 hX1 (k + 1)
      have e2 : lcg X (k + 1) / 65536 % 256 = (fillAt X k : Nat) := by unfold fillAt; omega
      have hf := fillAt_lt X k
      clear hor hbr ho hb
      generalize fillAt X k = b at *
      have HY : Hid (lcg X (k + 1) = lcg X (k + 1)) := rfl
      generalize hyy : lcg X (k + 1) = y at *
      have HY' : Hid (lcg X (k + 1) = y) := hyy
      clear hyy HY
      generalize lcg X k = x at *
      obtain ⟨hx0, hx1⟩ := hx
      obtain ⟨hy0, hy1⟩ := hy
      go_wp2
      go_roundw
      case rel => exact ⟨k + 1, by omega, by go_num, by rw [HY'.out, e1], hset, hbs⟩
      case measure => simp [intOf]; omega
    · have e : (fillL X n).take k ++ List.replicate ((fillL X n).length - k) 0 = fillL X n := by
        rw [List.take_of_length_le (by rw [fillL_len]; omega), show (fillL X n).length - k = 0 by rw [fillL_len]; omega]; simp
      rw [e] at hor
      go_wp2
      go_ret
      exact ⟨_, rfl, Nat.le_refl _, by rw [HX.out]; exact hor, hbr⟩

theorem filled_i (m : Int) (h0 : 0 ≤ m) (h1 : m ≤ 1048576) (fill : Int) (w : World) :
    Calls Tryd.prog 32 #[.int .i64 m, .int .i64 fill] w fun e w' => ∃ (g n : Nat) (l : List Nat), (n : Int) = m ∧ l.length = n ∧ Bytes l ∧ e = .returned (.slice (some ⟨g, 0, none⟩) n n) ∧ w.heap.size ≤ g ∧ Own w' g l ∧ Below w.heap.size w w' := by
  obtain ⟨n, rfl⟩ := Int.eq_ofNat_of_zero_le h0
  refine (filled_any n (by omega) fill w).mono ?_
  rintro e w' ⟨g, he, hg, ho, hb⟩
  exact ⟨g, n, _, rfl, fillL_len _ _, fillL_bytes _ _, he, hg, ho, hb⟩
end Go.Proofs.YtpdbndkckioamaaDoor
