/-
  The contract of the document's operand.
-/
import Derived.Test.YtebnapgnnflnhaaDoorILHex
set_option linter.unusedSimpArgs false
set_option linter.unusedVariables false
namespace Go.Proofs.YtebnapgnnflnhaaDoor
open Go.RowKit
/-- What is laid down of a form's rest. -/
def opR (v : Nat) : Nat → List UInt8 → List UInt8
  | 0, _ => []
  | _ + 1, [] => []
  | n + 1, c :: l => if c = 104 then hx2 v ++ opR v n (l.drop 1) else if c = 72 then hx4 v ++ opR v n (l.drop 3) else c :: opR v n l
theorem opR_nil (v : Nat) : ∀ n, opR v n [] = []
  | 0 => rfl
  | _ + 1 => rfl
theorem opR_at (v n : Nat) (l : List UInt8) (i : Nat) (hi : i < l.length) : opR v (n + 1) (l.drop i) = if l.getD i 0 = 104 then hx2 v ++ opR v n (l.drop (i + 2)) else if l.getD i 0 = 72 then hx4 v ++ opR v n (l.drop (i + 4)) else l.getD i 0 :: opR v n (l.drop (i + 1)) := by
  rw [List.drop_eq_getElem_cons hi, getD_lt l i hi, opR, List.drop_drop, List.drop_drop]
theorem cut_one (l : List UInt8) (i : Nat) (hi : i < l.length) : (ByteArray.mk l.toArray).extract i (i + 1) = ⟨[l.getD i 0].toArray⟩ := by
  rw [getD_lt l i hi]
  apply ByteArray.ext
  rw [ByteArray.data_extract]
  apply Array.ext'
  rw [Array.toList_extract]
  show l.extract i (i + 1) = [l[i]]
  rw [List.extract_eq_take_drop, List.drop_eq_getElem_cons hi, show i + 1 - i = 1 by omega]
  rfl
theorem u8ne (c : UInt8) (n : Nat) (hn : n < 256) (h : c ≠ UInt8.ofNat n) : ((c.toNat : Int) == (n : Int)) = false := by
  rw [beq_eq_false_iff_ne]
  intro e
  apply h
  have : c.toNat = n := by omega
  rw [← this]
  simp
set_option maxRecDepth 100000 in
set_option maxHeartbeats 1000000 in
theorem operand_any (l : List UInt8) (hl : l.length ≤ 50) (v : Nat) (hv : v < 65536) (w : World) :
    Calls Tryd.prog 20 #[.string ⟨l.toArray⟩, .int .i64 (v : Nat)] w fun e w' => e = .returned (.string ⟨(opR v 60 l).toArray⟩) ∧ w' = w := by
  have H2 : ∀ w : World, Calls Tryd.prog 18 #[.int .i64 (v : Nat), .int .i64 2] w fun e w' => e = .returned (.string ⟨(hx2 v).toArray⟩) ∧ w' = w := fun w => by
    have h := hex_any v 2 hv (by decide) w
    rw [hexS_2] at h
    exact h
  have H4 : ∀ w : World, Calls Tryd.prog 18 #[.int .i64 (v : Nat), .int .i64 4] w fun e w' => e = .returned (.string ⟨(hx4 v).toArray⟩) ∧ w' = w := fun w => by
    have h := hex_any v 4 hv (by decide) w
    rw [hexS_4] at h
    exact h
  have K2 : Hid _ := H2
  have K4 : Hid _ := H4
  clear H2 H4
  have hx2l : (hx2 v).length = 2 := rfl
  have hx4l : (hx4 v).length = 4 := rfl
  have hsz : (ByteArray.mk l.toArray).size = l.length := by simp [ByteArray.size]
  go_enter Tryd.func20, Tryd.ntmps20
  go_upto_region 3 with fail
  go_loop [5, 6] (fun s i => ∃ (j n : Nat) (t : List UInt8), j ≤ 60 ∧ i = .int .i64 j ∧ s = .string ⟨t.toArray⟩ ∧ t.length ≤ 10 * j ∧ t ++ opR v n (l.drop j) = opR v 60 l ∧ l.length < j + n) (fun _ i => 60 - (intOf i).toNat)
  case atStart => exact ⟨0, 60, [], by omega, rfl, rfl, by simp, rfl, by omega⟩
  case round =>
    obtain ⟨j, n, t, hj, rfl, rfl, htl, hE, hn⟩ := hrel
    have HE : Hid (t ++ opR v n (l.drop j) = opR v 60 l) := hE
    clear hE
    by_cases hjl : j < l.length
    · obtain ⟨q, rfl⟩ : ∃ q, n = q + 1 := ⟨n - 1, by omega⟩
      have hs := HE.out
      rw [opR_at v q l j hjl] at hs
      have hc := cut_one l j hjl
      have hix : (ByteArray.mk l.toArray)[j]'(by rw [hsz]; exact hjl) = l.getD j 0 := by rw [getD_lt l j hjl]; rfl
      by_cases h1 : l.getD j 0 = 104
      · rw [if_pos h1] at hs
        rw [h1] at hix
        have HS : Hid _ := hs
        clear hs HE hc
        generalize hx2 v = X at *
        go_wp2_with (go_at_call 18; go_must (refine (K2.out _).mono ?_; rintro e w1 ⟨rfl, hw1⟩; obtain rfl := hw1.symm))
        go_round
        case rel => exact ⟨j + 2, q, t ++ X, by omega, by go_num, by rw [strApp], by rw [List.length_append]; omega, by rw [List.append_assoc]; exact HS.out, by omega⟩
        case measure => simp [intOf]; omega
      · rw [if_neg h1] at hs
        by_cases h2 : l.getD j 0 = 72
        · rw [if_pos h2] at hs
          rw [h2] at hix
          have HS : Hid _ := hs
          clear hs HE hc
          generalize hx4 v = X at *
          go_wp2_with (go_at_call 18; go_must (refine (K4.out _).mono ?_; rintro e w1 ⟨rfl, hw1⟩; obtain rfl := hw1.symm))
          go_round
          case rel => exact ⟨j + 4, q, t ++ X, by omega, by go_num, by rw [strApp], by rw [List.length_append]; omega, by rw [List.append_assoc]; exact HS.out, by omega⟩
          case measure => simp [intOf]; omega
        · rw [if_neg h2] at hs
          have HS : Hid _ := hs
          clear hs HE
          have n1 := u8ne (l.getD j 0) 104 (by decide) h1
          have n2 := u8ne (l.getD j 0) 72 (by decide) h2
          generalize l.getD j 0 = c at *
          go_wp2
          go_round
          case rel => exact ⟨j + 1, q, t ++ [c], by omega, by go_num, by rw [strApp], by rw [List.length_append]; simp; omega, by rw [List.append_assoc]; exact HS.out, by omega⟩
          case measure => simp [intOf]; omega
    · have e : t = opR v 60 l := by have := HE.out; rw [List.drop_eq_nil_of_le (by omega), opR_nil, List.append_nil] at this; exact this
      have HT : Hid (t = opR v 60 l) := e
      clear e HE
      have hjl' : ¬ (j : Int) < (l.length : Int) := by omega
      go_wp2
      go_ret
      exact ⟨by rw [← HT.out]; rfl, rfl⟩
/-- The document's forms. -/
def rfL : List (List UInt8) := [[], [65], [35, 36, 104, 104], [36, 104, 104], [36, 104, 104, 44, 88], [36, 104, 104, 44, 89], [40, 36, 104, 104, 44, 88, 41], [40, 36, 104, 104, 41, 44, 89], [36, 72, 72, 72, 72], [36, 72, 72, 72, 72, 44, 88], [36, 72, 72, 72, 72, 44, 89], [40, 36, 72, 72, 72, 72, 41], [36, 72, 72, 72, 72]]
theorem opR_rf (m v : Nat) (hm : m < 13) : opR v 60 (rfL.getD m []) = opS m v := by
  have : m = 0 ∨ m = 1 ∨ m = 2 ∨ m = 3 ∨ m = 4 ∨ m = 5 ∨ m = 6 ∨ m = 7 ∨ m = 8 ∨ m = 9 ∨ m = 10 ∨ m = 11 ∨ m = 12 := by omega
  rcases this with rfl | rfl | rfl | rfl | rfl | rfl | rfl | rfl | rfl | rfl | rfl | rfl | rfl <;> rfl
theorem op_len (m v : Nat) : (opS m v).length ≤ 20 := by
  unfold opS
  split <;> simp [hx2, hx4]
theorem rf_len (m : Nat) : (rfL.getD m []).length ≤ 50 := by
  by_cases h : m < 13
  · revert m; decide +kernel
  · simp [List.getD, show 13 ≤ m by omega, rfL]
end Go.Proofs.YtebnapgnnflnhaaDoor
