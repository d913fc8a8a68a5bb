/-
  The contracts of the document's Needs and Sets.
-/
import Derived.Test.YtlpdbdhghfnakabDoorATab
namespace Go.Proofs.YtlpdbdhghfnakabDoor
open Go.RowKit
theorem ret8 {a b : Int} (h : a = b) : Ending.returned (.int .u8 a) = .returned (.int .u8 b) := by rw [h]
theorem retB {a b : Bool} (h : a = b) : Ending.returned (.bool a) = .returned (.bool b) := by rw [h]
theorem nd_zero (op : Int) (h : op ≠ 0 ∧ op ≠ 3 ∧ op ≠ 4 ∧ op ≠ 5 ∧ op ≠ 7 ∧ op ≠ 8 ∧ op ≠ 9 ∧ op ≠ 10 ∧ op ≠ 11 ∧ op ≠ 12 ∧ op ≠ 36 ∧ op ≠ 39 ∧ op ≠ 40 ∧ op ≠ 43 ∧ op ≠ 58 ∧ op ≠ 60 ∧ op ≠ 63 ∧ op ≠ 64) : nd op = 0 := by
  unfold nd
  split
  · rename_i hb
    obtain ⟨k, rfl⟩ := Int.eq_ofNat_of_zero_le hb.1
    have : ∀ k : Nat, k < 70 → ndL.getD k 0 = 0 ∨ k ∈ [0, 3, 4, 5, 7, 8, 9, 10, 11, 12, 36, 39, 40, 43, 58, 60, 63, 64] := by decide +kernel
    rcases this k (by omega) with e | e
    · exact e
    · exfalso
      simp only [List.mem_cons, List.not_mem_nil, or_false] at e
      omega
  · rfl
set_option maxHeartbeats 4000000 in
theorem rneeds_any (op : Int) (w : World) :
    Calls Tryd.prog 22 #[.int .i64 op] w fun e w' => e = .returned (.int .u8 (nd op)) ∧ w' = w := by
  go_enter Tryd.func22, Tryd.ntmps22
  go_wp2
  all_goals
    go_ret
    first
      | exact ⟨ret8 (nd_zero op (by simp only [beq_eq_false_iff_ne] at *; omega)).symm, rfl⟩
      | (have hh := eq_of_beq ‹(op == _) = true›; subst hh; exact ⟨rfl, rfl⟩)
theorem st_zero (op : Int) (h : op ≠ 0 ∧ op ≠ 1 ∧ op ≠ 2 ∧ op ≠ 6 ∧ op ≠ 10 ∧ op ≠ 13 ∧ op ≠ 14 ∧ op ≠ 15 ∧ op ≠ 16 ∧ op ≠ 17 ∧ op ≠ 18 ∧ op ≠ 19 ∧ op ≠ 20 ∧ op ≠ 21 ∧ op ≠ 22 ∧ op ≠ 23 ∧ op ≠ 24 ∧ op ≠ 25 ∧ op ≠ 26 ∧ op ≠ 29 ∧ op ≠ 30 ∧ op ≠ 31 ∧ op ≠ 32 ∧ op ≠ 34 ∧ op ≠ 37 ∧ op ≠ 38 ∧ op ≠ 39 ∧ op ≠ 40 ∧ op ≠ 41 ∧ op ≠ 43 ∧ op ≠ 44 ∧ op ≠ 45 ∧ op ≠ 46 ∧ op ≠ 50 ∧ op ≠ 51 ∧ op ≠ 52 ∧ op ≠ 53 ∧ op ≠ 55 ∧ op ≠ 56 ∧ op ≠ 57 ∧ op ≠ 58 ∧ op ≠ 59 ∧ op ≠ 60 ∧ op ≠ 61 ∧ op ≠ 62 ∧ op ≠ 63 ∧ op ≠ 64 ∧ op ≠ 66 ∧ op ≠ 67 ∧ op ≠ 68) : st op = 0 := by
  unfold st
  split
  · rename_i hb
    obtain ⟨k, rfl⟩ := Int.eq_ofNat_of_zero_le hb.1
    have : ∀ k : Nat, k < 70 → stL.getD k 0 = 0 ∨ k ∈ [0, 1, 2, 6, 10, 13, 14, 15, 16, 17, 18, 19, 20, 21, 22, 23, 24, 25, 26, 29, 30, 31, 32, 34, 37, 38, 39, 40, 41, 43, 44, 45, 46, 50, 51, 52, 53, 55, 56, 57, 58, 59, 60, 61, 62, 63, 64, 66, 67, 68] := by decide +kernel
    rcases this k (by omega) with e | e
    · exact e
    · exfalso
      simp only [List.mem_cons, List.not_mem_nil, or_false] at e
      omega
  · rfl
set_option maxHeartbeats 4000000 in
theorem rsets_any (op : Int) (w : World) :
    Calls Tryd.prog 23 #[.int .i64 op] w fun e w' => e = .returned (.int .u8 (st op)) ∧ w' = w := by
  go_enter Tryd.func23, Tryd.ntmps23
  go_wp2
  all_goals
    go_ret
    first
      | exact ⟨ret8 (st_zero op (by simp only [beq_eq_false_iff_ne] at *; omega)).symm, rfl⟩
      | (have hh := eq_of_beq ‹(op == _) = true›; subst hh; exact ⟨rfl, rfl⟩)
end Go.Proofs.YtlpdbdhghfnakabDoor
