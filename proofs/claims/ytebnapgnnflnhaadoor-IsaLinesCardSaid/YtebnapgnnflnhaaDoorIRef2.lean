/-
  What cell, named, has of the document's isa answer; conditions: a byte; a name of the list; texts that are not too long.
-/
import Derived.Test.YtebnapgnnflnhaaDoorIRef1
import Derived.WideShapes
set_option linter.unusedSimpArgs false
set_option linter.unusedVariables false
namespace Go.Proofs.YtebnapgnnflnhaaDoor
open Go.RowKit Go.WideShapes
theorem cut_nm : ∀ k : Nat, k < 70 → (ByteArray.mk #[65, 68, 67, 65, 78, 68, 65, 83, 76, 66, 67, 67, 66, 67, 83, 66, 69, 81, 66, 73, 84, 66, 77, 73, 66, 78, 69, 66, 80, 76, 66, 82, 75, 66, 86, 67, 66, 86, 83, 67, 76, 67, 67, 76, 68, 67, 76, 73, 67, 76, 86, 67, 77, 80, 67, 80, 88, 67, 80, 89, 68, 69, 67, 68, 69, 88, 68, 69, 89, 69, 79, 82, 73, 78, 67, 73, 78, 88, 73, 78, 89, 74, 77, 80, 74, 83, 82, 76, 68, 65, 76, 68, 88, 76, 68, 89, 76, 83, 82, 78, 79, 80, 79, 82, 65, 80, 72, 65, 80, 72, 80, 80, 76, 65, 80, 76, 80, 82, 79, 76, 82, 79, 82, 82, 84, 73, 82, 84, 83, 83, 66, 67, 83, 69, 67, 83, 69, 68, 83, 69, 73, 83, 84, 65, 83, 84, 88, 83, 84, 89, 84, 65, 88, 84, 65, 89, 84, 83, 88, 84, 88, 65, 84, 88, 83, 84, 89, 65, 65, 76, 82, 65, 78, 67, 65, 82, 82, 68, 67, 80, 73, 83, 67, 76, 65, 83, 76, 65, 88, 82, 76, 65, 82, 82, 65, 83, 65, 88, 83, 66, 88, 83, 76, 79, 83, 82, 69, 74, 65, 77]).extract (3 * k) (3 * k + 3) = nmB k := cut_name
set_option maxRecDepth 100000 in
theorem named_any (o : Nat) (ho : o < 70) (w : World) :
    Calls Tryd.prog 26 #[.string (nmB o)] w fun e w' => e = .returned (.int .i64 (o : Nat)) ∧ w' = w := by
  go_enter Tryd.func26, Tryd.ntmps26
  go_wp2
  go_loop [3] (fun i => ∃ k : Nat, k ≤ o ∧ i = .int .i64 k) (fun i => 70 - (intOf i).toNat)
  case atStart => exact ⟨0, by omega, rfl⟩
  case round =>
    obtain ⟨k, hk, rfl⟩ := hrel
    have hlt : (k : Int) < 70 := by omega
    have hc := cut_nm k (by omega)
    by_cases hko : k = o
    · subst hko
      go_wp2
      go_ret
      exact ⟨rfl, rfl⟩
    · have he' := nmB_ne k o (by omega) ho hko
      go_wp2
      go_round
      case rel => exact ⟨k + 1, by omega, by go_num⟩
      case measure => simp [intOf]; omega
/-- A piece of a list of bytes. -/
theorem extract_list (l : List UInt8) (a b : Nat) : (⟨l.toArray⟩ : ByteArray).extract a b = ⟨((l.drop a).take (b - a)).toArray⟩ := by
  apply bytes_inj
  simp [ByteArray.data_extract, List.extract]
theorem cell_ok (k : Nat) (hk : k < 256) : (cgo (lineL.getD (k / 16) []) 0 0 (k % 16)).1 ≤ (cgo (lineL.getD (k / 16) []) 0 0 (k % 16)).2 ∧ (cgo (lineL.getD (k / 16) []) 0 0 (k % 16)).2 ≤ (lineL.getD (k / 16) []).length ∧ (lineB (k / 16)).extract (cgo (lineL.getD (k / 16) []) 0 0 (k % 16)).1 (cgo (lineL.getD (k / 16) []) 0 0 (k % 16)).2 = cellB k := by
  have h := List.all_eq_true.1 okCell_all k (by simpa using hk)
  simp only [okCell, Bool.and_eq_true, decide_eq_true_eq, beq_iff_eq] at h
  obtain ⟨⟨h1, h2⟩, h3⟩ := h
  refine ⟨h1, h2, ?_⟩
  unfold lineB cellB
  rw [extract_list, h3]
end Go.Proofs.YtebnapgnnflnhaaDoor
