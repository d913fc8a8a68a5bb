/-
  The names of package isa, as they lie in memory; Name, and the document's Name.
-/
import Derived.Test.YtebnapgnnflnhaaDoorRows
import Derived.WalkKit
import Derived.WalkSpells
import Derived.WalkLawsBesides
set_option linter.unusedSimpArgs false
set_option linter.unusedVariables false
namespace Go.Proofs.YtebnapgnnflnhaaDoor
open Go.RowKit
def nmL : List (List UInt8) := [[65, 68, 67], [65, 78, 68], [65, 83, 76], [66, 67, 67], [66, 67, 83], [66, 69, 81], [66, 73, 84], [66, 77, 73], [66, 78, 69], [66, 80, 76], [66, 82, 75], [66, 86, 67], [66, 86, 83], [67, 76, 67], [67, 76, 68], [67, 76, 73], [67, 76, 86], [67, 77, 80], [67, 80, 88], [67, 80, 89], [68, 69, 67], [68, 69, 88], [68, 69, 89], [69, 79, 82], [73, 78, 67], [73, 78, 88], [73, 78, 89], [74, 77, 80], [74, 83, 82], [76, 68, 65], [76, 68, 88], [76, 68, 89], [76, 83, 82], [78, 79, 80], [79, 82, 65], [80, 72, 65], [80, 72, 80], [80, 76, 65], [80, 76, 80], [82, 79, 76], [82, 79, 82], [82, 84, 73], [82, 84, 83], [83, 66, 67], [83, 69, 67], [83, 69, 68], [83, 69, 73], [83, 84, 65], [83, 84, 88], [83, 84, 89], [84, 65, 88], [84, 65, 89], [84, 83, 88], [84, 88, 65], [84, 88, 83], [84, 89, 65], [65, 76, 82], [65, 78, 67], [65, 82, 82], [68, 67, 80], [73, 83, 67], [76, 65, 83], [76, 65, 88], [82, 76, 65], [82, 82, 65], [83, 65, 88], [83, 66, 88], [83, 76, 79], [83, 82, 69], [74, 65, 77]]
/-- The name of a number. -/
def nmS (op : Int) : ByteArray := if 0 ≤ op ∧ op < 70 then ⟨(nmL.getD op.toNat []).toArray⟩ else ⟨#[]⟩
/-- The names lie in their variable. -/
structure NTab (w : World) : Prop where
  nm : ∀ i, i < 70 → w.cell? ⟨0, i, none⟩ = some (.string ⟨(nmL.getD i []).toArray⟩)
theorem name_any (op : Int) (w : World) (T : NTab w) :
    Calls Tryd.prog 24 #[.int .i64 op] w fun e w' => e = .returned (.string (nmS op)) ∧ w' = w := by
  by_cases h0 : 0 ≤ op
  · by_cases h1 : op < 70
    · obtain ⟨k, rfl⟩ := Int.eq_ofNat_of_zero_le h0
      have hc := T.nm k (by omega)
      have E : Hid (nmS (k : Int) = ⟨(nmL.getD k []).toArray⟩) := by
        unfold Hid nmS; rw [if_pos ⟨h0, h1⟩]; rfl
      clear T
      generalize (⟨(nmL.getD k []).toArray⟩ : ByteArray) = z at *
      go_enter Tryd.func24, Tryd.ntmps24
      go_wp2
      go_ret
      exact ⟨congrArg (fun x => Ending.returned (.string x)) E.out.symm, rfl⟩
    · have E : Hid (nmS op = ⟨#[]⟩) := by unfold Hid nmS; rw [if_neg (by omega)]
      clear T
      go_enter Tryd.func24, Tryd.ntmps24
      go_wp2
      go_ret
      exact ⟨congrArg (fun x => Ending.returned (.string x)) E.out.symm, rfl⟩
  · have E : Hid (nmS op = ⟨#[]⟩) := by unfold Hid nmS; rw [if_neg (by omega)]
    clear T
    go_enter Tryd.func24, Tryd.ntmps24
    go_wp2
    go_ret
    exact ⟨congrArg (fun x => Ending.returned (.string x)) E.out.symm, rfl⟩
set_option maxRecDepth 100000 in
theorem cut_name : ∀ k : Nat, k < 70 → (ByteArray.mk #[65, 68, 67, 65, 78, 68, 65, 83, 76, 66, 67, 67, 66, 67, 83, 66, 69, 81, 66, 73, 84, 66, 77, 73, 66, 78, 69, 66, 80, 76, 66, 82, 75, 66, 86, 67, 66, 86, 83, 67, 76, 67, 67, 76, 68, 67, 76, 73, 67, 76, 86, 67, 77, 80, 67, 80, 88, 67, 80, 89, 68, 69, 67, 68, 69, 88, 68, 69, 89, 69, 79, 82, 73, 78, 67, 73, 78, 88, 73, 78, 89, 74, 77, 80, 74, 83, 82, 76, 68, 65, 76, 68, 88, 76, 68, 89, 76, 83, 82, 78, 79, 80, 79, 82, 65, 80, 72, 65, 80, 72, 80, 80, 76, 65, 80, 76, 80, 82, 79, 76, 82, 79, 82, 82, 84, 73, 82, 84, 83, 83, 66, 67, 83, 69, 67, 83, 69, 68, 83, 69, 73, 83, 84, 65, 83, 84, 88, 83, 84, 89, 84, 65, 88, 84, 65, 89, 84, 83, 88, 84, 88, 65, 84, 88, 83, 84, 89, 65, 65, 76, 82, 65, 78, 67, 65, 82, 82, 68, 67, 80, 73, 83, 67, 76, 65, 83, 76, 65, 88, 82, 76, 65, 82, 82, 65, 83, 65, 88, 83, 66, 88, 83, 76, 79, 83, 82, 69, 74, 65, 77]).extract (3 * k) (3 * k + 3) = ⟨(nmL.getD k []).toArray⟩ := by decide +kernel
set_option maxRecDepth 100000 in
theorem refName_any (op : Int) (w : World) :
    Calls Tryd.prog 16 #[.int .i64 op] w fun e w' => e = .returned (.string (nmS op)) ∧ w' = w := by
  by_cases h0 : 0 ≤ op
  · by_cases h1 : op < 70
    · obtain ⟨k, rfl⟩ := Int.eq_ofNat_of_zero_le h0
      have E : Hid (nmS (k : Int) = ⟨(nmL.getD k []).toArray⟩) := by
        unfold Hid nmS; rw [if_pos ⟨h0, h1⟩]; rfl
      go_enter Tryd.func16, Tryd.ntmps16
      go_wp2
      go_ret
      exact ⟨congrArg (fun x => Ending.returned (.string x)) ((cut_name k (by omega)).trans E.out.symm), rfl⟩
    · have E : Hid (nmS op = ⟨#[]⟩) := by unfold Hid nmS; rw [if_neg (by omega)]
      go_enter Tryd.func16, Tryd.ntmps16
      go_wp2
      go_ret
      exact ⟨congrArg (fun x => Ending.returned (.string x)) E.out.symm, rfl⟩
  · have E : Hid (nmS op = ⟨#[]⟩) := by unfold Hid nmS; rw [if_neg (by omega)]
    go_enter Tryd.func16, Tryd.ntmps16
    go_wp2
    go_ret
    exact ⟨congrArg (fun x => Ending.returned (.string x)) E.out.symm, rfl⟩
end Go.Proofs.YtebnapgnnflnhaaDoor
