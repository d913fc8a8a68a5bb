/-
  Texts of operands: plain facts.
-/
import Derived.WalkKit
set_option linter.unusedSimpArgs false
set_option linter.unusedVariables false
namespace Go.Proofs.YtebnapgnnflnhaaDoor
open Go.RowKit
/-- A digit's sign. -/
def dig (n : Nat) : UInt8 := [48, 49, 50, 51, 52, 53, 54, 55, 56, 57, 65, 66, 67, 68, 69, 70].getD n 0
def hx2 (v : Nat) : List UInt8 := [dig (v / 16 % 16), dig (v % 16)]
def hx4 (v : Nat) : List UInt8 := [dig (v / 16 / 16 / 16 % 16), dig (v / 16 / 16 % 16), dig (v / 16 % 16), dig (v % 16)]
/-- One sign of a form filled, from behind. -/
def fst1 (c : UInt8) (p : List UInt8 × Nat) : List UInt8 × Nat := if c = 104 then (dig (p.2 % 16) :: p.1, p.2 / 16) else (c :: p.1, p.2)
def fillP (l : List UInt8) (v : Nat) : List UInt8 × Nat := l.foldr fst1 ([], v)
theorem fillP_len (l : List UInt8) (v : Nat) : (fillP l v).1.length = l.length := by
  unfold fillP
  induction l with
  | nil => rfl
  | cons c l ih => rw [List.foldr_cons, fst1]; split <;> simp [ih]
theorem fillP_le (l : List UInt8) (v : Nat) : (fillP l v).2 ≤ v := by
  unfold fillP
  induction l with
  | nil => exact Nat.le_refl _
  | cons c l ih =>
    rw [List.foldr_cons, fst1]
    split
    · exact Nat.le_trans (Nat.div_le_self _ _) ih
    · exact ih
/-- What stands when all from place j on is filled. -/
def fillA (l : List UInt8) (v j : Nat) : List UInt8 := l.take j ++ (fillP (l.drop j) v).1
theorem fillA_len (l : List UInt8) (v j : Nat) : (fillA l v j).length = l.length := by
  unfold fillA; rw [List.length_append, fillP_len, ← List.length_append, List.take_append_drop]
theorem fillA_end (l : List UInt8) (v : Nat) : fillA l v l.length = l := by simp [fillA, fillP]
theorem fillA_zero (l : List UInt8) (v : Nat) : fillA l v 0 = (fillP l v).1 := by simp [fillA]
theorem getD_lt (l : List UInt8) (j : Nat) (hj : j < l.length) : l.getD j 0 = l[j] := by simp [List.getD, hj]
theorem fillP_drop (l : List UInt8) (v j : Nat) (hj : j < l.length) : fillP (l.drop j) v = fst1 (l.getD j 0) (fillP (l.drop (j + 1)) v) := by
  unfold fillP
  rw [List.drop_eq_getElem_cons hj, List.foldr_cons, getD_lt l j hj]
theorem take_one (l : List UInt8) (j : Nat) (hj : j < l.length) : l.take (j + 1) = l.take j ++ [l.getD j 0] := by
  rw [List.take_add_one, getD_lt l j hj, List.getElem?_eq_getElem hj]; rfl
theorem fillA_at (l : List UInt8) (v j : Nat) (hj : j < l.length) : (fillA l v (j + 1)).getD j 0 = l.getD j 0 := by
  have hl : (l.take j).length = j := by rw [List.length_take]; omega
  unfold fillA
  rw [take_one l j hj, List.append_assoc]
  rw [List.getD_eq_getElem?_getD, List.getElem?_append_right (by omega), hl, Nat.sub_self]
  rfl
theorem fillA_no (l : List UInt8) (v j : Nat) (hj : j < l.length) (h : l.getD j 0 ≠ 104) : fillA l v j = fillA l v (j + 1) ∧ (fillP (l.drop j) v).2 = (fillP (l.drop (j + 1)) v).2 := by
  have e := fillP_drop l v j hj
  rw [fst1, if_neg h] at e
  refine ⟨?_, by rw [e]⟩
  unfold fillA
  rw [e, take_one l j hj, List.append_assoc]
  rfl
theorem fillA_yes (l : List UInt8) (v j : Nat) (hj : j < l.length) (h : l.getD j 0 = 104) : fillA l v j = (fillA l v (j + 1)).set j (dig ((fillP (l.drop (j + 1)) v).2 % 16)) ∧ (fillP (l.drop j) v).2 = (fillP (l.drop (j + 1)) v).2 / 16 := by
  have hl : (l.take j).length = j := by rw [List.length_take]; omega
  have e := fillP_drop l v j hj
  rw [fst1, if_pos h] at e
  refine ⟨?_, by rw [e]⟩
  unfold fillA
  rw [e, take_one l j hj, List.append_assoc, List.set_append_right _ _ (by omega), hl, Nat.sub_self]
  rfl
theorem dig_nat (n : Nat) (h : n < 16) : ((dig n).toNat : Int) < 256 := by
  revert n; decide +kernel
/-- How an operand of a mode is written. -/
def opS (md v : Nat) : List UInt8 :=
  match md with
  | 0 => []
  | 1 => [65]
  | 2 => [35, 36] ++ hx2 v
  | 3 => [36] ++ hx2 v
  | 4 => [36] ++ hx2 v ++ [44, 88]
  | 5 => [36] ++ hx2 v ++ [44, 89]
  | 6 => [40, 36] ++ hx2 v ++ [44, 88, 41]
  | 7 => [40, 36] ++ hx2 v ++ [41, 44, 89]
  | 8 => [36] ++ hx4 v
  | 9 => [36] ++ hx4 v ++ [44, 88]
  | 10 => [36] ++ hx4 v ++ [44, 89]
  | 11 => [40, 36] ++ hx4 v ++ [41]
  | _ => [36] ++ hx4 v
/-- The code's written forms, the blank ahead of it too. -/
def wrL : List (List UInt8) := [[], [32, 65], [32, 35, 36, 104, 104], [32, 36, 104, 104], [32, 36, 104, 104, 44, 88], [32, 36, 104, 104, 44, 89], [32, 40, 36, 104, 104, 44, 88, 41], [32, 40, 36, 104, 104, 41, 44, 89], [32, 36, 104, 104, 104, 104], [32, 36, 104, 104, 104, 104, 44, 88], [32, 36, 104, 104, 104, 104, 44, 89], [32, 40, 36, 104, 104, 104, 104, 41]]
def wrB (m : Nat) : List UInt8 := wrL.getD (if m < 12 then m else 8) []
theorem fill_wr (m v : Nat) (hm : m < 13) : (fillP (wrB m) v).1 = if m = 0 then [] else 32 :: opS m v := by
  have : m = 0 ∨ m = 1 ∨ m = 2 ∨ m = 3 ∨ m = 4 ∨ m = 5 ∨ m = 6 ∨ m = 7 ∨ m = 8 ∨ m = 9 ∨ m = 10 ∨ m = 11 ∨ m = 12 := by omega
  rcases this with rfl | rfl | rfl | rfl | rfl | rfl | rfl | rfl | rfl | rfl | rfl | rfl | rfl <;> rfl
theorem fill_point (v : Nat) : (fillP [46, 104, 104] v).1 = 46 :: hx2 v := rfl
end Go.Proofs.YtebnapgnnflnhaaDoor
