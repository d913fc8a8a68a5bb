/-
  What begin of the document's isa answers; conditions: a mode's number.
-/
import Derived.Test.YtlolfmpgljpjoaaDoorIApp
set_option linter.unusedSimpArgs false
set_option linter.unusedVariables false
namespace Go.Proofs.YtlolfmpgljpjoaaDoor
open Go.RowKit
theorem begin_0 (w : World) :
    Calls Tryd.prog 22 #[.int .i64 0] w fun e w' => ∃ v, e = .returned v ∧ Acs w' w.heap.size v ([0, 1] ++ rch0 0) ∧ Below w.heap.size w w' := by
  rw [show rch0 0 = [] by rfl]
  have own0 := Acs.new w w.heap.size (Nat.le_refl _) [0, 1] (by simp)
  have hb0 : Below w.heap.size w (w.alloc (.cells (ints [0, 1]).toArray 39)) := (Below.refl _ _).alloc (Nat.le_refl _) _
  have hs0 : w.heap.size ≤ (w.alloc (.cells (ints [0, 1]).toArray 39)).heap.size := by simp
  go_enter Tryd.func22, Tryd.ntmps22
  go_upto_region 2 with fail
  change Code.wp _ _ _ _ (w.alloc (.cells (ints [0, 1]).toArray 39))
  generalize w.alloc (.cells (ints [0, 1]).toArray 39) = W at *
  go_wp2
  go_ret
  exact ⟨_, rfl, own0, hb0⟩
theorem begin_1 (w : World) :
    Calls Tryd.prog 22 #[.int .i64 1] w fun e w' => ∃ v, e = .returned v ∧ Acs w' w.heap.size v ([0, 1] ++ rch0 1) ∧ Below w.heap.size w w' := by
  rw [show rch0 1 = [] by rfl]
  have own0 := Acs.new w w.heap.size (Nat.le_refl _) [0, 1] (by simp)
  have hb0 : Below w.heap.size w (w.alloc (.cells (ints [0, 1]).toArray 39)) := (Below.refl _ _).alloc (Nat.le_refl _) _
  have hs0 : w.heap.size ≤ (w.alloc (.cells (ints [0, 1]).toArray 39)).heap.size := by simp
  go_enter Tryd.func22, Tryd.ntmps22
  go_upto_region 2 with fail
  change Code.wp _ _ _ _ (w.alloc (.cells (ints [0, 1]).toArray 39))
  generalize w.alloc (.cells (ints [0, 1]).toArray 39) = W at *
  go_wp2
  go_ret
  exact ⟨_, rfl, own0, hb0⟩
theorem begin_2 (w : World) :
    Calls Tryd.prog 22 #[.int .i64 2] w fun e w' => ∃ v, e = .returned v ∧ Acs w' w.heap.size v ([0, 1] ++ rch0 2) ∧ Below w.heap.size w w' := by
  rw [show rch0 2 = [] by rfl]
  have own0 := Acs.new w w.heap.size (Nat.le_refl _) [0, 1] (by simp)
  have hb0 : Below w.heap.size w (w.alloc (.cells (ints [0, 1]).toArray 39)) := (Below.refl _ _).alloc (Nat.le_refl _) _
  have hs0 : w.heap.size ≤ (w.alloc (.cells (ints [0, 1]).toArray 39)).heap.size := by simp
  go_enter Tryd.func22, Tryd.ntmps22
  go_upto_region 2 with fail
  change Code.wp _ _ _ _ (w.alloc (.cells (ints [0, 1]).toArray 39))
  generalize w.alloc (.cells (ints [0, 1]).toArray 39) = W at *
  go_wp2
  go_ret
  exact ⟨_, rfl, own0, hb0⟩
theorem begin_3 (w : World) :
    Calls Tryd.prog 22 #[.int .i64 3] w fun e w' => ∃ v, e = .returned v ∧ Acs w' w.heap.size v ([0, 1] ++ rch0 3) ∧ Below w.heap.size w w' := by
  rw [show rch0 3 = [] by rfl]
  have own0 := Acs.new w w.heap.size (Nat.le_refl _) [0, 1] (by simp)
  have hb0 : Below w.heap.size w (w.alloc (.cells (ints [0, 1]).toArray 39)) := (Below.refl _ _).alloc (Nat.le_refl _) _
  have hs0 : w.heap.size ≤ (w.alloc (.cells (ints [0, 1]).toArray 39)).heap.size := by simp
  go_enter Tryd.func22, Tryd.ntmps22
  go_upto_region 2 with fail
  change Code.wp _ _ _ _ (w.alloc (.cells (ints [0, 1]).toArray 39))
  generalize w.alloc (.cells (ints [0, 1]).toArray 39) = W at *
  go_wp2
  go_ret
  exact ⟨_, rfl, own0, hb0⟩
theorem begin_4 (w : World) :
    Calls Tryd.prog 22 #[.int .i64 4] w fun e w' => ∃ v, e = .returned v ∧ Acs w' w.heap.size v ([0, 1] ++ rch0 4) ∧ Below w.heap.size w w' := by
  rw [show rch0 4 = [3] by rfl]
  have own0 := Acs.new w w.heap.size (Nat.le_refl _) [0, 1] (by simp)
  have hb0 : Below w.heap.size w (w.alloc (.cells (ints [0, 1]).toArray 39)) := (Below.refl _ _).alloc (Nat.le_refl _) _
  have hs0 : w.heap.size ≤ (w.alloc (.cells (ints [0, 1]).toArray 39)).heap.size := by simp
  go_enter Tryd.func22, Tryd.ntmps22
  go_upto_region 2 with fail
  change Code.wp _ _ _ _ (w.alloc (.cells (ints [0, 1]).toArray 39))
  generalize w.alloc (.cells (ints [0, 1]).toArray 39) = W at *
  go_wp2_with (at_builtin; refine wpList_app (m := [3]) rfl _ _ rfl own0 hb0 hs0 rfl rfl (by simp) ?_; intro v w1 own1 hb1 hs1)
  go_ret
  exact ⟨_, rfl, own1, hb1⟩
theorem begin_5 (w : World) :
    Calls Tryd.prog 22 #[.int .i64 5] w fun e w' => ∃ v, e = .returned v ∧ Acs w' w.heap.size v ([0, 1] ++ rch0 5) ∧ Below w.heap.size w w' := by
  rw [show rch0 5 = [3] by rfl]
  have own0 := Acs.new w w.heap.size (Nat.le_refl _) [0, 1] (by simp)
  have hb0 : Below w.heap.size w (w.alloc (.cells (ints [0, 1]).toArray 39)) := (Below.refl _ _).alloc (Nat.le_refl _) _
  have hs0 : w.heap.size ≤ (w.alloc (.cells (ints [0, 1]).toArray 39)).heap.size := by simp
  go_enter Tryd.func22, Tryd.ntmps22
  go_upto_region 2 with fail
  change Code.wp _ _ _ _ (w.alloc (.cells (ints [0, 1]).toArray 39))
  generalize w.alloc (.cells (ints [0, 1]).toArray 39) = W at *
  go_wp2_with (at_builtin; refine wpList_app (m := [3]) rfl _ _ rfl own0 hb0 hs0 rfl rfl (by simp) ?_; intro v w1 own1 hb1 hs1)
  go_ret
  exact ⟨_, rfl, own1, hb1⟩
theorem begin_6 (w : World) :
    Calls Tryd.prog 22 #[.int .i64 6] w fun e w' => ∃ v, e = .returned v ∧ Acs w' w.heap.size v ([0, 1] ++ rch0 6) ∧ Below w.heap.size w w' := by
  rw [show rch0 6 = [3, 4, 5] by rfl]
  have own0 := Acs.new w w.heap.size (Nat.le_refl _) [0, 1] (by simp)
  have hb0 : Below w.heap.size w (w.alloc (.cells (ints [0, 1]).toArray 39)) := (Below.refl _ _).alloc (Nat.le_refl _) _
  have hs0 : w.heap.size ≤ (w.alloc (.cells (ints [0, 1]).toArray 39)).heap.size := by simp
  go_enter Tryd.func22, Tryd.ntmps22
  go_upto_region 2 with fail
  change Code.wp _ _ _ _ (w.alloc (.cells (ints [0, 1]).toArray 39))
  generalize w.alloc (.cells (ints [0, 1]).toArray 39) = W at *
  go_wp2_with (at_builtin; refine wpList_app (m := [3, 4, 5]) rfl _ _ rfl own0 hb0 hs0 rfl rfl (by simp) ?_; intro v w1 own1 hb1 hs1)
  go_ret
  exact ⟨_, rfl, own1, hb1⟩
theorem begin_7 (w : World) :
    Calls Tryd.prog 22 #[.int .i64 7] w fun e w' => ∃ v, e = .returned v ∧ Acs w' w.heap.size v ([0, 1] ++ rch0 7) ∧ Below w.heap.size w w' := by
  rw [show rch0 7 = [4, 5] by rfl]
  have own0 := Acs.new w w.heap.size (Nat.le_refl _) [0, 1] (by simp)
  have hb0 : Below w.heap.size w (w.alloc (.cells (ints [0, 1]).toArray 39)) := (Below.refl _ _).alloc (Nat.le_refl _) _
  have hs0 : w.heap.size ≤ (w.alloc (.cells (ints [0, 1]).toArray 39)).heap.size := by simp
  go_enter Tryd.func22, Tryd.ntmps22
  go_upto_region 2 with fail
  change Code.wp _ _ _ _ (w.alloc (.cells (ints [0, 1]).toArray 39))
  generalize w.alloc (.cells (ints [0, 1]).toArray 39) = W at *
  go_wp2_with (at_builtin; refine wpList_app (m := [4, 5]) rfl _ _ rfl own0 hb0 hs0 rfl rfl (by simp) ?_; intro v w1 own1 hb1 hs1)
  go_ret
  exact ⟨_, rfl, own1, hb1⟩
theorem begin_8 (w : World) :
    Calls Tryd.prog 22 #[.int .i64 8] w fun e w' => ∃ v, e = .returned v ∧ Acs w' w.heap.size v ([0, 1] ++ rch0 8) ∧ Below w.heap.size w w' := by
  rw [show rch0 8 = [1] by rfl]
  have own0 := Acs.new w w.heap.size (Nat.le_refl _) [0, 1] (by simp)
  have hb0 : Below w.heap.size w (w.alloc (.cells (ints [0, 1]).toArray 39)) := (Below.refl _ _).alloc (Nat.le_refl _) _
  have hs0 : w.heap.size ≤ (w.alloc (.cells (ints [0, 1]).toArray 39)).heap.size := by simp
  go_enter Tryd.func22, Tryd.ntmps22
  go_upto_region 2 with fail
  change Code.wp _ _ _ _ (w.alloc (.cells (ints [0, 1]).toArray 39))
  generalize w.alloc (.cells (ints [0, 1]).toArray 39) = W at *
  go_wp2_with (at_builtin; refine wpList_app (m := [1]) rfl _ _ rfl own0 hb0 hs0 rfl rfl (by simp) ?_; intro v w1 own1 hb1 hs1)
  go_ret
  exact ⟨_, rfl, own1, hb1⟩
theorem begin_9 (w : World) :
    Calls Tryd.prog 22 #[.int .i64 9] w fun e w' => ∃ v, e = .returned v ∧ Acs w' w.heap.size v ([0, 1] ++ rch0 9) ∧ Below w.heap.size w w' := by
  rw [show rch0 9 = [1] by rfl]
  have own0 := Acs.new w w.heap.size (Nat.le_refl _) [0, 1] (by simp)
  have hb0 : Below w.heap.size w (w.alloc (.cells (ints [0, 1]).toArray 39)) := (Below.refl _ _).alloc (Nat.le_refl _) _
  have hs0 : w.heap.size ≤ (w.alloc (.cells (ints [0, 1]).toArray 39)).heap.size := by simp
  go_enter Tryd.func22, Tryd.ntmps22
  go_upto_region 2 with fail
  change Code.wp _ _ _ _ (w.alloc (.cells (ints [0, 1]).toArray 39))
  generalize w.alloc (.cells (ints [0, 1]).toArray 39) = W at *
  go_wp2_with (at_builtin; refine wpList_app (m := [1]) rfl _ _ rfl own0 hb0 hs0 rfl rfl (by simp) ?_; intro v w1 own1 hb1 hs1)
  go_ret
  exact ⟨_, rfl, own1, hb1⟩
theorem begin_10 (w : World) :
    Calls Tryd.prog 22 #[.int .i64 10] w fun e w' => ∃ v, e = .returned v ∧ Acs w' w.heap.size v ([0, 1] ++ rch0 10) ∧ Below w.heap.size w w' := by
  rw [show rch0 10 = [1] by rfl]
  have own0 := Acs.new w w.heap.size (Nat.le_refl _) [0, 1] (by simp)
  have hb0 : Below w.heap.size w (w.alloc (.cells (ints [0, 1]).toArray 39)) := (Below.refl _ _).alloc (Nat.le_refl _) _
  have hs0 : w.heap.size ≤ (w.alloc (.cells (ints [0, 1]).toArray 39)).heap.size := by simp
  go_enter Tryd.func22, Tryd.ntmps22
  go_upto_region 2 with fail
  change Code.wp _ _ _ _ (w.alloc (.cells (ints [0, 1]).toArray 39))
  generalize w.alloc (.cells (ints [0, 1]).toArray 39) = W at *
  go_wp2_with (at_builtin; refine wpList_app (m := [1]) rfl _ _ rfl own0 hb0 hs0 rfl rfl (by simp) ?_; intro v w1 own1 hb1 hs1)
  go_ret
  exact ⟨_, rfl, own1, hb1⟩
theorem begin_11 (w : World) :
    Calls Tryd.prog 22 #[.int .i64 11] w fun e w' => ∃ v, e = .returned v ∧ Acs w' w.heap.size v ([0, 1] ++ rch0 11) ∧ Below w.heap.size w w' := by
  rw [show rch0 11 = [] by rfl]
  have own0 := Acs.new w w.heap.size (Nat.le_refl _) [0, 1] (by simp)
  have hb0 : Below w.heap.size w (w.alloc (.cells (ints [0, 1]).toArray 39)) := (Below.refl _ _).alloc (Nat.le_refl _) _
  have hs0 : w.heap.size ≤ (w.alloc (.cells (ints [0, 1]).toArray 39)).heap.size := by simp
  go_enter Tryd.func22, Tryd.ntmps22
  go_upto_region 2 with fail
  change Code.wp _ _ _ _ (w.alloc (.cells (ints [0, 1]).toArray 39))
  generalize w.alloc (.cells (ints [0, 1]).toArray 39) = W at *
  go_wp2
  go_ret
  exact ⟨_, rfl, own0, hb0⟩
theorem begin_12 (w : World) :
    Calls Tryd.prog 22 #[.int .i64 12] w fun e w' => ∃ v, e = .returned v ∧ Acs w' w.heap.size v ([0, 1] ++ rch0 12) ∧ Below w.heap.size w w' := by
  rw [show rch0 12 = [] by rfl]
  have own0 := Acs.new w w.heap.size (Nat.le_refl _) [0, 1] (by simp)
  have hb0 : Below w.heap.size w (w.alloc (.cells (ints [0, 1]).toArray 39)) := (Below.refl _ _).alloc (Nat.le_refl _) _
  have hs0 : w.heap.size ≤ (w.alloc (.cells (ints [0, 1]).toArray 39)).heap.size := by simp
  go_enter Tryd.func22, Tryd.ntmps22
  go_upto_region 2 with fail
  change Code.wp _ _ _ _ (w.alloc (.cells (ints [0, 1]).toArray 39))
  generalize w.alloc (.cells (ints [0, 1]).toArray 39) = W at *
  go_wp2
  go_ret
  exact ⟨_, rfl, own0, hb0⟩
theorem begin_any (m : Nat) (hm : m < 13) (w : World) :
    Calls Tryd.prog 22 #[.int .i64 (m : Nat)] w fun e w' => ∃ v, e = .returned v ∧ Acs w' w.heap.size v ([0, 1] ++ rch0 m) ∧ Below w.heap.size w w' := by
  match m, hm with
  | 0, _ => exact begin_0 w
  | 1, _ => exact begin_1 w
  | 2, _ => exact begin_2 w
  | 3, _ => exact begin_3 w
  | 4, _ => exact begin_4 w
  | 5, _ => exact begin_5 w
  | 6, _ => exact begin_6 w
  | 7, _ => exact begin_7 w
  | 8, _ => exact begin_8 w
  | 9, _ => exact begin_9 w
  | 10, _ => exact begin_10 w
  | 11, _ => exact begin_11 w
  | 12, _ => exact begin_12 w
end Go.Proofs.YtlolfmpgljpjoaaDoor
