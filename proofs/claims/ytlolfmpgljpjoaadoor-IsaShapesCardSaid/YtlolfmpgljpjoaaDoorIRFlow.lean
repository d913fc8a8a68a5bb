/-
  What flow of the document's isa answers; conditions: a byte's row.
-/
import Derived.Test.YtlolfmpgljpjoaaDoorIApp
set_option linter.unusedSimpArgs false
set_option linter.unusedVariables false
namespace Go.Proofs.YtlolfmpgljpjoaaDoor
open Go.RowKit
theorem Hid.mk2 {p : Prop} (h : p) : Hid p := h
theorem flow_0i (op : Int) (ln cy cl : Int) (cr tk : Bool) (w : World) :
    Calls Tryd.prog 21 #[.agg #[.int .i64 op, .int .i64 2, .int .i64 0, .int .i64 ln, .int .i64 cy, .int .i64 cl], .bool cr, .bool tk] w fun e w' => ∃ v, e = .returned v ∧ Acs w' w.heap.size v ([0] ++ [1]) ∧ Below w.heap.size w w' := by
  have own0 := Acs.new (w.alloc (.cells #[.int .i64 op, .int .i64 2, .int .i64 0, .int .i64 ln, .int .i64 cy, .int .i64 cl] 28)) (w.heap.size + 1) (by simp) [0] (by simp)
  have hb0 : Below (w.heap.size + 1) (w.alloc (.cells #[.int .i64 op, .int .i64 2, .int .i64 0, .int .i64 ln, .int .i64 cy, .int .i64 cl] 28)) ((w.alloc (.cells #[.int .i64 op, .int .i64 2, .int .i64 0, .int .i64 ln, .int .i64 cy, .int .i64 cl] 28)).alloc (.cells (ints [0]).toArray 39)) := (Below.refl _ _).alloc (by simp) _
  have hs0 : w.heap.size + 1 ≤ ((w.alloc (.cells #[.int .i64 op, .int .i64 2, .int .i64 0, .int .i64 ln, .int .i64 cy, .int .i64 cl] 28)).alloc (.cells (ints [0]).toArray 39)).heap.size := by simp
  have iB0 : Blk (w.alloc (.cells #[.int .i64 op, .int .i64 2, .int .i64 0, .int .i64 ln, .int .i64 cy, .int .i64 cl] 28)) w.heap.size #[.int .i64 op, .int .i64 2, .int .i64 0, .int .i64 ln, .int .i64 cy, .int .i64 cl] 28 := Blk.new w _ _
  have hW0 : Below w.heap.size w (w.alloc (.cells #[.int .i64 op, .int .i64 2, .int .i64 0, .int .i64 ln, .int .i64 cy, .int .i64 cl] 28)) := (Below.refl _ _).alloc (Nat.le_refl _) _
  have hZ0 : (w.alloc (.cells #[.int .i64 op, .int .i64 2, .int .i64 0, .int .i64 ln, .int .i64 cy, .int .i64 cl] 28)).heap.size = w.heap.size + 1 := by simp
  go_enter Tryd.func21, Tryd.ntmps21
  go_upto_region 2 with fail
  change Code.wp _ _ _ _ ((w.alloc (.cells #[.int .i64 op, .int .i64 2, .int .i64 0, .int .i64 ln, .int .i64 cy, .int .i64 cl] 28)).alloc (.cells (ints [0]).toArray 39))
  generalize ((w.alloc (.cells #[.int .i64 op, .int .i64 2, .int .i64 0, .int .i64 ln, .int .i64 cy, .int .i64 cl] 28)).alloc (.cells (ints [0]).toArray 39)) = W at *
  rw [hZ0] at own0
  generalize (w.alloc (.cells #[.int .i64 op, .int .i64 2, .int .i64 0, .int .i64 ln, .int .i64 cy, .int .i64 cl] 28)) = W0 at *
  have ic0 := (iB0.below (Nat.lt_succ_self _) hb0).cell
  have HZ := Hid.mk2 hZ0
  clear hZ0
  go_wp2_with (first
    | (at_builtin; refine wpList_app (m := [1]) rfl _ _ rfl own0 hb0 hs0 rfl rfl (by simp) ?_; intro v1 w1 own1 hb1 hs1; have ic1 := (iB0.below (Nat.lt_succ_self _) hb1).cell))
  go_ret
  exact ⟨v1, rfl, own1.lower (Nat.le_succ _), hW0.trans (hb1.mono (Nat.le_succ _))⟩
theorem flow_0n (op md : Int) (hm : (md == 2) = false) (ln cy cl : Int) (cr tk : Bool) (w : World) :
    Calls Tryd.prog 21 #[.agg #[.int .i64 op, .int .i64 md, .int .i64 0, .int .i64 ln, .int .i64 cy, .int .i64 cl], .bool cr, .bool tk] w fun e w' => ∃ v, e = .returned v ∧ Acs w' w.heap.size v ([0] ++ [2]) ∧ Below w.heap.size w w' := by
  have own0 := Acs.new (w.alloc (.cells #[.int .i64 op, .int .i64 md, .int .i64 0, .int .i64 ln, .int .i64 cy, .int .i64 cl] 28)) (w.heap.size + 1) (by simp) [0] (by simp)
  have hb0 : Below (w.heap.size + 1) (w.alloc (.cells #[.int .i64 op, .int .i64 md, .int .i64 0, .int .i64 ln, .int .i64 cy, .int .i64 cl] 28)) ((w.alloc (.cells #[.int .i64 op, .int .i64 md, .int .i64 0, .int .i64 ln, .int .i64 cy, .int .i64 cl] 28)).alloc (.cells (ints [0]).toArray 39)) := (Below.refl _ _).alloc (by simp) _
  have hs0 : w.heap.size + 1 ≤ ((w.alloc (.cells #[.int .i64 op, .int .i64 md, .int .i64 0, .int .i64 ln, .int .i64 cy, .int .i64 cl] 28)).alloc (.cells (ints [0]).toArray 39)).heap.size := by simp
  have iB0 : Blk (w.alloc (.cells #[.int .i64 op, .int .i64 md, .int .i64 0, .int .i64 ln, .int .i64 cy, .int .i64 cl] 28)) w.heap.size #[.int .i64 op, .int .i64 md, .int .i64 0, .int .i64 ln, .int .i64 cy, .int .i64 cl] 28 := Blk.new w _ _
  have hW0 : Below w.heap.size w (w.alloc (.cells #[.int .i64 op, .int .i64 md, .int .i64 0, .int .i64 ln, .int .i64 cy, .int .i64 cl] 28)) := (Below.refl _ _).alloc (Nat.le_refl _) _
  have hZ0 : (w.alloc (.cells #[.int .i64 op, .int .i64 md, .int .i64 0, .int .i64 ln, .int .i64 cy, .int .i64 cl] 28)).heap.size = w.heap.size + 1 := by simp
  go_enter Tryd.func21, Tryd.ntmps21
  go_upto_region 2 with fail
  change Code.wp _ _ _ _ ((w.alloc (.cells #[.int .i64 op, .int .i64 md, .int .i64 0, .int .i64 ln, .int .i64 cy, .int .i64 cl] 28)).alloc (.cells (ints [0]).toArray 39))
  generalize ((w.alloc (.cells #[.int .i64 op, .int .i64 md, .int .i64 0, .int .i64 ln, .int .i64 cy, .int .i64 cl] 28)).alloc (.cells (ints [0]).toArray 39)) = W at *
  rw [hZ0] at own0
  generalize (w.alloc (.cells #[.int .i64 op, .int .i64 md, .int .i64 0, .int .i64 ln, .int .i64 cy, .int .i64 cl] 28)) = W0 at *
  have ic0 := (iB0.below (Nat.lt_succ_self _) hb0).cell
  have HZ := Hid.mk2 hZ0
  clear hZ0
  go_wp2_with (first
    | (at_builtin; refine wpList_app (m := [2]) rfl _ _ rfl own0 hb0 hs0 rfl rfl (by simp) ?_; intro v1 w1 own1 hb1 hs1; have ic1 := (iB0.below (Nat.lt_succ_self _) hb1).cell))
  go_ret
  exact ⟨v1, rfl, own1.lower (Nat.le_succ _), hW0.trans (hb1.mono (Nat.le_succ _))⟩
theorem flow_5_true_true (op md : Int) (ln cy cl : Int) (w : World) :
    Calls Tryd.prog 21 #[.agg #[.int .i64 op, .int .i64 md, .int .i64 5, .int .i64 ln, .int .i64 cy, .int .i64 cl], .bool true, .bool true] w fun e w' => ∃ v, e = .returned v ∧ Acs w' w.heap.size v ([0] ++ [1] ++ [2] ++ [6]) ∧ Below w.heap.size w w' := by
  have own0 := Acs.new (w.alloc (.cells #[.int .i64 op, .int .i64 md, .int .i64 5, .int .i64 ln, .int .i64 cy, .int .i64 cl] 28)) (w.heap.size + 1) (by simp) [0] (by simp)
  have hb0 : Below (w.heap.size + 1) (w.alloc (.cells #[.int .i64 op, .int .i64 md, .int .i64 5, .int .i64 ln, .int .i64 cy, .int .i64 cl] 28)) ((w.alloc (.cells #[.int .i64 op, .int .i64 md, .int .i64 5, .int .i64 ln, .int .i64 cy, .int .i64 cl] 28)).alloc (.cells (ints [0]).toArray 39)) := (Below.refl _ _).alloc (by simp) _
  have hs0 : w.heap.size + 1 ≤ ((w.alloc (.cells #[.int .i64 op, .int .i64 md, .int .i64 5, .int .i64 ln, .int .i64 cy, .int .i64 cl] 28)).alloc (.cells (ints [0]).toArray 39)).heap.size := by simp
  have iB0 : Blk (w.alloc (.cells #[.int .i64 op, .int .i64 md, .int .i64 5, .int .i64 ln, .int .i64 cy, .int .i64 cl] 28)) w.heap.size #[.int .i64 op, .int .i64 md, .int .i64 5, .int .i64 ln, .int .i64 cy, .int .i64 cl] 28 := Blk.new w _ _
  have hW0 : Below w.heap.size w (w.alloc (.cells #[.int .i64 op, .int .i64 md, .int .i64 5, .int .i64 ln, .int .i64 cy, .int .i64 cl] 28)) := (Below.refl _ _).alloc (Nat.le_refl _) _
  have hZ0 : (w.alloc (.cells #[.int .i64 op, .int .i64 md, .int .i64 5, .int .i64 ln, .int .i64 cy, .int .i64 cl] 28)).heap.size = w.heap.size + 1 := by simp
  go_enter Tryd.func21, Tryd.ntmps21
  go_upto_region 2 with fail
  change Code.wp _ _ _ _ ((w.alloc (.cells #[.int .i64 op, .int .i64 md, .int .i64 5, .int .i64 ln, .int .i64 cy, .int .i64 cl] 28)).alloc (.cells (ints [0]).toArray 39))
  generalize ((w.alloc (.cells #[.int .i64 op, .int .i64 md, .int .i64 5, .int .i64 ln, .int .i64 cy, .int .i64 cl] 28)).alloc (.cells (ints [0]).toArray 39)) = W at *
  rw [hZ0] at own0
  generalize (w.alloc (.cells #[.int .i64 op, .int .i64 md, .int .i64 5, .int .i64 ln, .int .i64 cy, .int .i64 cl] 28)) = W0 at *
  have ic0 := (iB0.below (Nat.lt_succ_self _) hb0).cell
  have HZ := Hid.mk2 hZ0
  clear hZ0
  go_wp2_with (first
    | (at_builtin; refine wpList_app (m := [6]) rfl _ _ rfl own2 hb2 hs2 rfl rfl (by simp) ?_; intro v3 w3 own3 hb3 hs3; have ic3 := (iB0.below (Nat.lt_succ_self _) hb3).cell)
    | (at_builtin; refine wpList_app (m := [2]) rfl _ _ rfl own1 hb1 hs1 rfl rfl (by simp) ?_; intro v2 w2 own2 hb2 hs2; have ic2 := (iB0.below (Nat.lt_succ_self _) hb2).cell)
    | (at_builtin; refine wpList_app (m := [1]) rfl _ _ rfl own0 hb0 hs0 rfl rfl (by simp) ?_; intro v1 w1 own1 hb1 hs1; have ic1 := (iB0.below (Nat.lt_succ_self _) hb1).cell))
  go_ret
  exact ⟨v3, rfl, own3.lower (Nat.le_succ _), hW0.trans (hb3.mono (Nat.le_succ _))⟩
theorem flow_5_true_false (op md : Int) (ln cy cl : Int) (w : World) :
    Calls Tryd.prog 21 #[.agg #[.int .i64 op, .int .i64 md, .int .i64 5, .int .i64 ln, .int .i64 cy, .int .i64 cl], .bool true, .bool false] w fun e w' => ∃ v, e = .returned v ∧ Acs w' w.heap.size v ([0] ++ [1]) ∧ Below w.heap.size w w' := by
  have own0 := Acs.new (w.alloc (.cells #[.int .i64 op, .int .i64 md, .int .i64 5, .int .i64 ln, .int .i64 cy, .int .i64 cl] 28)) (w.heap.size + 1) (by simp) [0] (by simp)
  have hb0 : Below (w.heap.size + 1) (w.alloc (.cells #[.int .i64 op, .int .i64 md, .int .i64 5, .int .i64 ln, .int .i64 cy, .int .i64 cl] 28)) ((w.alloc (.cells #[.int .i64 op, .int .i64 md, .int .i64 5, .int .i64 ln, .int .i64 cy, .int .i64 cl] 28)).alloc (.cells (ints [0]).toArray 39)) := (Below.refl _ _).alloc (by simp) _
  have hs0 : w.heap.size + 1 ≤ ((w.alloc (.cells #[.int .i64 op, .int .i64 md, .int .i64 5, .int .i64 ln, .int .i64 cy, .int .i64 cl] 28)).alloc (.cells (ints [0]).toArray 39)).heap.size := by simp
  have iB0 : Blk (w.alloc (.cells #[.int .i64 op, .int .i64 md, .int .i64 5, .int .i64 ln, .int .i64 cy, .int .i64 cl] 28)) w.heap.size #[.int .i64 op, .int .i64 md, .int .i64 5, .int .i64 ln, .int .i64 cy, .int .i64 cl] 28 := Blk.new w _ _
  have hW0 : Below w.heap.size w (w.alloc (.cells #[.int .i64 op, .int .i64 md, .int .i64 5, .int .i64 ln, .int .i64 cy, .int .i64 cl] 28)) := (Below.refl _ _).alloc (Nat.le_refl _) _
  have hZ0 : (w.alloc (.cells #[.int .i64 op, .int .i64 md, .int .i64 5, .int .i64 ln, .int .i64 cy, .int .i64 cl] 28)).heap.size = w.heap.size + 1 := by simp
  go_enter Tryd.func21, Tryd.ntmps21
  go_upto_region 2 with fail
  change Code.wp _ _ _ _ ((w.alloc (.cells #[.int .i64 op, .int .i64 md, .int .i64 5, .int .i64 ln, .int .i64 cy, .int .i64 cl] 28)).alloc (.cells (ints [0]).toArray 39))
  generalize ((w.alloc (.cells #[.int .i64 op, .int .i64 md, .int .i64 5, .int .i64 ln, .int .i64 cy, .int .i64 cl] 28)).alloc (.cells (ints [0]).toArray 39)) = W at *
  rw [hZ0] at own0
  generalize (w.alloc (.cells #[.int .i64 op, .int .i64 md, .int .i64 5, .int .i64 ln, .int .i64 cy, .int .i64 cl] 28)) = W0 at *
  have ic0 := (iB0.below (Nat.lt_succ_self _) hb0).cell
  have HZ := Hid.mk2 hZ0
  clear hZ0
  go_wp2_with (first
    | (at_builtin; refine wpList_app (m := [1]) rfl _ _ rfl own0 hb0 hs0 rfl rfl (by simp) ?_; intro v1 w1 own1 hb1 hs1; have ic1 := (iB0.below (Nat.lt_succ_self _) hb1).cell))
  go_ret
  exact ⟨v1, rfl, own1.lower (Nat.le_succ _), hW0.trans (hb1.mono (Nat.le_succ _))⟩
theorem flow_5_false_true (op md : Int) (ln cy cl : Int) (w : World) :
    Calls Tryd.prog 21 #[.agg #[.int .i64 op, .int .i64 md, .int .i64 5, .int .i64 ln, .int .i64 cy, .int .i64 cl], .bool false, .bool true] w fun e w' => ∃ v, e = .returned v ∧ Acs w' w.heap.size v ([0] ++ [1] ++ [2]) ∧ Below w.heap.size w w' := by
  have own0 := Acs.new (w.alloc (.cells #[.int .i64 op, .int .i64 md, .int .i64 5, .int .i64 ln, .int .i64 cy, .int .i64 cl] 28)) (w.heap.size + 1) (by simp) [0] (by simp)
  have hb0 : Below (w.heap.size + 1) (w.alloc (.cells #[.int .i64 op, .int .i64 md, .int .i64 5, .int .i64 ln, .int .i64 cy, .int .i64 cl] 28)) ((w.alloc (.cells #[.int .i64 op, .int .i64 md, .int .i64 5, .int .i64 ln, .int .i64 cy, .int .i64 cl] 28)).alloc (.cells (ints [0]).toArray 39)) := (Below.refl _ _).alloc (by simp) _
  have hs0 : w.heap.size + 1 ≤ ((w.alloc (.cells #[.int .i64 op, .int .i64 md, .int .i64 5, .int .i64 ln, .int .i64 cy, .int .i64 cl] 28)).alloc (.cells (ints [0]).toArray 39)).heap.size := by simp
  have iB0 : Blk (w.alloc (.cells #[.int .i64 op, .int .i64 md, .int .i64 5, .int .i64 ln, .int .i64 cy, .int .i64 cl] 28)) w.heap.size #[.int .i64 op, .int .i64 md, .int .i64 5, .int .i64 ln, .int .i64 cy, .int .i64 cl] 28 := Blk.new w _ _
  have hW0 : Below w.heap.size w (w.alloc (.cells #[.int .i64 op, .int .i64 md, .int .i64 5, .int .i64 ln, .int .i64 cy, .int .i64 cl] 28)) := (Below.refl _ _).alloc (Nat.le_refl _) _
  have hZ0 : (w.alloc (.cells #[.int .i64 op, .int .i64 md, .int .i64 5, .int .i64 ln, .int .i64 cy, .int .i64 cl] 28)).heap.size = w.heap.size + 1 := by simp
  go_enter Tryd.func21, Tryd.ntmps21
  go_upto_region 2 with fail
  change Code.wp _ _ _ _ ((w.alloc (.cells #[.int .i64 op, .int .i64 md, .int .i64 5, .int .i64 ln, .int .i64 cy, .int .i64 cl] 28)).alloc (.cells (ints [0]).toArray 39))
  generalize ((w.alloc (.cells #[.int .i64 op, .int .i64 md, .int .i64 5, .int .i64 ln, .int .i64 cy, .int .i64 cl] 28)).alloc (.cells (ints [0]).toArray 39)) = W at *
  rw [hZ0] at own0
  generalize (w.alloc (.cells #[.int .i64 op, .int .i64 md, .int .i64 5, .int .i64 ln, .int .i64 cy, .int .i64 cl] 28)) = W0 at *
  have ic0 := (iB0.below (Nat.lt_succ_self _) hb0).cell
  have HZ := Hid.mk2 hZ0
  clear hZ0
  go_wp2_with (first
    | (at_builtin; refine wpList_app (m := [2]) rfl _ _ rfl own1 hb1 hs1 rfl rfl (by simp) ?_; intro v2 w2 own2 hb2 hs2; have ic2 := (iB0.below (Nat.lt_succ_self _) hb2).cell)
    | (at_builtin; refine wpList_app (m := [1]) rfl _ _ rfl own0 hb0 hs0 rfl rfl (by simp) ?_; intro v1 w1 own1 hb1 hs1; have ic1 := (iB0.below (Nat.lt_succ_self _) hb1).cell))
  go_ret
  exact ⟨v2, rfl, own2.lower (Nat.le_succ _), hW0.trans (hb2.mono (Nat.le_succ _))⟩
theorem flow_5_false_false (op md : Int) (ln cy cl : Int) (w : World) :
    Calls Tryd.prog 21 #[.agg #[.int .i64 op, .int .i64 md, .int .i64 5, .int .i64 ln, .int .i64 cy, .int .i64 cl], .bool false, .bool false] w fun e w' => ∃ v, e = .returned v ∧ Acs w' w.heap.size v ([0] ++ [1]) ∧ Below w.heap.size w w' := by
  have own0 := Acs.new (w.alloc (.cells #[.int .i64 op, .int .i64 md, .int .i64 5, .int .i64 ln, .int .i64 cy, .int .i64 cl] 28)) (w.heap.size + 1) (by simp) [0] (by simp)
  have hb0 : Below (w.heap.size + 1) (w.alloc (.cells #[.int .i64 op, .int .i64 md, .int .i64 5, .int .i64 ln, .int .i64 cy, .int .i64 cl] 28)) ((w.alloc (.cells #[.int .i64 op, .int .i64 md, .int .i64 5, .int .i64 ln, .int .i64 cy, .int .i64 cl] 28)).alloc (.cells (ints [0]).toArray 39)) := (Below.refl _ _).alloc (by simp) _
  have hs0 : w.heap.size + 1 ≤ ((w.alloc (.cells #[.int .i64 op, .int .i64 md, .int .i64 5, .int .i64 ln, .int .i64 cy, .int .i64 cl] 28)).alloc (.cells (ints [0]).toArray 39)).heap.size := by simp
  have iB0 : Blk (w.alloc (.cells #[.int .i64 op, .int .i64 md, .int .i64 5, .int .i64 ln, .int .i64 cy, .int .i64 cl] 28)) w.heap.size #[.int .i64 op, .int .i64 md, .int .i64 5, .int .i64 ln, .int .i64 cy, .int .i64 cl] 28 := Blk.new w _ _
  have hW0 : Below w.heap.size w (w.alloc (.cells #[.int .i64 op, .int .i64 md, .int .i64 5, .int .i64 ln, .int .i64 cy, .int .i64 cl] 28)) := (Below.refl _ _).alloc (Nat.le_refl _) _
  have hZ0 : (w.alloc (.cells #[.int .i64 op, .int .i64 md, .int .i64 5, .int .i64 ln, .int .i64 cy, .int .i64 cl] 28)).heap.size = w.heap.size + 1 := by simp
  go_enter Tryd.func21, Tryd.ntmps21
  go_upto_region 2 with fail
  change Code.wp _ _ _ _ ((w.alloc (.cells #[.int .i64 op, .int .i64 md, .int .i64 5, .int .i64 ln, .int .i64 cy, .int .i64 cl] 28)).alloc (.cells (ints [0]).toArray 39))
  generalize ((w.alloc (.cells #[.int .i64 op, .int .i64 md, .int .i64 5, .int .i64 ln, .int .i64 cy, .int .i64 cl] 28)).alloc (.cells (ints [0]).toArray 39)) = W at *
  rw [hZ0] at own0
  generalize (w.alloc (.cells #[.int .i64 op, .int .i64 md, .int .i64 5, .int .i64 ln, .int .i64 cy, .int .i64 cl] 28)) = W0 at *
  have ic0 := (iB0.below (Nat.lt_succ_self _) hb0).cell
  have HZ := Hid.mk2 hZ0
  clear hZ0
  go_wp2_with (first
    | (at_builtin; refine wpList_app (m := [1]) rfl _ _ rfl own0 hb0 hs0 rfl rfl (by simp) ?_; intro v1 w1 own1 hb1 hs1; have ic1 := (iB0.below (Nat.lt_succ_self _) hb1).cell))
  go_ret
  exact ⟨v1, rfl, own1.lower (Nat.le_succ _), hW0.trans (hb1.mono (Nat.le_succ _))⟩
theorem flow_6_8 (ln cy cl : Int) (cr tk : Bool) (w : World) :
    Calls Tryd.prog 21 #[.agg #[.int .i64 27, .int .i64 8, .int .i64 6, .int .i64 ln, .int .i64 cy, .int .i64 cl], .bool cr, .bool tk] w fun e w' => ∃ v, e = .returned v ∧ Acs w' w.heap.size v ([0] ++ [1, 1]) ∧ Below w.heap.size w w' := by
  have own0 := Acs.new (w.alloc (.cells #[.int .i64 27, .int .i64 8, .int .i64 6, .int .i64 ln, .int .i64 cy, .int .i64 cl] 28)) (w.heap.size + 1) (by simp) [0] (by simp)
  have hb0 : Below (w.heap.size + 1) (w.alloc (.cells #[.int .i64 27, .int .i64 8, .int .i64 6, .int .i64 ln, .int .i64 cy, .int .i64 cl] 28)) ((w.alloc (.cells #[.int .i64 27, .int .i64 8, .int .i64 6, .int .i64 ln, .int .i64 cy, .int .i64 cl] 28)).alloc (.cells (ints [0]).toArray 39)) := (Below.refl _ _).alloc (by simp) _
  have hs0 : w.heap.size + 1 ≤ ((w.alloc (.cells #[.int .i64 27, .int .i64 8, .int .i64 6, .int .i64 ln, .int .i64 cy, .int .i64 cl] 28)).alloc (.cells (ints [0]).toArray 39)).heap.size := by simp
  have iB0 : Blk (w.alloc (.cells #[.int .i64 27, .int .i64 8, .int .i64 6, .int .i64 ln, .int .i64 cy, .int .i64 cl] 28)) w.heap.size #[.int .i64 27, .int .i64 8, .int .i64 6, .int .i64 ln, .int .i64 cy, .int .i64 cl] 28 := Blk.new w _ _
  have hW0 : Below w.heap.size w (w.alloc (.cells #[.int .i64 27, .int .i64 8, .int .i64 6, .int .i64 ln, .int .i64 cy, .int .i64 cl] 28)) := (Below.refl _ _).alloc (Nat.le_refl _) _
  have hZ0 : (w.alloc (.cells #[.int .i64 27, .int .i64 8, .int .i64 6, .int .i64 ln, .int .i64 cy, .int .i64 cl] 28)).heap.size = w.heap.size + 1 := by simp
  go_enter Tryd.func21, Tryd.ntmps21
  go_upto_region 2 with fail
  change Code.wp _ _ _ _ ((w.alloc (.cells #[.int .i64 27, .int .i64 8, .int .i64 6, .int .i64 ln, .int .i64 cy, .int .i64 cl] 28)).alloc (.cells (ints [0]).toArray 39))
  generalize ((w.alloc (.cells #[.int .i64 27, .int .i64 8, .int .i64 6, .int .i64 ln, .int .i64 cy, .int .i64 cl] 28)).alloc (.cells (ints [0]).toArray 39)) = W at *
  rw [hZ0] at own0
  generalize (w.alloc (.cells #[.int .i64 27, .int .i64 8, .int .i64 6, .int .i64 ln, .int .i64 cy, .int .i64 cl] 28)) = W0 at *
  have ic0 := (iB0.below (Nat.lt_succ_self _) hb0).cell
  have HZ := Hid.mk2 hZ0
  clear hZ0
  go_wp2_with (first
    | (at_builtin; refine wpList_app (m := [1, 1]) rfl _ _ rfl own0 hb0 hs0 rfl rfl (by simp) ?_; intro v1 w1 own1 hb1 hs1; have ic1 := (iB0.below (Nat.lt_succ_self _) hb1).cell))
  go_ret
  exact ⟨v1, rfl, own1.lower (Nat.le_succ _), hW0.trans (hb1.mono (Nat.le_succ _))⟩
theorem flow_6_11 (ln cy cl : Int) (cr tk : Bool) (w : World) :
    Calls Tryd.prog 21 #[.agg #[.int .i64 27, .int .i64 11, .int .i64 6, .int .i64 ln, .int .i64 cy, .int .i64 cl], .bool cr, .bool tk] w fun e w' => ∃ v, e = .returned v ∧ Acs w' w.heap.size v ([0] ++ [1, 1] ++ [4, 5]) ∧ Below w.heap.size w w' := by
  have own0 := Acs.new (w.alloc (.cells #[.int .i64 27, .int .i64 11, .int .i64 6, .int .i64 ln, .int .i64 cy, .int .i64 cl] 28)) (w.heap.size + 1) (by simp) [0] (by simp)
  have hb0 : Below (w.heap.size + 1) (w.alloc (.cells #[.int .i64 27, .int .i64 11, .int .i64 6, .int .i64 ln, .int .i64 cy, .int .i64 cl] 28)) ((w.alloc (.cells #[.int .i64 27, .int .i64 11, .int .i64 6, .int .i64 ln, .int .i64 cy, .int .i64 cl] 28)).alloc (.cells (ints [0]).toArray 39)) := (Below.refl _ _).alloc (by simp) _
  have hs0 : w.heap.size + 1 ≤ ((w.alloc (.cells #[.int .i64 27, .int .i64 11, .int .i64 6, .int .i64 ln, .int .i64 cy, .int .i64 cl] 28)).alloc (.cells (ints [0]).toArray 39)).heap.size := by simp
  have iB0 : Blk (w.alloc (.cells #[.int .i64 27, .int .i64 11, .int .i64 6, .int .i64 ln, .int .i64 cy, .int .i64 cl] 28)) w.heap.size #[.int .i64 27, .int .i64 11, .int .i64 6, .int .i64 ln, .int .i64 cy, .int .i64 cl] 28 := Blk.new w _ _
  have hW0 : Below w.heap.size w (w.alloc (.cells #[.int .i64 27, .int .i64 11, .int .i64 6, .int .i64 ln, .int .i64 cy, .int .i64 cl] 28)) := (Below.refl _ _).alloc (Nat.le_refl _) _
  have hZ0 : (w.alloc (.cells #[.int .i64 27, .int .i64 11, .int .i64 6, .int .i64 ln, .int .i64 cy, .int .i64 cl] 28)).heap.size = w.heap.size + 1 := by simp
  go_enter Tryd.func21, Tryd.ntmps21
  go_upto_region 2 with fail
  change Code.wp _ _ _ _ ((w.alloc (.cells #[.int .i64 27, .int .i64 11, .int .i64 6, .int .i64 ln, .int .i64 cy, .int .i64 cl] 28)).alloc (.cells (ints [0]).toArray 39))
  generalize ((w.alloc (.cells #[.int .i64 27, .int .i64 11, .int .i64 6, .int .i64 ln, .int .i64 cy, .int .i64 cl] 28)).alloc (.cells (ints [0]).toArray 39)) = W at *
  rw [hZ0] at own0
  generalize (w.alloc (.cells #[.int .i64 27, .int .i64 11, .int .i64 6, .int .i64 ln, .int .i64 cy, .int .i64 cl] 28)) = W0 at *
  have ic0 := (iB0.below (Nat.lt_succ_self _) hb0).cell
  have HZ := Hid.mk2 hZ0
  clear hZ0
  go_wp2_with (first
    | (at_builtin; refine wpList_app (m := [4, 5]) rfl _ _ rfl own1 hb1 hs1 rfl rfl (by simp) ?_; intro v2 w2 own2 hb2 hs2; have ic2 := (iB0.below (Nat.lt_succ_self _) hb2).cell)
    | (at_builtin; refine wpList_app (m := [1, 1]) rfl _ _ rfl own0 hb0 hs0 rfl rfl (by simp) ?_; intro v1 w1 own1 hb1 hs1; have ic1 := (iB0.below (Nat.lt_succ_self _) hb1).cell))
  go_ret
  exact ⟨v2, rfl, own2.lower (Nat.le_succ _), hW0.trans (hb2.mono (Nat.le_succ _))⟩
theorem flow_7 (ln cy cl : Int) (cr tk : Bool) (w : World) :
    Calls Tryd.prog 21 #[.agg #[.int .i64 28, .int .i64 8, .int .i64 7, .int .i64 ln, .int .i64 cy, .int .i64 cl], .bool cr, .bool tk] w fun e w' => ∃ v, e = .returned v ∧ Acs w' w.heap.size v ([0] ++ [1, 10, 11, 11, 1]) ∧ Below w.heap.size w w' := by
  have own0 := Acs.new (w.alloc (.cells #[.int .i64 28, .int .i64 8, .int .i64 7, .int .i64 ln, .int .i64 cy, .int .i64 cl] 28)) (w.heap.size + 1) (by simp) [0] (by simp)
  have hb0 : Below (w.heap.size + 1) (w.alloc (.cells #[.int .i64 28, .int .i64 8, .int .i64 7, .int .i64 ln, .int .i64 cy, .int .i64 cl] 28)) ((w.alloc (.cells #[.int .i64 28, .int .i64 8, .int .i64 7, .int .i64 ln, .int .i64 cy, .int .i64 cl] 28)).alloc (.cells (ints [0]).toArray 39)) := (Below.refl _ _).alloc (by simp) _
  have hs0 : w.heap.size + 1 ≤ ((w.alloc (.cells #[.int .i64 28, .int .i64 8, .int .i64 7, .int .i64 ln, .int .i64 cy, .int .i64 cl] 28)).alloc (.cells (ints [0]).toArray 39)).heap.size := by simp
  have iB0 : Blk (w.alloc (.cells #[.int .i64 28, .int .i64 8, .int .i64 7, .int .i64 ln, .int .i64 cy, .int .i64 cl] 28)) w.heap.size #[.int .i64 28, .int .i64 8, .int .i64 7, .int .i64 ln, .int .i64 cy, .int .i64 cl] 28 := Blk.new w _ _
  have hW0 : Below w.heap.size w (w.alloc (.cells #[.int .i64 28, .int .i64 8, .int .i64 7, .int .i64 ln, .int .i64 cy, .int .i64 cl] 28)) := (Below.refl _ _).alloc (Nat.le_refl _) _
  have hZ0 : (w.alloc (.cells #[.int .i64 28, .int .i64 8, .int .i64 7, .int .i64 ln, .int .i64 cy, .int .i64 cl] 28)).heap.size = w.heap.size + 1 := by simp
  go_enter Tryd.func21, Tryd.ntmps21
  go_upto_region 2 with fail
  change Code.wp _ _ _ _ ((w.alloc (.cells #[.int .i64 28, .int .i64 8, .int .i64 7, .int .i64 ln, .int .i64 cy, .int .i64 cl] 28)).alloc (.cells (ints [0]).toArray 39))
  generalize ((w.alloc (.cells #[.int .i64 28, .int .i64 8, .int .i64 7, .int .i64 ln, .int .i64 cy, .int .i64 cl] 28)).alloc (.cells (ints [0]).toArray 39)) = W at *
  rw [hZ0] at own0
  generalize (w.alloc (.cells #[.int .i64 28, .int .i64 8, .int .i64 7, .int .i64 ln, .int .i64 cy, .int .i64 cl] 28)) = W0 at *
  have ic0 := (iB0.below (Nat.lt_succ_self _) hb0).cell
  have HZ := Hid.mk2 hZ0
  clear hZ0
  go_wp2_with (first
    | (at_builtin; refine wpList_app (m := [1, 10, 11, 11, 1]) rfl _ _ rfl own0 hb0 hs0 rfl rfl (by simp) ?_; intro v1 w1 own1 hb1 hs1; have ic1 := (iB0.below (Nat.lt_succ_self _) hb1).cell))
  go_ret
  exact ⟨v1, rfl, own1.lower (Nat.le_succ _), hW0.trans (hb1.mono (Nat.le_succ _))⟩
theorem flow_8_42 (ln cy cl : Int) (cr tk : Bool) (w : World) :
    Calls Tryd.prog 21 #[.agg #[.int .i64 42, .int .i64 0, .int .i64 8, .int .i64 ln, .int .i64 cy, .int .i64 cl], .bool cr, .bool tk] w fun e w' => ∃ v, e = .returned v ∧ Acs w' w.heap.size v ([0] ++ [2, 10, 12, 12] ++ [1]) ∧ Below w.heap.size w w' := by
  have own0 := Acs.new (w.alloc (.cells #[.int .i64 42, .int .i64 0, .int .i64 8, .int .i64 ln, .int .i64 cy, .int .i64 cl] 28)) (w.heap.size + 1) (by simp) [0] (by simp)
  have hb0 : Below (w.heap.size + 1) (w.alloc (.cells #[.int .i64 42, .int .i64 0, .int .i64 8, .int .i64 ln, .int .i64 cy, .int .i64 cl] 28)) ((w.alloc (.cells #[.int .i64 42, .int .i64 0, .int .i64 8, .int .i64 ln, .int .i64 cy, .int .i64 cl] 28)).alloc (.cells (ints [0]).toArray 39)) := (Below.refl _ _).alloc (by simp) _
  have hs0 : w.heap.size + 1 ≤ ((w.alloc (.cells #[.int .i64 42, .int .i64 0, .int .i64 8, .int .i64 ln, .int .i64 cy, .int .i64 cl] 28)).alloc (.cells (ints [0]).toArray 39)).heap.size := by simp
  have iB0 : Blk (w.alloc (.cells #[.int .i64 42, .int .i64 0, .int .i64 8, .int .i64 ln, .int .i64 cy, .int .i64 cl] 28)) w.heap.size #[.int .i64 42, .int .i64 0, .int .i64 8, .int .i64 ln, .int .i64 cy, .int .i64 cl] 28 := Blk.new w _ _
  have hW0 : Below w.heap.size w (w.alloc (.cells #[.int .i64 42, .int .i64 0, .int .i64 8, .int .i64 ln, .int .i64 cy, .int .i64 cl] 28)) := (Below.refl _ _).alloc (Nat.le_refl _) _
  have hZ0 : (w.alloc (.cells #[.int .i64 42, .int .i64 0, .int .i64 8, .int .i64 ln, .int .i64 cy, .int .i64 cl] 28)).heap.size = w.heap.size + 1 := by simp
  go_enter Tryd.func21, Tryd.ntmps21
  go_upto_region 2 with fail
  change Code.wp _ _ _ _ ((w.alloc (.cells #[.int .i64 42, .int .i64 0, .int .i64 8, .int .i64 ln, .int .i64 cy, .int .i64 cl] 28)).alloc (.cells (ints [0]).toArray 39))
  generalize ((w.alloc (.cells #[.int .i64 42, .int .i64 0, .int .i64 8, .int .i64 ln, .int .i64 cy, .int .i64 cl] 28)).alloc (.cells (ints [0]).toArray 39)) = W at *
  rw [hZ0] at own0
  generalize (w.alloc (.cells #[.int .i64 42, .int .i64 0, .int .i64 8, .int .i64 ln, .int .i64 cy, .int .i64 cl] 28)) = W0 at *
  have ic0 := (iB0.below (Nat.lt_succ_self _) hb0).cell
  have HZ := Hid.mk2 hZ0
  clear hZ0
  go_wp2_with (first
    | (at_builtin; refine wpList_app (m := [1]) rfl _ _ rfl own1 hb1 hs1 rfl rfl (by simp) ?_; intro v2 w2 own2 hb2 hs2; have ic2 := (iB0.below (Nat.lt_succ_self _) hb2).cell)
    | (at_builtin; refine wpList_app (m := [2, 10, 12, 12]) rfl _ _ rfl own0 hb0 hs0 rfl rfl (by simp) ?_; intro v1 w1 own1 hb1 hs1; have ic1 := (iB0.below (Nat.lt_succ_self _) hb1).cell))
  go_ret
  exact ⟨v2, rfl, own2.lower (Nat.le_succ _), hW0.trans (hb2.mono (Nat.le_succ _))⟩
theorem flow_8_41 (ln cy cl : Int) (cr tk : Bool) (w : World) :
    Calls Tryd.prog 21 #[.agg #[.int .i64 41, .int .i64 0, .int .i64 8, .int .i64 ln, .int .i64 cy, .int .i64 cl], .bool cr, .bool tk] w fun e w' => ∃ v, e = .returned v ∧ Acs w' w.heap.size v ([0] ++ [2, 10, 12, 12] ++ [12]) ∧ Below w.heap.size w w' := by
  have own0 := Acs.new (w.alloc (.cells #[.int .i64 41, .int .i64 0, .int .i64 8, .int .i64 ln, .int .i64 cy, .int .i64 cl] 28)) (w.heap.size + 1) (by simp) [0] (by simp)
  have hb0 : Below (w.heap.size + 1) (w.alloc (.cells #[.int .i64 41, .int .i64 0, .int .i64 8, .int .i64 ln, .int .i64 cy, .int .i64 cl] 28)) ((w.alloc (.cells #[.int .i64 41, .int .i64 0, .int .i64 8, .int .i64 ln, .int .i64 cy, .int .i64 cl] 28)).alloc (.cells (ints [0]).toArray 39)) := (Below.refl _ _).alloc (by simp) _
  have hs0 : w.heap.size + 1 ≤ ((w.alloc (.cells #[.int .i64 41, .int .i64 0, .int .i64 8, .int .i64 ln, .int .i64 cy, .int .i64 cl] 28)).alloc (.cells (ints [0]).toArray 39)).heap.size := by simp
  have iB0 : Blk (w.alloc (.cells #[.int .i64 41, .int .i64 0, .int .i64 8, .int .i64 ln, .int .i64 cy, .int .i64 cl] 28)) w.heap.size #[.int .i64 41, .int .i64 0, .int .i64 8, .int .i64 ln, .int .i64 cy, .int .i64 cl] 28 := Blk.new w _ _
  have hW0 : Below w.heap.size w (w.alloc (.cells #[.int .i64 41, .int .i64 0, .int .i64 8, .int .i64 ln, .int .i64 cy, .int .i64 cl] 28)) := (Below.refl _ _).alloc (Nat.le_refl _) _
  have hZ0 : (w.alloc (.cells #[.int .i64 41, .int .i64 0, .int .i64 8, .int .i64 ln, .int .i64 cy, .int .i64 cl] 28)).heap.size = w.heap.size + 1 := by simp
  go_enter Tryd.func21, Tryd.ntmps21
  go_upto_region 2 with fail
  change Code.wp _ _ _ _ ((w.alloc (.cells #[.int .i64 41, .int .i64 0, .int .i64 8, .int .i64 ln, .int .i64 cy, .int .i64 cl] 28)).alloc (.cells (ints [0]).toArray 39))
  generalize ((w.alloc (.cells #[.int .i64 41, .int .i64 0, .int .i64 8, .int .i64 ln, .int .i64 cy, .int .i64 cl] 28)).alloc (.cells (ints [0]).toArray 39)) = W at *
  rw [hZ0] at own0
  generalize (w.alloc (.cells #[.int .i64 41, .int .i64 0, .int .i64 8, .int .i64 ln, .int .i64 cy, .int .i64 cl] 28)) = W0 at *
  have ic0 := (iB0.below (Nat.lt_succ_self _) hb0).cell
  have HZ := Hid.mk2 hZ0
  clear hZ0
  go_wp2_with (first
    | (at_builtin; refine wpList_app (m := [12]) rfl _ _ rfl own1 hb1 hs1 rfl rfl (by simp) ?_; intro v2 w2 own2 hb2 hs2; have ic2 := (iB0.below (Nat.lt_succ_self _) hb2).cell)
    | (at_builtin; refine wpList_app (m := [2, 10, 12, 12]) rfl _ _ rfl own0 hb0 hs0 rfl rfl (by simp) ?_; intro v1 w1 own1 hb1 hs1; have ic1 := (iB0.below (Nat.lt_succ_self _) hb1).cell))
  go_ret
  exact ⟨v2, rfl, own2.lower (Nat.le_succ _), hW0.trans (hb2.mono (Nat.le_succ _))⟩
theorem flow_11 (ln cy cl : Int) (cr tk : Bool) (w : World) :
    Calls Tryd.prog 21 #[.agg #[.int .i64 10, .int .i64 0, .int .i64 11, .int .i64 ln, .int .i64 cy, .int .i64 cl], .bool cr, .bool tk] w fun e w' => ∃ v, e = .returned v ∧ Acs w' w.heap.size v ([0] ++ [1, 11, 11, 11, 13, 14]) ∧ Below w.heap.size w w' := by
  have own0 := Acs.new (w.alloc (.cells #[.int .i64 10, .int .i64 0, .int .i64 11, .int .i64 ln, .int .i64 cy, .int .i64 cl] 28)) (w.heap.size + 1) (by simp) [0] (by simp)
  have hb0 : Below (w.heap.size + 1) (w.alloc (.cells #[.int .i64 10, .int .i64 0, .int .i64 11, .int .i64 ln, .int .i64 cy, .int .i64 cl] 28)) ((w.alloc (.cells #[.int .i64 10, .int .i64 0, .int .i64 11, .int .i64 ln, .int .i64 cy, .int .i64 cl] 28)).alloc (.cells (ints [0]).toArray 39)) := (Below.refl _ _).alloc (by simp) _
  have hs0 : w.heap.size + 1 ≤ ((w.alloc (.cells #[.int .i64 10, .int .i64 0, .int .i64 11, .int .i64 ln, .int .i64 cy, .int .i64 cl] 28)).alloc (.cells (ints [0]).toArray 39)).heap.size := by simp
  have iB0 : Blk (w.alloc (.cells #[.int .i64 10, .int .i64 0, .int .i64 11, .int .i64 ln, .int .i64 cy, .int .i64 cl] 28)) w.heap.size #[.int .i64 10, .int .i64 0, .int .i64 11, .int .i64 ln, .int .i64 cy, .int .i64 cl] 28 := Blk.new w _ _
  have hW0 : Below w.heap.size w (w.alloc (.cells #[.int .i64 10, .int .i64 0, .int .i64 11, .int .i64 ln, .int .i64 cy, .int .i64 cl] 28)) := (Below.refl _ _).alloc (Nat.le_refl _) _
  have hZ0 : (w.alloc (.cells #[.int .i64 10, .int .i64 0, .int .i64 11, .int .i64 ln, .int .i64 cy, .int .i64 cl] 28)).heap.size = w.heap.size + 1 := by simp
  go_enter Tryd.func21, Tryd.ntmps21
  go_upto_region 2 with fail
  change Code.wp _ _ _ _ ((w.alloc (.cells #[.int .i64 10, .int .i64 0, .int .i64 11, .int .i64 ln, .int .i64 cy, .int .i64 cl] 28)).alloc (.cells (ints [0]).toArray 39))
  generalize ((w.alloc (.cells #[.int .i64 10, .int .i64 0, .int .i64 11, .int .i64 ln, .int .i64 cy, .int .i64 cl] 28)).alloc (.cells (ints [0]).toArray 39)) = W at *
  rw [hZ0] at own0
  generalize (w.alloc (.cells #[.int .i64 10, .int .i64 0, .int .i64 11, .int .i64 ln, .int .i64 cy, .int .i64 cl] 28)) = W0 at *
  have ic0 := (iB0.below (Nat.lt_succ_self _) hb0).cell
  have HZ := Hid.mk2 hZ0
  clear hZ0
  go_wp2_with (first
    | (at_builtin; refine wpList_app (m := [1, 11, 11, 11, 13, 14]) rfl _ _ rfl own0 hb0 hs0 rfl rfl (by simp) ?_; intro v1 w1 own1 hb1 hs1; have ic1 := (iB0.below (Nat.lt_succ_self _) hb1).cell))
  go_ret
  exact ⟨v1, rfl, own1.lower (Nat.le_succ _), hW0.trans (hb1.mono (Nat.le_succ _))⟩
theorem flow_9 (op : Int) (ln cy cl : Int) (cr tk : Bool) (w : World) :
    Calls Tryd.prog 21 #[.agg #[.int .i64 op, .int .i64 0, .int .i64 9, .int .i64 ln, .int .i64 cy, .int .i64 cl], .bool cr, .bool tk] w fun e w' => ∃ v, e = .returned v ∧ Acs w' w.heap.size v ([0] ++ [2, 11]) ∧ Below w.heap.size w w' := by
  have own0 := Acs.new (w.alloc (.cells #[.int .i64 op, .int .i64 0, .int .i64 9, .int .i64 ln, .int .i64 cy, .int .i64 cl] 28)) (w.heap.size + 1) (by simp) [0] (by simp)
  have hb0 : Below (w.heap.size + 1) (w.alloc (.cells #[.int .i64 op, .int .i64 0, .int .i64 9, .int .i64 ln, .int .i64 cy, .int .i64 cl] 28)) ((w.alloc (.cells #[.int .i64 op, .int .i64 0, .int .i64 9, .int .i64 ln, .int .i64 cy, .int .i64 cl] 28)).alloc (.cells (ints [0]).toArray 39)) := (Below.refl _ _).alloc (by simp) _
  have hs0 : w.heap.size + 1 ≤ ((w.alloc (.cells #[.int .i64 op, .int .i64 0, .int .i64 9, .int .i64 ln, .int .i64 cy, .int .i64 cl] 28)).alloc (.cells (ints [0]).toArray 39)).heap.size := by simp
  have iB0 : Blk (w.alloc (.cells #[.int .i64 op, .int .i64 0, .int .i64 9, .int .i64 ln, .int .i64 cy, .int .i64 cl] 28)) w.heap.size #[.int .i64 op, .int .i64 0, .int .i64 9, .int .i64 ln, .int .i64 cy, .int .i64 cl] 28 := Blk.new w _ _
  have hW0 : Below w.heap.size w (w.alloc (.cells #[.int .i64 op, .int .i64 0, .int .i64 9, .int .i64 ln, .int .i64 cy, .int .i64 cl] 28)) := (Below.refl _ _).alloc (Nat.le_refl _) _
  have hZ0 : (w.alloc (.cells #[.int .i64 op, .int .i64 0, .int .i64 9, .int .i64 ln, .int .i64 cy, .int .i64 cl] 28)).heap.size = w.heap.size + 1 := by simp
  go_enter Tryd.func21, Tryd.ntmps21
  go_upto_region 2 with fail
  change Code.wp _ _ _ _ ((w.alloc (.cells #[.int .i64 op, .int .i64 0, .int .i64 9, .int .i64 ln, .int .i64 cy, .int .i64 cl] 28)).alloc (.cells (ints [0]).toArray 39))
  generalize ((w.alloc (.cells #[.int .i64 op, .int .i64 0, .int .i64 9, .int .i64 ln, .int .i64 cy, .int .i64 cl] 28)).alloc (.cells (ints [0]).toArray 39)) = W at *
  rw [hZ0] at own0
  generalize (w.alloc (.cells #[.int .i64 op, .int .i64 0, .int .i64 9, .int .i64 ln, .int .i64 cy, .int .i64 cl] 28)) = W0 at *
  have ic0 := (iB0.below (Nat.lt_succ_self _) hb0).cell
  have HZ := Hid.mk2 hZ0
  clear hZ0
  go_wp2_with (first
    | (at_builtin; refine wpList_app (m := [2, 11]) rfl _ _ rfl own0 hb0 hs0 rfl rfl (by simp) ?_; intro v1 w1 own1 hb1 hs1; have ic1 := (iB0.below (Nat.lt_succ_self _) hb1).cell))
  go_ret
  exact ⟨v1, rfl, own1.lower (Nat.le_succ _), hW0.trans (hb1.mono (Nat.le_succ _))⟩
theorem flow_10 (op : Int) (ln cy cl : Int) (cr tk : Bool) (w : World) :
    Calls Tryd.prog 21 #[.agg #[.int .i64 op, .int .i64 0, .int .i64 10, .int .i64 ln, .int .i64 cy, .int .i64 cl], .bool cr, .bool tk] w fun e w' => ∃ v, e = .returned v ∧ Acs w' w.heap.size v ([0] ++ [2, 10, 12]) ∧ Below w.heap.size w w' := by
  have own0 := Acs.new (w.alloc (.cells #[.int .i64 op, .int .i64 0, .int .i64 10, .int .i64 ln, .int .i64 cy, .int .i64 cl] 28)) (w.heap.size + 1) (by simp) [0] (by simp)
  have hb0 : Below (w.heap.size + 1) (w.alloc (.cells #[.int .i64 op, .int .i64 0, .int .i64 10, .int .i64 ln, .int .i64 cy, .int .i64 cl] 28)) ((w.alloc (.cells #[.int .i64 op, .int .i64 0, .int .i64 10, .int .i64 ln, .int .i64 cy, .int .i64 cl] 28)).alloc (.cells (ints [0]).toArray 39)) := (Below.refl _ _).alloc (by simp) _
  have hs0 : w.heap.size + 1 ≤ ((w.alloc (.cells #[.int .i64 op, .int .i64 0, .int .i64 10, .int .i64 ln, .int .i64 cy, .int .i64 cl] 28)).alloc (.cells (ints [0]).toArray 39)).heap.size := by simp
  have iB0 : Blk (w.alloc (.cells #[.int .i64 op, .int .i64 0, .int .i64 10, .int .i64 ln, .int .i64 cy, .int .i64 cl] 28)) w.heap.size #[.int .i64 op, .int .i64 0, .int .i64 10, .int .i64 ln, .int .i64 cy, .int .i64 cl] 28 := Blk.new w _ _
  have hW0 : Below w.heap.size w (w.alloc (.cells #[.int .i64 op, .int .i64 0, .int .i64 10, .int .i64 ln, .int .i64 cy, .int .i64 cl] 28)) := (Below.refl _ _).alloc (Nat.le_refl _) _
  have hZ0 : (w.alloc (.cells #[.int .i64 op, .int .i64 0, .int .i64 10, .int .i64 ln, .int .i64 cy, .int .i64 cl] 28)).heap.size = w.heap.size + 1 := by simp
  go_enter Tryd.func21, Tryd.ntmps21
  go_upto_region 2 with fail
  change Code.wp _ _ _ _ ((w.alloc (.cells #[.int .i64 op, .int .i64 0, .int .i64 10, .int .i64 ln, .int .i64 cy, .int .i64 cl] 28)).alloc (.cells (ints [0]).toArray 39))
  generalize ((w.alloc (.cells #[.int .i64 op, .int .i64 0, .int .i64 10, .int .i64 ln, .int .i64 cy, .int .i64 cl] 28)).alloc (.cells (ints [0]).toArray 39)) = W at *
  rw [hZ0] at own0
  generalize (w.alloc (.cells #[.int .i64 op, .int .i64 0, .int .i64 10, .int .i64 ln, .int .i64 cy, .int .i64 cl] 28)) = W0 at *
  have ic0 := (iB0.below (Nat.lt_succ_self _) hb0).cell
  have HZ := Hid.mk2 hZ0
  clear hZ0
  go_wp2_with (first
    | (at_builtin; refine wpList_app (m := [2, 10, 12]) rfl _ _ rfl own0 hb0 hs0 rfl rfl (by simp) ?_; intro v1 w1 own1 hb1 hs1; have ic1 := (iB0.below (Nat.lt_succ_self _) hb1).cell))
  go_ret
  exact ⟨v1, rfl, own1.lower (Nat.le_succ _), hW0.trans (hb1.mono (Nat.le_succ _))⟩
theorem flow_12 (ln cy cl : Int) (cr tk : Bool) (w : World) :
    Calls Tryd.prog 21 #[.agg #[.int .i64 69, .int .i64 0, .int .i64 12, .int .i64 ln, .int .i64 cy, .int .i64 cl], .bool cr, .bool tk] w fun e w' => ∃ v, e = .returned v ∧ Acs w' w.heap.size v ([0]) ∧ Below w.heap.size w w' := by
  have own0 := Acs.new (w.alloc (.cells #[.int .i64 69, .int .i64 0, .int .i64 12, .int .i64 ln, .int .i64 cy, .int .i64 cl] 28)) (w.heap.size + 1) (by simp) [0] (by simp)
  have hb0 : Below (w.heap.size + 1) (w.alloc (.cells #[.int .i64 69, .int .i64 0, .int .i64 12, .int .i64 ln, .int .i64 cy, .int .i64 cl] 28)) ((w.alloc (.cells #[.int .i64 69, .int .i64 0, .int .i64 12, .int .i64 ln, .int .i64 cy, .int .i64 cl] 28)).alloc (.cells (ints [0]).toArray 39)) := (Below.refl _ _).alloc (by simp) _
  have hs0 : w.heap.size + 1 ≤ ((w.alloc (.cells #[.int .i64 69, .int .i64 0, .int .i64 12, .int .i64 ln, .int .i64 cy, .int .i64 cl] 28)).alloc (.cells (ints [0]).toArray 39)).heap.size := by simp
  have iB0 : Blk (w.alloc (.cells #[.int .i64 69, .int .i64 0, .int .i64 12, .int .i64 ln, .int .i64 cy, .int .i64 cl] 28)) w.heap.size #[.int .i64 69, .int .i64 0, .int .i64 12, .int .i64 ln, .int .i64 cy, .int .i64 cl] 28 := Blk.new w _ _
  have hW0 : Below w.heap.size w (w.alloc (.cells #[.int .i64 69, .int .i64 0, .int .i64 12, .int .i64 ln, .int .i64 cy, .int .i64 cl] 28)) := (Below.refl _ _).alloc (Nat.le_refl _) _
  have hZ0 : (w.alloc (.cells #[.int .i64 69, .int .i64 0, .int .i64 12, .int .i64 ln, .int .i64 cy, .int .i64 cl] 28)).heap.size = w.heap.size + 1 := by simp
  go_enter Tryd.func21, Tryd.ntmps21
  go_upto_region 2 with fail
  change Code.wp _ _ _ _ ((w.alloc (.cells #[.int .i64 69, .int .i64 0, .int .i64 12, .int .i64 ln, .int .i64 cy, .int .i64 cl] 28)).alloc (.cells (ints [0]).toArray 39))
  generalize ((w.alloc (.cells #[.int .i64 69, .int .i64 0, .int .i64 12, .int .i64 ln, .int .i64 cy, .int .i64 cl] 28)).alloc (.cells (ints [0]).toArray 39)) = W at *
  rw [hZ0] at own0
  generalize (w.alloc (.cells #[.int .i64 69, .int .i64 0, .int .i64 12, .int .i64 ln, .int .i64 cy, .int .i64 cl] 28)) = W0 at *
  have ic0 := (iB0.below (Nat.lt_succ_self _) hb0).cell
  have HZ := Hid.mk2 hZ0
  clear hZ0
  go_wp2
  go_ret
  exact ⟨.slice (some ⟨w.heap.size + 1, 0, none⟩) 1 1, rfl, own0.lower (Nat.le_succ _), hW0.trans (hb0.mono (Nat.le_succ _))⟩
end Go.Proofs.YtlolfmpgljpjoaaDoor
