/-
  What the document's Valid answers; conditions: the numbers of the board fit their kinds.
-/
import Derived.Test.YtecaipakaaongaaMValid
namespace Go.Proofs.Ytecaipakaaongaa
open Go.RowKit Classical
set_option maxRecDepth 100000 in
theorem refValid_none (w : World) (b : Bd) (hr : b.r.length = 8) (hl : lst b.kind b.sub = false) :
    Calls Try.prog 26 #[.agg b.cells] w fun e w' => e = .returned (.bool false) ∧ Below w.heap.size w w' := by
  have C := isB b hr
  have SO := fun W => sized_any W b hr
  rw [hl, Bool.false_and] at SO
  generalize b.cells = cs at C SO
  have hsz := C.size
  have HS : Hid _ := hsz
  have HO : Hid _ := SO
  clear SO
  go_enter Try.func26, Try.ntmps26
  go_upto_region 1 with fail
  have b0 : Blk (w.alloc (.cells cs 37)) w.heap.size cs 37 := Blk.new w cs _
  have hb0 : Below w.heap.size w (w.alloc (.cells cs 37)) := (Below.refl _ _).alloc (Nat.le_refl _) _
  generalize w.alloc (.cells cs 37) = W0 at *
  clear C hsz
  go_wp2_with (refine wpList_load_mid rfl 37 _ rfl w.heap.size 0 rfl cs.toList _ b0.range Try.underlying37 rfl (by rw [Array.length_toList, HS.out]; exact Try.infoBoard) ?_)
  refine (HO.out W0).mono ?_
  rintro e W1 ⟨rfl, hb1'⟩
  have hb1 : Below w.heap.size w W1 := hb0.trans (hb1'.mono hb0.size)
  clear hb1' hb0 b0
  go_wp2
  go_ret
  exact ⟨rfl, hb1⟩
theorem refValid_any (w : World) (b : Bd) (B : b.Wf) :
    Calls Try.prog 26 #[.agg b.cells] w fun e w' => e = .returned (.bool (validB b)) ∧ Below w.heap.size w w' := by
  cases hl : lst b.kind b.sub
  · have E : validB b = false := by unfold validB; rw [hl, Bool.false_and]
    rw [E]
    exact refValid_none w b B.rlen hl
  rcases lst_kinds hl with hk | hk | hk | hk | hk | hk
  · rw [validB_0 hk, show (lst b.kind b.sub && val0 b) = (lst b.kind b.sub && decide (bare 0 b = b) && sizes b) by unfold val0; rw [sameB_dec]; rw [Bool.and_true, Bool.and_assoc]]
    exact refValid_0 w b B hk
  · rw [validB_1 hk]
    exact refValid_1 w b B hk
  · rw [validB_2 hk, show (lst b.kind b.sub && val2 b) = (lst b.kind b.sub && decide (nL 2 b = b) && sizes b) by unfold val2; rw [sameB_dec]; rw [Bool.and_true, Bool.and_assoc]]
    exact refValid_2 w b B hk
  · rw [validB_3 hk, show (lst b.kind b.sub && val3 b) = (lst b.kind b.sub && decide (nL 3 b = b) && sizes b) by unfold val3; rw [sameB_dec]; rw [Bool.and_true, Bool.and_assoc]]
    exact refValid_3 w b B hk
  · rw [validB_4 hk]
    exact refValid_4 w b B hk
  · rw [validB_7 hk, show (lst b.kind b.sub && val7 b) = (lst b.kind b.sub && decide (nL 7 b = b) && sizes b) by unfold val7; rw [sameB_dec]; rw [Bool.and_true, Bool.and_assoc]]
    exact refValid_7 w b B hk
end Go.Proofs.Ytecaipakaaongaa
