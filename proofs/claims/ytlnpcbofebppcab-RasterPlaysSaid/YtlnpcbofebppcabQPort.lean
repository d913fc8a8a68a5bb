/-
  The contracts of Ctrl and Mask; conditions: the numbers fit their kinds.
-/
import Derived.Test.YtlnpcbofebppcabQSt
import Derived.Test.YtlnpcbofebppcabQVal
import Derived.Test.YtlnpcbofebppcabQBits
import Derived.Test.YtlnpcbofebppcabQMath2
set_option linter.unusedSimpArgs false
set_option linter.unusedVariables false
namespace Go.Proofs.Ytlnpcbofebppcab
open Go.RowKit Classical
set_option maxHeartbeats 2000000 in
theorem ctrl_false (r : Rs) (v : Int) (w : World) (o : r.Ok) (v0 : 0 ≤ v) (v1 : v ≤ 255) (hv : r.valid = false) :
    Calls Try.prog 21 #[.agg r.cells, .int .u8 v] w fun e w' => e = .returned (.agg (r.ctrl v).cells) ∧ Below w.heap.size w w' := by
  have V : Hid (∀ W : World, Calls Try.prog 26 #[.agg r.cells] W fun e w' => e = .returned (.bool false) ∧ Below W.heap.size W w') := fun W => by
    have := valid_any r W o
    rwa [hv] at this
  have p1 : r.ctrl v = r := by unfold Rs.ctrl; rw [hv]; rfl
  rw [p1]
  clear p1 hv
  go_enter Try.func21, Try.ntmps21
  go_upto_region 1 with fail
  have A := At.start w r
  change Code.wp _ _ _ _ ((w.alloc (.cells r.cells 23)).alloc (.cells zeroR.cells 23))
  generalize (w.alloc (.cells r.cells 23)).alloc (.cells zeroR.cells 23) = W0 at *
  go_wp2_with (first
    | (refine wpList_load_blk rfl 23 _ rfl (w.heap.size) rfl (Rs.cells r) _ A.blk Try.underlying23 rfl (infoR' _) ?_)
    | (go_at_call 26; refine (V.out _).mono ?_; rintro e Wx ⟨rfl, hbx⟩; replace A := A.on hbx; clear hbx)
    | (obtain ⟨rc, hr⟩ := A.res; refine wpList_store_blk rfl 23 _ _ rfl (w.heap.size + 1) rc.cells (Rs.cells r) 23 rfl rfl hr rfl (infoR' _) (Rs.cells_one _) w.heap.size w (by omega) A.bel ?_; intro W5 hr5 hb5 ho5))
  refine bodyPost_ret (v := .agg (Rs.cells r)) (res_rs (b := w.heap.size + 1) (r := r) Try.results21 rfl hr5) rfl ⟨rfl, hb5⟩
set_option maxHeartbeats 2000000 in
theorem ctrl_true (r : Rs) (v : Int) (w : World) (o : r.Ok) (v0 : 0 ≤ v) (v1 : v ≤ 255) (hv : r.valid = true) :
    Calls Try.prog 21 #[.agg r.cells, .int .u8 v] w fun e w' => e = .returned (.agg (r.ctrl v).cells) ∧ Below w.heap.size w w' := by
  have rv := (Rs.valid_iff r).1 hv
  have V : Hid (∀ W : World, Calls Try.prog 26 #[.agg r.cells] W fun e w' => e = .returned (.bool true) ∧ Below W.heap.size W w') := fun W => by
    have := valid_any r W o
    rwa [hv] at this
  have p1 : r.ctrl v = { r with nmi := decide (128 ≤ v) } := by unfold Rs.ctrl; rw [hv]; rfl
  rw [p1]
  clear p1 hv rv
  have eb := and128 v v0 v1
  by_cases h9 : 128 ≤ v
  all_goals first | rw [if_pos h9] at eb | rw [if_neg h9] at eb
  all_goals first | rw [decide_eq_true h9] | rw [decide_eq_false h9]
  all_goals clear h9
  · go_enter Try.func21, Try.ntmps21
    go_upto_region 1 with fail
    have A := At.start w r
    change Code.wp _ _ _ _ ((w.alloc (.cells r.cells 23)).alloc (.cells zeroR.cells 23))
    generalize (w.alloc (.cells r.cells 23)).alloc (.cells zeroR.cells 23) = W0 at *
    go_upto_region 2 with (first
      | (refine wpList_load_blk rfl 23 _ rfl (w.heap.size) rfl (Rs.cells r) _ A.blk Try.underlying23 rfl (infoR' _) ?_)
      | (go_at_call 26; refine (V.out _).mono ?_; rintro e Wx ⟨rfl, hbx⟩; replace A := A.on hbx; clear hbx))
    obtain ⟨f0, f1, f2, f3, f4, f5, f6, ff⟩ := A.facts
    have A' : Hid _ := A
    clear A
    go_upto_region 3 with fail
    have A := A'.out.set (c' := { r with nmi := true }) 4 (.bool true) rfl
    clear A' f0 f1 f2 f3 f4 f5 f6 ff
    generalize World.setCell _ _ _ = W2 at *
    generalize hr3 : ({ r with nmi := true } : Rs) = r3 at *
    go_wp2_with (first
      | (refine wpList_load_blk rfl 23 _ rfl (w.heap.size) rfl (Rs.cells r3) _ A.blk Try.underlying23 rfl (infoR' _) ?_)
      | (obtain ⟨rc, hr⟩ := A.res; refine wpList_store_blk rfl 23 _ _ rfl (w.heap.size + 1) rc.cells (Rs.cells r3) 23 rfl rfl hr rfl (infoR' _) (Rs.cells_one _) w.heap.size w (by omega) A.bel ?_; intro W5 hr5 hb5 ho5))
    refine bodyPost_ret (v := .agg (Rs.cells r3)) (res_rs (b := w.heap.size + 1) (r := r3) Try.results21 rfl hr5) rfl ⟨by first | rfl | (subst hr3; rfl), hb5⟩
  · go_enter Try.func21, Try.ntmps21
    go_upto_region 1 with fail
    have A := At.start w r
    change Code.wp _ _ _ _ ((w.alloc (.cells r.cells 23)).alloc (.cells zeroR.cells 23))
    generalize (w.alloc (.cells r.cells 23)).alloc (.cells zeroR.cells 23) = W0 at *
    go_upto_region 2 with (first
      | (refine wpList_load_blk rfl 23 _ rfl (w.heap.size) rfl (Rs.cells r) _ A.blk Try.underlying23 rfl (infoR' _) ?_)
      | (go_at_call 26; refine (V.out _).mono ?_; rintro e Wx ⟨rfl, hbx⟩; replace A := A.on hbx; clear hbx))
    obtain ⟨f0, f1, f2, f3, f4, f5, f6, ff⟩ := A.facts
    have A' : Hid _ := A
    clear A
    go_upto_region 3 with fail
    have A := A'.out.set (c' := { r with nmi := false }) 4 (.bool false) rfl
    clear A' f0 f1 f2 f3 f4 f5 f6 ff
    generalize World.setCell _ _ _ = W2 at *
    generalize hr3 : ({ r with nmi := false } : Rs) = r3 at *
    go_wp2_with (first
      | (refine wpList_load_blk rfl 23 _ rfl (w.heap.size) rfl (Rs.cells r3) _ A.blk Try.underlying23 rfl (infoR' _) ?_)
      | (obtain ⟨rc, hr⟩ := A.res; refine wpList_store_blk rfl 23 _ _ rfl (w.heap.size + 1) rc.cells (Rs.cells r3) 23 rfl rfl hr rfl (infoR' _) (Rs.cells_one _) w.heap.size w (by omega) A.bel ?_; intro W5 hr5 hb5 ho5))
    refine bodyPost_ret (v := .agg (Rs.cells r3)) (res_rs (b := w.heap.size + 1) (r := r3) Try.results21 rfl hr5) rfl ⟨by first | rfl | (subst hr3; rfl), hb5⟩
theorem ctrl_any (r : Rs) (v : Int) (w : World) (o : r.Ok) (v0 : 0 ≤ v) (v1 : v ≤ 255) :
    Calls Try.prog 21 #[.agg r.cells, .int .u8 v] w fun e w' => e = .returned (.agg (r.ctrl v).cells) ∧ Below w.heap.size w w' := by
  cases hv : r.valid
  · exact ctrl_false r v w o v0 v1 hv
  · exact ctrl_true r v w o v0 v1 hv
set_option maxHeartbeats 2000000 in
theorem mask_false (r : Rs) (v : Int) (w : World) (o : r.Ok) (v0 : 0 ≤ v) (v1 : v ≤ 255) (hv : r.valid = false) :
    Calls Try.prog 23 #[.agg r.cells, .int .u8 v] w fun e w' => e = .returned (.agg (r.mask v).cells) ∧ Below w.heap.size w w' := by
  have V : Hid (∀ W : World, Calls Try.prog 26 #[.agg r.cells] W fun e w' => e = .returned (.bool false) ∧ Below W.heap.size W w') := fun W => by
    have := valid_any r W o
    rwa [hv] at this
  have p1 : r.mask v = r := by unfold Rs.mask; rw [hv]; rfl
  rw [p1]
  clear p1 hv
  go_enter Try.func23, Try.ntmps23
  go_upto_region 1 with fail
  have A := At.start w r
  change Code.wp _ _ _ _ ((w.alloc (.cells r.cells 23)).alloc (.cells zeroR.cells 23))
  generalize (w.alloc (.cells r.cells 23)).alloc (.cells zeroR.cells 23) = W0 at *
  go_wp2_with (first
    | (refine wpList_load_blk rfl 23 _ rfl (w.heap.size) rfl (Rs.cells r) _ A.blk Try.underlying23 rfl (infoR' _) ?_)
    | (go_at_call 26; refine (V.out _).mono ?_; rintro e Wx ⟨rfl, hbx⟩; replace A := A.on hbx; clear hbx)
    | (obtain ⟨rc, hr⟩ := A.res; refine wpList_store_blk rfl 23 _ _ rfl (w.heap.size + 1) rc.cells (Rs.cells r) 23 rfl rfl hr rfl (infoR' _) (Rs.cells_one _) w.heap.size w (by omega) A.bel ?_; intro W5 hr5 hb5 ho5))
  refine bodyPost_ret (v := .agg (Rs.cells r)) (res_rs (b := w.heap.size + 1) (r := r) Try.results23 rfl hr5) rfl ⟨rfl, hb5⟩
set_option maxHeartbeats 2000000 in
theorem mask_true (r : Rs) (v : Int) (w : World) (o : r.Ok) (v0 : 0 ≤ v) (v1 : v ≤ 255) (hv : r.valid = true) :
    Calls Try.prog 23 #[.agg r.cells, .int .u8 v] w fun e w' => e = .returned (.agg (r.mask v).cells) ∧ Below w.heap.size w w' := by
  have rv := (Rs.valid_iff r).1 hv
  have V : Hid (∀ W : World, Calls Try.prog 26 #[.agg r.cells] W fun e w' => e = .returned (.bool true) ∧ Below W.heap.size W w') := fun W => by
    have := valid_any r W o
    rwa [hv] at this
  have p1 : r.mask v = { r with draw := dw v } := by unfold Rs.mask; rw [hv]; rfl
  rw [p1]
  clear p1 hv rv
  have eb := and24 v v0 v1
  have ed : (v / 8 % 2 * 8 + v / 16 % 2 * 16 = 0 ∧ dw v = false) ∨ (v / 8 % 2 * 8 + v / 16 % 2 * 16 ≠ 0 ∧ dw v = true) := by
    unfold dw
    by_cases ha : v / 8 % 2 = 1
    · exact .inr ⟨by omega, by simp [ha]⟩
    · by_cases hb : v / 16 % 2 = 1
      · exact .inr ⟨by omega, by simp [hb]⟩
      · exact .inl ⟨by omega, by simp [ha, hb]⟩
  generalize v / 8 % 2 * 8 + v / 16 % 2 * 16 = y at *
  rcases ed.symm with ⟨e1, e2⟩ | ⟨e1, e2⟩
  all_goals rw [e2]
  all_goals clear e2 ed
  all_goals first | (have e3 : (y != 0) = true := by simpa using e1) | skip
  · go_enter Try.func23, Try.ntmps23
    go_upto_region 1 with fail
    have A := At.start w r
    change Code.wp _ _ _ _ ((w.alloc (.cells r.cells 23)).alloc (.cells zeroR.cells 23))
    generalize (w.alloc (.cells r.cells 23)).alloc (.cells zeroR.cells 23) = W0 at *
    go_upto_region 2 with (first
      | (refine wpList_load_blk rfl 23 _ rfl (w.heap.size) rfl (Rs.cells r) _ A.blk Try.underlying23 rfl (infoR' _) ?_)
      | (go_at_call 26; refine (V.out _).mono ?_; rintro e Wx ⟨rfl, hbx⟩; replace A := A.on hbx; clear hbx))
    obtain ⟨f0, f1, f2, f3, f4, f5, f6, ff⟩ := A.facts
    have A' : Hid _ := A
    clear A
    go_upto_region 3 with fail
    have A := A'.out.set (c' := { r with draw := true }) 5 (.bool true) rfl
    clear A' f0 f1 f2 f3 f4 f5 f6 ff
    generalize World.setCell _ _ _ = W2 at *
    generalize hr3 : ({ r with draw := true } : Rs) = r3 at *
    go_wp2_with (first
      | (refine wpList_load_blk rfl 23 _ rfl (w.heap.size) rfl (Rs.cells r3) _ A.blk Try.underlying23 rfl (infoR' _) ?_)
      | (obtain ⟨rc, hr⟩ := A.res; refine wpList_store_blk rfl 23 _ _ rfl (w.heap.size + 1) rc.cells (Rs.cells r3) 23 rfl rfl hr rfl (infoR' _) (Rs.cells_one _) w.heap.size w (by omega) A.bel ?_; intro W5 hr5 hb5 ho5))
    refine bodyPost_ret (v := .agg (Rs.cells r3)) (res_rs (b := w.heap.size + 1) (r := r3) Try.results23 rfl hr5) rfl ⟨by first | rfl | (subst hr3; rfl), hb5⟩
  · go_enter Try.func23, Try.ntmps23
    go_upto_region 1 with fail
    have A := At.start w r
    change Code.wp _ _ _ _ ((w.alloc (.cells r.cells 23)).alloc (.cells zeroR.cells 23))
    generalize (w.alloc (.cells r.cells 23)).alloc (.cells zeroR.cells 23) = W0 at *
    go_upto_region 2 with (first
      | (refine wpList_load_blk rfl 23 _ rfl (w.heap.size) rfl (Rs.cells r) _ A.blk Try.underlying23 rfl (infoR' _) ?_)
      | (go_at_call 26; refine (V.out _).mono ?_; rintro e Wx ⟨rfl, hbx⟩; replace A := A.on hbx; clear hbx))
    obtain ⟨f0, f1, f2, f3, f4, f5, f6, ff⟩ := A.facts
    have A' : Hid _ := A
    clear A
    go_upto_region 3 with fail
    have A := A'.out.set (c' := { r with draw := false }) 5 (.bool false) rfl
    clear A' f0 f1 f2 f3 f4 f5 f6 ff
    generalize World.setCell _ _ _ = W2 at *
    generalize hr3 : ({ r with draw := false } : Rs) = r3 at *
    go_wp2_with (first
      | (refine wpList_load_blk rfl 23 _ rfl (w.heap.size) rfl (Rs.cells r3) _ A.blk Try.underlying23 rfl (infoR' _) ?_)
      | (obtain ⟨rc, hr⟩ := A.res; refine wpList_store_blk rfl 23 _ _ rfl (w.heap.size + 1) rc.cells (Rs.cells r3) 23 rfl rfl hr rfl (infoR' _) (Rs.cells_one _) w.heap.size w (by omega) A.bel ?_; intro W5 hr5 hb5 ho5))
    refine bodyPost_ret (v := .agg (Rs.cells r3)) (res_rs (b := w.heap.size + 1) (r := r3) Try.results23 rfl hr5) rfl ⟨by first | rfl | (subst hr3; rfl), hb5⟩
theorem mask_any (r : Rs) (v : Int) (w : World) (o : r.Ok) (v0 : 0 ≤ v) (v1 : v ≤ 255) :
    Calls Try.prog 23 #[.agg r.cells, .int .u8 v] w fun e w' => e = .returned (.agg (r.mask v).cells) ∧ Below w.heap.size w w' := by
  cases hv : r.valid
  · exact mask_false r v w o v0 v1 hv
  · exact mask_true r v w o v0 v1 hv
end Go.Proofs.Ytlnpcbofebppcab
