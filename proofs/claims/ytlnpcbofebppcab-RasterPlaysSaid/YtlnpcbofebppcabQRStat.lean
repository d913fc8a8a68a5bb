/-
  The contract of the document's Status; conditions: the numbers fit their kinds.
-/
import Derived.Test.YtlnpcbofebppcabQSt
import Derived.Test.YtlnpcbofebppcabQVr
import Derived.Test.YtlnpcbofebppcabQMath2
set_option linter.unusedSimpArgs false
set_option linter.unusedVariables false
namespace Go.Proofs.Ytlnpcbofebppcab
open Go.RowKit Classical
set_option maxHeartbeats 2000000 in
theorem rstat_false (r : Rs) (w : World) (o : r.Ok) (hv : r.valid = false) :
    Calls Try.prog 20 #[.agg r.cells] w fun e w' => e = .returned (.tuple #[.int .u8 r.statV, .agg r.stat.cells]) ∧ Below w.heap.size w w' := by
  have V : Hid (∀ W : World, Calls Try.prog 34 #[.agg r.cells] W fun e w' => e = .returned (.bool false) ∧ Below W.heap.size W w') := fun W => by
    have := rvalid_any r W o
    rwa [hv] at this
  have p1 : r.stat = r := by unfold Rs.stat; rw [hv]; rfl
  have p2 : r.statV = 0 := by unfold Rs.statV; rw [hv]; rfl
  rw [p1, p2]
  clear p1 p2 hv
  go_enter Try.func20, Try.ntmps20
  go_upto_region 1 with fail
  have A := At.start w r
  change Code.wp _ _ _ _ ((w.alloc (.cells r.cells 23)).alloc (.cells zeroR.cells 23))
  generalize (w.alloc (.cells r.cells 23)).alloc (.cells zeroR.cells 23) = W0 at *
  go_upto_region 3 with (first
    | (refine wpList_load_blk rfl 23 _ rfl (w.heap.size) rfl (Rs.cells r) _ A.blk Try.underlying23 rfl (infoR' _) ?_)
    | (go_at_call 34; refine (V.out _).mono ?_; rintro e Wx ⟨rfl, hbx⟩; replace A := A.on hbx; clear hbx))
  obtain ⟨rc, hr⟩ := A.res
  refine wp_region_held (S := fun v => At w v w.heap.size r) (by kernel_rfl) ?_
  refine takeH (i := 0) (v := .agg (Rs.cells r).toList.toArray) _ rfl (by kernel_rfl) (by kernel_rfl) (by kernel_rfl) (fun _ _ _ h => h) (yieldsIf_load_mid (by kernel_rfl) 23 (.tmp 1) rfl w.heap.size 0 (by kernel_rfl) (Rs.cells r).toList _ (fun v hv => Blk.range' (At.blk hv)) Try.underlying23 rfl (by rw [Array.length_toList]; exact infoR' r)) A.drew rfl ?_
  refine takeH (i := 1) (v := .int .u8 0) _ rfl (by kernel_rfl) (by kernel_rfl) (by kernel_rfl) (fun _ _ _ h => h) (.inl ⟨by kernel_rfl, fun _ _ => by kernel_rfl⟩) A.drew rfl ?_
  refine wpAnyH_all (rs := [2]) (by kernel_rfl) (by simp) ?_
  intro i hi
  obtain rfl : i = 2 := by simpa using hi
  refine wpOp_store rfl (by kernel_rfl) 23 (.tmp 3) (.tmp 10) rfl (w.heap.size + 1) 0 (.agg (Rs.cells r)) (Rs.cells r) (by kernel_rfl) (by kernel_rfl) rfl (hr.drew.thereAt 0 7 (by show 0 + 7 ≤ 7; decide)) (by kernel_rfl) (by kernel_rfl) _ rfl ?_
  intro W5 hq5
  have hr5 : Blk W5 (w.heap.size + 1) (Rs.cells r) 23 := by rw [hq5]; exact hr.drew.setAll rfl
  have hb5 : Below w.heap.size w W5 := by rw [hq5]; exact setCells_below' (by omega) _ _ _ _ A.bel.drew
  have A5 : At w W5 w.heap.size r := ⟨by rw [hq5]; exact A.blk.drew.otherCells (by omega) _ _, Nat.le_refl _, hb5, _, hr5⟩
  clear hq5 hi
  refine ⟨A5, ?_⟩
  refine wpAnyH_done (by kernel_rfl) ?_ _
  go_wp2
  refine bodyPost_ret (v := .tuple #[.int .u8 0, .agg (Rs.cells r)]) (res_pair' (b := w.heap.size + 1) (r := r) Try.results20 rfl rfl hr5) rfl ⟨by first | rfl | (subst hr3; rfl), hb5⟩
set_option maxHeartbeats 2000000 in
theorem rstat_true (r : Rs) (w : World) (o : r.Ok) (hv : r.valid = true) :
    Calls Try.prog 20 #[.agg r.cells] w fun e w' => e = .returned (.tuple #[.int .u8 r.statV, .agg r.stat.cells]) ∧ Below w.heap.size w w' := by
  have rv := (Rs.valid_iff r).1 hv
  have V : Hid (∀ W : World, Calls Try.prog 34 #[.agg r.cells] W fun e w' => e = .returned (.bool true) ∧ Below W.heap.size W w') := fun W => by
    have := rvalid_any r W o
    rwa [hv] at this
  have p1 : r.stat = { r with vbl := false, hold := r.hold || decide (r.line * 341 + r.dot = 82181) } := by unfold Rs.stat; rw [hv]; rfl
  have p2 : r.statV = if r.vbl = true then 128 else 0 := by unfold Rs.statV; rw [hv]; rfl
  rw [p1, p2]
  clear p1 p2 hv
  by_cases h5 : r.line * 341 + r.dot = 82181
  · rw [decide_eq_true h5, Bool.or_true]
    have h6 : r.line = 241 := by obtain ⟨a, b, c, d, -, -⟩ := rv; omega
    have h7 : r.dot = 0 := by omega
    clear h5
    clear rv
    cases hb : r.vbl
    · simp only [if_true, if_false, reduceCtorEq]
      go_enter Try.func20, Try.ntmps20
      go_upto_region 1 with fail
      have A := At.start w r
      change Code.wp _ _ _ _ ((w.alloc (.cells r.cells 23)).alloc (.cells zeroR.cells 23))
      generalize (w.alloc (.cells r.cells 23)).alloc (.cells zeroR.cells 23) = W0 at *
      go_upto_region 5 with (first
        | (refine wpList_load_blk rfl 23 _ rfl (w.heap.size) rfl (Rs.cells r) _ A.blk Try.underlying23 rfl (infoR' _) ?_)
        | (go_at_call 34; refine (V.out _).mono ?_; rintro e Wx ⟨rfl, hbx⟩; replace A := A.on hbx; clear hbx))
      obtain ⟨f0, f1, f2, f3, f4, f5, f6, ff⟩ := A.facts
      have A' : Hid _ := A
      clear A
      rw [hb] at f3
      go_upto_region 8 with fail
      have A := A'.out.set (c' := { r with vbl := false }) 3 (.bool false) rfl
      clear A' f0 f1 f2 f3 f4 f5 f6 ff
      generalize World.setCell _ _ _ = W2 at *
      obtain ⟨f0, f1, f2, f3, f4, f5, f6, ff⟩ := A.facts
      simp only at f0 f1 f2 f3 f4 f5 f6
      have A9 : Hid _ := A
      clear A
      go_upto_region 9 with fail
      have A := A9.out
      clear A9 f0 f1 f2 f3 f4 f5 f6 ff
      obtain ⟨f0, f1, f2, f3, f4, f5, f6, ff⟩ := A.facts
      have A' : Hid _ := A
      clear A
      simp only at f0 f1 f2 f3 f4 f5 f6
      go_upto_region 10 with fail
      have A := A'.out.set (c' := { r with vbl := false, hold := true }) 6 (.bool true) rfl
      clear A' f0 f1 f2 f3 f4 f5 f6 ff
      generalize World.setCell _ _ _ = W3 at *
      obtain ⟨r3, hr3⟩ : ∃ x : Rs, x = { r with vbl := false, hold := true } := ⟨_, rfl⟩
      rw [← hr3] at A
      have hrx : Hid _ := hr3
      clear hr3
      obtain ⟨rc, hr⟩ := A.res
      refine wp_region_held (S := fun v => At w v w.heap.size r3) (by kernel_rfl) ?_
      refine takeH (i := 0) (v := .int .u8 0) _ rfl (by kernel_rfl) (by kernel_rfl) (by kernel_rfl) (fun _ _ _ h => h) (.inl ⟨by kernel_rfl, fun _ _ => by kernel_rfl⟩) A.drew rfl ?_
      refine takeH (i := 1) (v := .agg (Rs.cells r3).toList.toArray) _ rfl (by kernel_rfl) (by kernel_rfl) (by kernel_rfl) (fun _ _ _ h => h) (yieldsIf_load_mid (by kernel_rfl) 23 (.tmp 1) rfl w.heap.size 0 (by kernel_rfl) (Rs.cells r3).toList _ (fun v hv => Blk.range' (At.blk hv)) Try.underlying23 rfl (by rw [Array.length_toList]; exact infoR' r3)) A.drew rfl ?_
      refine takeH (i := 2) (v := .int .u8 0) _ rfl (by kernel_rfl) (by kernel_rfl) (by kernel_rfl) (fun _ _ _ h => h) (.inl ⟨by kernel_rfl, fun _ _ => by kernel_rfl⟩) A.drew rfl ?_
      refine wpAnyH_all (rs := [3]) (by kernel_rfl) (by simp) ?_
      intro i hi
      obtain rfl : i = 3 := by simpa using hi
      refine wpOp_store rfl (by kernel_rfl) 23 (.tmp 3) (.tmp 24) rfl (w.heap.size + 1) 0 (.agg (Rs.cells r3)) (Rs.cells r3) (by kernel_rfl) (by kernel_rfl) rfl (hr.drew.thereAt 0 7 (by show 0 + 7 ≤ 7; decide)) (by kernel_rfl) (by kernel_rfl) _ rfl ?_
      intro W5 hq5
      have hr5 : Blk W5 (w.heap.size + 1) (Rs.cells r3) 23 := by rw [hq5]; exact hr.drew.setAll rfl
      have hb5 : Below w.heap.size w W5 := by rw [hq5]; exact setCells_below' (by omega) _ _ _ _ A.bel.drew
      have A5 : At w W5 w.heap.size r3 := ⟨by rw [hq5]; exact A.blk.drew.otherCells (by omega) _ _, Nat.le_refl _, hb5, _, hr5⟩
      clear hq5 hi
      refine ⟨A5, ?_⟩
      refine wpAnyH_done (by kernel_rfl) ?_ _
      go_wp2
      refine bodyPost_ret (v := .tuple #[.int .u8 0, .agg (Rs.cells r3)]) (res_pair' (b := w.heap.size + 1) (r := r3) Try.results20 rfl rfl hr5) rfl ⟨by first | rfl | (have hr3 : r3 = _ := hrx.out; subst hr3; rfl), hb5⟩
    · simp only [if_true, if_false, reduceCtorEq]
      go_enter Try.func20, Try.ntmps20
      go_upto_region 1 with fail
      have A := At.start w r
      change Code.wp _ _ _ _ ((w.alloc (.cells r.cells 23)).alloc (.cells zeroR.cells 23))
      generalize (w.alloc (.cells r.cells 23)).alloc (.cells zeroR.cells 23) = W0 at *
      go_upto_region 5 with (first
        | (refine wpList_load_blk rfl 23 _ rfl (w.heap.size) rfl (Rs.cells r) _ A.blk Try.underlying23 rfl (infoR' _) ?_)
        | (go_at_call 34; refine (V.out _).mono ?_; rintro e Wx ⟨rfl, hbx⟩; replace A := A.on hbx; clear hbx))
      obtain ⟨f0, f1, f2, f3, f4, f5, f6, ff⟩ := A.facts
      have A' : Hid _ := A
      clear A
      rw [hb] at f3
      go_upto_region 8 with fail
      have A := A'.out.set (c' := { r with vbl := false }) 3 (.bool false) rfl
      clear A' f0 f1 f2 f3 f4 f5 f6 ff
      generalize World.setCell _ _ _ = W2 at *
      obtain ⟨f0, f1, f2, f3, f4, f5, f6, ff⟩ := A.facts
      simp only at f0 f1 f2 f3 f4 f5 f6
      have A9 : Hid _ := A
      clear A
      go_upto_region 9 with fail
      have A := A9.out
      clear A9 f0 f1 f2 f3 f4 f5 f6 ff
      obtain ⟨f0, f1, f2, f3, f4, f5, f6, ff⟩ := A.facts
      have A' : Hid _ := A
      clear A
      simp only at f0 f1 f2 f3 f4 f5 f6
      go_upto_region 10 with fail
      have A := A'.out.set (c' := { r with vbl := false, hold := true }) 6 (.bool true) rfl
      clear A' f0 f1 f2 f3 f4 f5 f6 ff
      generalize World.setCell _ _ _ = W3 at *
      obtain ⟨r3, hr3⟩ : ∃ x : Rs, x = { r with vbl := false, hold := true } := ⟨_, rfl⟩
      rw [← hr3] at A
      have hrx : Hid _ := hr3
      clear hr3
      obtain ⟨rc, hr⟩ := A.res
      refine wp_region_held (S := fun v => At w v w.heap.size r3) (by kernel_rfl) ?_
      refine takeH (i := 0) (v := .int .u8 128) _ rfl (by kernel_rfl) (by kernel_rfl) (by kernel_rfl) (fun _ _ _ h => h) (.inl ⟨by kernel_rfl, fun _ _ => by kernel_rfl⟩) A.drew rfl ?_
      refine takeH (i := 1) (v := .agg (Rs.cells r3).toList.toArray) _ rfl (by kernel_rfl) (by kernel_rfl) (by kernel_rfl) (fun _ _ _ h => h) (yieldsIf_load_mid (by kernel_rfl) 23 (.tmp 1) rfl w.heap.size 0 (by kernel_rfl) (Rs.cells r3).toList _ (fun v hv => Blk.range' (At.blk hv)) Try.underlying23 rfl (by rw [Array.length_toList]; exact infoR' r3)) A.drew rfl ?_
      refine takeH (i := 2) (v := .int .u8 128) _ rfl (by kernel_rfl) (by kernel_rfl) (by kernel_rfl) (fun _ _ _ h => h) (.inl ⟨by kernel_rfl, fun _ _ => by kernel_rfl⟩) A.drew rfl ?_
      refine wpAnyH_all (rs := [3]) (by kernel_rfl) (by simp) ?_
      intro i hi
      obtain rfl : i = 3 := by simpa using hi
      refine wpOp_store rfl (by kernel_rfl) 23 (.tmp 3) (.tmp 24) rfl (w.heap.size + 1) 0 (.agg (Rs.cells r3)) (Rs.cells r3) (by kernel_rfl) (by kernel_rfl) rfl (hr.drew.thereAt 0 7 (by show 0 + 7 ≤ 7; decide)) (by kernel_rfl) (by kernel_rfl) _ rfl ?_
      intro W5 hq5
      have hr5 : Blk W5 (w.heap.size + 1) (Rs.cells r3) 23 := by rw [hq5]; exact hr.drew.setAll rfl
      have hb5 : Below w.heap.size w W5 := by rw [hq5]; exact setCells_below' (by omega) _ _ _ _ A.bel.drew
      have A5 : At w W5 w.heap.size r3 := ⟨by rw [hq5]; exact A.blk.drew.otherCells (by omega) _ _, Nat.le_refl _, hb5, _, hr5⟩
      clear hq5 hi
      refine ⟨A5, ?_⟩
      refine wpAnyH_done (by kernel_rfl) ?_ _
      go_wp2
      refine bodyPost_ret (v := .tuple #[.int .u8 128, .agg (Rs.cells r3)]) (res_pair' (b := w.heap.size + 1) (r := r3) Try.results20 rfl rfl hr5) rfl ⟨by first | rfl | (have hr3 : r3 = _ := hrx.out; subst hr3; rfl), hb5⟩
  · rw [decide_eq_false h5, Bool.or_false]
    cases h8 : (r.line == 241)
    rotate_left
    · have h9 : (r.dot == 0) = false := by
        cases h9 : (r.dot == 0)
        · rfl
        · exfalso; simp at h8 h9; omega
      clear h5 rv
      cases hb : r.vbl
      · simp only [if_true, if_false, reduceCtorEq]
        go_enter Try.func20, Try.ntmps20
        go_upto_region 1 with fail
        have A := At.start w r
        change Code.wp _ _ _ _ ((w.alloc (.cells r.cells 23)).alloc (.cells zeroR.cells 23))
        generalize (w.alloc (.cells r.cells 23)).alloc (.cells zeroR.cells 23) = W0 at *
        go_upto_region 5 with (first
          | (refine wpList_load_blk rfl 23 _ rfl (w.heap.size) rfl (Rs.cells r) _ A.blk Try.underlying23 rfl (infoR' _) ?_)
          | (go_at_call 34; refine (V.out _).mono ?_; rintro e Wx ⟨rfl, hbx⟩; replace A := A.on hbx; clear hbx))
        obtain ⟨f0, f1, f2, f3, f4, f5, f6, ff⟩ := A.facts
        have A' : Hid _ := A
        clear A
        rw [hb] at f3
        go_upto_region 8 with fail
        have A := A'.out.set (c' := { r with vbl := false }) 3 (.bool false) rfl
        clear A' f0 f1 f2 f3 f4 f5 f6 ff
        generalize World.setCell _ _ _ = W2 at *
        obtain ⟨f0, f1, f2, f3, f4, f5, f6, ff⟩ := A.facts
        simp only at f0 f1 f2 f3 f4 f5 f6
        have A9 : Hid _ := A
        clear A
        go_upto_region 10 with fail
        have A := A9.out
        clear A9 f0 f1 f2 f3 f4 f5 f6 ff
        obtain ⟨r3, hr3⟩ : ∃ x : Rs, x = { r with vbl := false, hold := r.hold } := ⟨_, rfl⟩
        rw [← hr3] at A
        have hrx : Hid _ := hr3
        clear hr3
        obtain ⟨rc, hr⟩ := A.res
        refine wp_region_held (S := fun v => At w v w.heap.size r3) (by kernel_rfl) ?_
        refine takeH (i := 0) (v := .int .u8 0) _ rfl (by kernel_rfl) (by kernel_rfl) (by kernel_rfl) (fun _ _ _ h => h) (.inl ⟨by kernel_rfl, fun _ _ => by kernel_rfl⟩) A.drew rfl ?_
        refine takeH (i := 1) (v := .agg (Rs.cells r3).toList.toArray) _ rfl (by kernel_rfl) (by kernel_rfl) (by kernel_rfl) (fun _ _ _ h => h) (yieldsIf_load_mid (by kernel_rfl) 23 (.tmp 1) rfl w.heap.size 0 (by kernel_rfl) (Rs.cells r3).toList _ (fun v hv => Blk.range' (At.blk hv)) Try.underlying23 rfl (by rw [Array.length_toList]; exact infoR' r3)) A.drew rfl ?_
        refine takeH (i := 2) (v := .int .u8 0) _ rfl (by kernel_rfl) (by kernel_rfl) (by kernel_rfl) (fun _ _ _ h => h) (.inl ⟨by kernel_rfl, fun _ _ => by kernel_rfl⟩) A.drew rfl ?_
        refine wpAnyH_all (rs := [3]) (by kernel_rfl) (by simp) ?_
        intro i hi
        obtain rfl : i = 3 := by simpa using hi
        refine wpOp_store rfl (by kernel_rfl) 23 (.tmp 3) (.tmp 24) rfl (w.heap.size + 1) 0 (.agg (Rs.cells r3)) (Rs.cells r3) (by kernel_rfl) (by kernel_rfl) rfl (hr.drew.thereAt 0 7 (by show 0 + 7 ≤ 7; decide)) (by kernel_rfl) (by kernel_rfl) _ rfl ?_
        intro W5 hq5
        have hr5 : Blk W5 (w.heap.size + 1) (Rs.cells r3) 23 := by rw [hq5]; exact hr.drew.setAll rfl
        have hb5 : Below w.heap.size w W5 := by rw [hq5]; exact setCells_below' (by omega) _ _ _ _ A.bel.drew
        have A5 : At w W5 w.heap.size r3 := ⟨by rw [hq5]; exact A.blk.drew.otherCells (by omega) _ _, Nat.le_refl _, hb5, _, hr5⟩
        clear hq5 hi
        refine ⟨A5, ?_⟩
        refine wpAnyH_done (by kernel_rfl) ?_ _
        go_wp2
        refine bodyPost_ret (v := .tuple #[.int .u8 0, .agg (Rs.cells r3)]) (res_pair' (b := w.heap.size + 1) (r := r3) Try.results20 rfl rfl hr5) rfl ⟨by first | rfl | (have hr3 : r3 = _ := hrx.out; subst hr3; rfl), hb5⟩
      · simp only [if_true, if_false, reduceCtorEq]
        go_enter Try.func20, Try.ntmps20
        go_upto_region 1 with fail
        have A := At.start w r
        change Code.wp _ _ _ _ ((w.alloc (.cells r.cells 23)).alloc (.cells zeroR.cells 23))
        generalize (w.alloc (.cells r.cells 23)).alloc (.cells zeroR.cells 23) = W0 at *
        go_upto_region 5 with (first
          | (refine wpList_load_blk rfl 23 _ rfl (w.heap.size) rfl (Rs.cells r) _ A.blk Try.underlying23 rfl (infoR' _) ?_)
          | (go_at_call 34; refine (V.out _).mono ?_; rintro e Wx ⟨rfl, hbx⟩; replace A := A.on hbx; clear hbx))
        obtain ⟨f0, f1, f2, f3, f4, f5, f6, ff⟩ := A.facts
        have A' : Hid _ := A
        clear A
        rw [hb] at f3
        go_upto_region 8 with fail
        have A := A'.out.set (c' := { r with vbl := false }) 3 (.bool false) rfl
        clear A' f0 f1 f2 f3 f4 f5 f6 ff
        generalize World.setCell _ _ _ = W2 at *
        obtain ⟨f0, f1, f2, f3, f4, f5, f6, ff⟩ := A.facts
        simp only at f0 f1 f2 f3 f4 f5 f6
        have A9 : Hid _ := A
        clear A
        go_upto_region 10 with fail
        have A := A9.out
        clear A9 f0 f1 f2 f3 f4 f5 f6 ff
        obtain ⟨r3, hr3⟩ : ∃ x : Rs, x = { r with vbl := false, hold := r.hold } := ⟨_, rfl⟩
        rw [← hr3] at A
        have hrx : Hid _ := hr3
        clear hr3
        obtain ⟨rc, hr⟩ := A.res
        refine wp_region_held (S := fun v => At w v w.heap.size r3) (by kernel_rfl) ?_
        refine takeH (i := 0) (v := .int .u8 128) _ rfl (by kernel_rfl) (by kernel_rfl) (by kernel_rfl) (fun _ _ _ h => h) (.inl ⟨by kernel_rfl, fun _ _ => by kernel_rfl⟩) A.drew rfl ?_
        refine takeH (i := 1) (v := .agg (Rs.cells r3).toList.toArray) _ rfl (by kernel_rfl) (by kernel_rfl) (by kernel_rfl) (fun _ _ _ h => h) (yieldsIf_load_mid (by kernel_rfl) 23 (.tmp 1) rfl w.heap.size 0 (by kernel_rfl) (Rs.cells r3).toList _ (fun v hv => Blk.range' (At.blk hv)) Try.underlying23 rfl (by rw [Array.length_toList]; exact infoR' r3)) A.drew rfl ?_
        refine takeH (i := 2) (v := .int .u8 128) _ rfl (by kernel_rfl) (by kernel_rfl) (by kernel_rfl) (fun _ _ _ h => h) (.inl ⟨by kernel_rfl, fun _ _ => by kernel_rfl⟩) A.drew rfl ?_
        refine wpAnyH_all (rs := [3]) (by kernel_rfl) (by simp) ?_
        intro i hi
        obtain rfl : i = 3 := by simpa using hi
        refine wpOp_store rfl (by kernel_rfl) 23 (.tmp 3) (.tmp 24) rfl (w.heap.size + 1) 0 (.agg (Rs.cells r3)) (Rs.cells r3) (by kernel_rfl) (by kernel_rfl) rfl (hr.drew.thereAt 0 7 (by show 0 + 7 ≤ 7; decide)) (by kernel_rfl) (by kernel_rfl) _ rfl ?_
        intro W5 hq5
        have hr5 : Blk W5 (w.heap.size + 1) (Rs.cells r3) 23 := by rw [hq5]; exact hr.drew.setAll rfl
        have hb5 : Below w.heap.size w W5 := by rw [hq5]; exact setCells_below' (by omega) _ _ _ _ A.bel.drew
        have A5 : At w W5 w.heap.size r3 := ⟨by rw [hq5]; exact A.blk.drew.otherCells (by omega) _ _, Nat.le_refl _, hb5, _, hr5⟩
        clear hq5 hi
        refine ⟨A5, ?_⟩
        refine wpAnyH_done (by kernel_rfl) ?_ _
        go_wp2
        refine bodyPost_ret (v := .tuple #[.int .u8 128, .agg (Rs.cells r3)]) (res_pair' (b := w.heap.size + 1) (r := r3) Try.results20 rfl rfl hr5) rfl ⟨by first | rfl | (have hr3 : r3 = _ := hrx.out; subst hr3; rfl), hb5⟩
    clear h5
    clear rv
    cases hb : r.vbl
    · simp only [if_true, if_false, reduceCtorEq]
      go_enter Try.func20, Try.ntmps20
      go_upto_region 1 with fail
      have A := At.start w r
      change Code.wp _ _ _ _ ((w.alloc (.cells r.cells 23)).alloc (.cells zeroR.cells 23))
      generalize (w.alloc (.cells r.cells 23)).alloc (.cells zeroR.cells 23) = W0 at *
      go_upto_region 5 with (first
        | (refine wpList_load_blk rfl 23 _ rfl (w.heap.size) rfl (Rs.cells r) _ A.blk Try.underlying23 rfl (infoR' _) ?_)
        | (go_at_call 34; refine (V.out _).mono ?_; rintro e Wx ⟨rfl, hbx⟩; replace A := A.on hbx; clear hbx))
      obtain ⟨f0, f1, f2, f3, f4, f5, f6, ff⟩ := A.facts
      have A' : Hid _ := A
      clear A
      rw [hb] at f3
      go_upto_region 8 with fail
      have A := A'.out.set (c' := { r with vbl := false }) 3 (.bool false) rfl
      clear A' f0 f1 f2 f3 f4 f5 f6 ff
      generalize World.setCell _ _ _ = W2 at *
      obtain ⟨f0, f1, f2, f3, f4, f5, f6, ff⟩ := A.facts
      simp only at f0 f1 f2 f3 f4 f5 f6
      have A9 : Hid _ := A
      clear A
      go_upto_region 10 with fail
      have A := A9.out
      clear A9 f0 f1 f2 f3 f4 f5 f6 ff
      obtain ⟨r3, hr3⟩ : ∃ x : Rs, x = { r with vbl := false, hold := r.hold } := ⟨_, rfl⟩
      rw [← hr3] at A
      have hrx : Hid _ := hr3
      clear hr3
      obtain ⟨rc, hr⟩ := A.res
      refine wp_region_held (S := fun v => At w v w.heap.size r3) (by kernel_rfl) ?_
      refine takeH (i := 0) (v := .int .u8 0) _ rfl (by kernel_rfl) (by kernel_rfl) (by kernel_rfl) (fun _ _ _ h => h) (.inl ⟨by kernel_rfl, fun _ _ => by kernel_rfl⟩) A.drew rfl ?_
      refine takeH (i := 1) (v := .agg (Rs.cells r3).toList.toArray) _ rfl (by kernel_rfl) (by kernel_rfl) (by kernel_rfl) (fun _ _ _ h => h) (yieldsIf_load_mid (by kernel_rfl) 23 (.tmp 1) rfl w.heap.size 0 (by kernel_rfl) (Rs.cells r3).toList _ (fun v hv => Blk.range' (At.blk hv)) Try.underlying23 rfl (by rw [Array.length_toList]; exact infoR' r3)) A.drew rfl ?_
      refine takeH (i := 2) (v := .int .u8 0) _ rfl (by kernel_rfl) (by kernel_rfl) (by kernel_rfl) (fun _ _ _ h => h) (.inl ⟨by kernel_rfl, fun _ _ => by kernel_rfl⟩) A.drew rfl ?_
      refine wpAnyH_all (rs := [3]) (by kernel_rfl) (by simp) ?_
      intro i hi
      obtain rfl : i = 3 := by simpa using hi
      refine wpOp_store rfl (by kernel_rfl) 23 (.tmp 3) (.tmp 24) rfl (w.heap.size + 1) 0 (.agg (Rs.cells r3)) (Rs.cells r3) (by kernel_rfl) (by kernel_rfl) rfl (hr.drew.thereAt 0 7 (by show 0 + 7 ≤ 7; decide)) (by kernel_rfl) (by kernel_rfl) _ rfl ?_
      intro W5 hq5
      have hr5 : Blk W5 (w.heap.size + 1) (Rs.cells r3) 23 := by rw [hq5]; exact hr.drew.setAll rfl
      have hb5 : Below w.heap.size w W5 := by rw [hq5]; exact setCells_below' (by omega) _ _ _ _ A.bel.drew
      have A5 : At w W5 w.heap.size r3 := ⟨by rw [hq5]; exact A.blk.drew.otherCells (by omega) _ _, Nat.le_refl _, hb5, _, hr5⟩
      clear hq5 hi
      refine ⟨A5, ?_⟩
      refine wpAnyH_done (by kernel_rfl) ?_ _
      go_wp2
      refine bodyPost_ret (v := .tuple #[.int .u8 0, .agg (Rs.cells r3)]) (res_pair' (b := w.heap.size + 1) (r := r3) Try.results20 rfl rfl hr5) rfl ⟨by first | rfl | (have hr3 : r3 = _ := hrx.out; subst hr3; rfl), hb5⟩
    · simp only [if_true, if_false, reduceCtorEq]
      go_enter Try.func20, Try.ntmps20
      go_upto_region 1 with fail
      have A := At.start w r
      change Code.wp _ _ _ _ ((w.alloc (.cells r.cells 23)).alloc (.cells zeroR.cells 23))
      generalize (w.alloc (.cells r.cells 23)).alloc (.cells zeroR.cells 23) = W0 at *
      go_upto_region 5 with (first
        | (refine wpList_load_blk rfl 23 _ rfl (w.heap.size) rfl (Rs.cells r) _ A.blk Try.underlying23 rfl (infoR' _) ?_)
        | (go_at_call 34; refine (V.out _).mono ?_; rintro e Wx ⟨rfl, hbx⟩; replace A := A.on hbx; clear hbx))
      obtain ⟨f0, f1, f2, f3, f4, f5, f6, ff⟩ := A.facts
      have A' : Hid _ := A
      clear A
      rw [hb] at f3
      go_upto_region 8 with fail
      have A := A'.out.set (c' := { r with vbl := false }) 3 (.bool false) rfl
      clear A' f0 f1 f2 f3 f4 f5 f6 ff
      generalize World.setCell _ _ _ = W2 at *
      obtain ⟨f0, f1, f2, f3, f4, f5, f6, ff⟩ := A.facts
      simp only at f0 f1 f2 f3 f4 f5 f6
      have A9 : Hid _ := A
      clear A
      go_upto_region 10 with fail
      have A := A9.out
      clear A9 f0 f1 f2 f3 f4 f5 f6 ff
      obtain ⟨r3, hr3⟩ : ∃ x : Rs, x = { r with vbl := false, hold := r.hold } := ⟨_, rfl⟩
      rw [← hr3] at A
      have hrx : Hid _ := hr3
      clear hr3
      obtain ⟨rc, hr⟩ := A.res
      refine wp_region_held (S := fun v => At w v w.heap.size r3) (by kernel_rfl) ?_
      refine takeH (i := 0) (v := .int .u8 128) _ rfl (by kernel_rfl) (by kernel_rfl) (by kernel_rfl) (fun _ _ _ h => h) (.inl ⟨by kernel_rfl, fun _ _ => by kernel_rfl⟩) A.drew rfl ?_
      refine takeH (i := 1) (v := .agg (Rs.cells r3).toList.toArray) _ rfl (by kernel_rfl) (by kernel_rfl) (by kernel_rfl) (fun _ _ _ h => h) (yieldsIf_load_mid (by kernel_rfl) 23 (.tmp 1) rfl w.heap.size 0 (by kernel_rfl) (Rs.cells r3).toList _ (fun v hv => Blk.range' (At.blk hv)) Try.underlying23 rfl (by rw [Array.length_toList]; exact infoR' r3)) A.drew rfl ?_
      refine takeH (i := 2) (v := .int .u8 128) _ rfl (by kernel_rfl) (by kernel_rfl) (by kernel_rfl) (fun _ _ _ h => h) (.inl ⟨by kernel_rfl, fun _ _ => by kernel_rfl⟩) A.drew rfl ?_
      refine wpAnyH_all (rs := [3]) (by kernel_rfl) (by simp) ?_
      intro i hi
      obtain rfl : i = 3 := by simpa using hi
      refine wpOp_store rfl (by kernel_rfl) 23 (.tmp 3) (.tmp 24) rfl (w.heap.size + 1) 0 (.agg (Rs.cells r3)) (Rs.cells r3) (by kernel_rfl) (by kernel_rfl) rfl (hr.drew.thereAt 0 7 (by show 0 + 7 ≤ 7; decide)) (by kernel_rfl) (by kernel_rfl) _ rfl ?_
      intro W5 hq5
      have hr5 : Blk W5 (w.heap.size + 1) (Rs.cells r3) 23 := by rw [hq5]; exact hr.drew.setAll rfl
      have hb5 : Below w.heap.size w W5 := by rw [hq5]; exact setCells_below' (by omega) _ _ _ _ A.bel.drew
      have A5 : At w W5 w.heap.size r3 := ⟨by rw [hq5]; exact A.blk.drew.otherCells (by omega) _ _, Nat.le_refl _, hb5, _, hr5⟩
      clear hq5 hi
      refine ⟨A5, ?_⟩
      refine wpAnyH_done (by kernel_rfl) ?_ _
      go_wp2
      refine bodyPost_ret (v := .tuple #[.int .u8 128, .agg (Rs.cells r3)]) (res_pair' (b := w.heap.size + 1) (r := r3) Try.results20 rfl rfl hr5) rfl ⟨by first | rfl | (have hr3 : r3 = _ := hrx.out; subst hr3; rfl), hb5⟩
theorem rstat_any (r : Rs) (w : World) (o : r.Ok) :
    Calls Try.prog 20 #[.agg r.cells] w fun e w' => e = .returned (.tuple #[.int .u8 r.statV, .agg r.stat.cells]) ∧ Below w.heap.size w w' := by
  cases hv : r.valid
  · exact rstat_false r w o hv
  · exact rstat_true r w o hv
end Go.Proofs.Ytlnpcbofebppcab
