/-
  What Bank and ChrBank answer of every board.
-/
import Derived.Test.YtggphgmpdanliaaYKinds
set_option linter.unusedSimpArgs false
set_option linter.unusedVariables false
namespace Go.Proofs.Ytggphgmpdanliaa
open Go.RowKit
set_option maxRecDepth 100000 in
set_option maxHeartbeats 1000000 in
theorem bank_none (w : World) (b : Bd) (x : Int) (hr : b.r.length = 8) (hv : validB b = false) :
    Calls Try.prog 20 #[.agg b.cells, .int .i64 x] w fun e w' => e = .returned (.int .i64 (-1)) ∧ Below w.heap.size w w' := by
  have OA := fun W => open_any W b hr
  have C := isB b hr
  generalize b.cells = cs at C OA
  have hsz := C.size
  have HS : Hid _ := hsz
  have HO : Hid _ := OA
  have HV : Hid _ := hv
  clear OA hv
  have q0 : ∀ (w : World), (binOp .eql 70 .nilIface .nilIface).run Try.prog w = .ok (.bool true) w := fun w => by
    have := run_equal_nil_nil (P := Try.prog) w 70 (by kernel_rfl)
    simp only [binOp, Sem.run_bind, this, Result.andThen_ok, Sem.run_pure]
  go_enter Try.func20, Try.ntmps20
  go_upto_region 1 with fail
  have b0 : Blk (w.alloc (.cells cs 28)) w.heap.size cs 28 := Blk.new w cs _
  have hb0 : Below w.heap.size w (w.alloc (.cells cs 28)) := (Below.refl _ _).alloc (Nat.le_refl _) _
  generalize w.alloc (.cells cs 28) = W0 at *
  clear C hsz
  go_wp2_with (refine wpList_load_mid rfl 28 _ rfl w.heap.size 0 rfl cs.toList _ b0.range Try.underlying28 rfl (by rw [Array.length_toList, HS.out]; exact Try.infoBoard) ?_)
  refine (HO.out W0).mono ?_
  rintro e W1 ⟨hb1', h⟩
  have hb1 : Below w.heap.size w W1 := hb0.trans (hb1'.mono hb0.size)
  clear hb1' hb0 b0
  rcases h with ⟨E, rfl⟩ | ⟨E, T, m, rfl⟩
  · clear E
    go_wp2
    go_ret
    exact ⟨rfl, hb1⟩
  · exact absurd (HV.out.symm.trans E) (by decide)
set_option maxRecDepth 100000 in
set_option maxHeartbeats 1000000 in
theorem bank_low (w : World) (b : Bd) (x : Int) (hx : x < 0) (o : b.Ok) :
    Calls Try.prog 20 #[.agg b.cells, .int .i64 x] w fun e w' => e = .returned (.int .i64 (-1)) ∧ Below w.heap.size w w' := by
  obtain ⟨T, t, kc, fB, fC, fM, fW, fR, kn⟩ := kinds o
  have hr := o.wf.rlen
  have OA := fun W => kn.opn b o rfl W
  have C := isB b hr
  generalize b.cells = cs at C OA
  have hsz := C.size
  have HS : Hid _ := hsz
  have HO : Hid _ := OA
  clear OA kn o
  have q1 : ∀ (w : World) (T : TypeId) (x : Value), (binOp .eql 70 (.iface T x) .nilIface).run Try.prog w = .ok (.bool false) w := fun w T x => by
    have := run_equal_held_nil (P := Try.prog) w 70 T x (by kernel_rfl)
    simp only [binOp, Sem.run_bind, this, Result.andThen_ok, Sem.run_pure]
  have x0 : decide (x < 0) = true := decide_eq_true hx
  clear hx
  go_enter Try.func20, Try.ntmps20
  go_upto_region 1 with fail
  have b0 : Blk (w.alloc (.cells cs 28)) w.heap.size cs 28 := Blk.new w cs _
  have hb0 : Below w.heap.size w (w.alloc (.cells cs 28)) := (Below.refl _ _).alloc (Nat.le_refl _) _
  generalize w.alloc (.cells cs 28) = W0 at *
  clear C hsz
  go_wp2_with (refine wpList_load_mid rfl 28 _ rfl w.heap.size 0 rfl cs.toList _ b0.range Try.underlying28 rfl (by rw [Array.length_toList, HS.out]; exact Try.infoBoard) ?_)
  refine (HO.out W0).mono ?_
  rintro e W1 ⟨m, rfl, hm, hb1', K⟩
  have hb1 : Below w.heap.size w W1 := hb0.trans (hb1'.mono hb0.size)
  clear hb1' hb0 b0 K hm HO
  go_wp2
  go_ret
  exact ⟨rfl, hb1⟩
set_option maxRecDepth 100000 in
set_option maxHeartbeats 1000000 in
theorem bank_high (w : World) (b : Bd) (x : Int) (hx : 3 < x) (o : b.Ok) :
    Calls Try.prog 20 #[.agg b.cells, .int .i64 x] w fun e w' => e = .returned (.int .i64 (-1)) ∧ Below w.heap.size w w' := by
  obtain ⟨T, t, kc, fB, fC, fM, fW, fR, kn⟩ := kinds o
  have hr := o.wf.rlen
  have OA := fun W => kn.opn b o rfl W
  have C := isB b hr
  generalize b.cells = cs at C OA
  have hsz := C.size
  have HS : Hid _ := hsz
  have HO : Hid _ := OA
  clear OA kn o
  have q1 : ∀ (w : World) (T : TypeId) (x : Value), (binOp .eql 70 (.iface T x) .nilIface).run Try.prog w = .ok (.bool false) w := fun w T x => by
    have := run_equal_held_nil (P := Try.prog) w 70 T x (by kernel_rfl)
    simp only [binOp, Sem.run_bind, this, Result.andThen_ok, Sem.run_pure]
  have x0 : decide (x < 0) = false := decide_eq_false (by omega)
  have x1 : decide (4 ≤ x) = true := decide_eq_true (by omega)
  clear hx
  go_enter Try.func20, Try.ntmps20
  go_upto_region 1 with fail
  have b0 : Blk (w.alloc (.cells cs 28)) w.heap.size cs 28 := Blk.new w cs _
  have hb0 : Below w.heap.size w (w.alloc (.cells cs 28)) := (Below.refl _ _).alloc (Nat.le_refl _) _
  generalize w.alloc (.cells cs 28) = W0 at *
  clear C hsz
  go_wp2_with (refine wpList_load_mid rfl 28 _ rfl w.heap.size 0 rfl cs.toList _ b0.range Try.underlying28 rfl (by rw [Array.length_toList, HS.out]; exact Try.infoBoard) ?_)
  refine (HO.out W0).mono ?_
  rintro e W1 ⟨m, rfl, hm, hb1', K⟩
  have hb1 : Below w.heap.size w W1 := hb0.trans (hb1'.mono hb0.size)
  clear hb1' hb0 b0 K hm HO
  go_wp2
  go_ret
  exact ⟨rfl, hb1⟩
set_option maxRecDepth 100000 in
set_option maxHeartbeats 1000000 in
theorem bank_in (w : World) (b : Bd) (x : Int) (h0 : 0 ≤ x) (h1 : x ≤ 3) (o : b.Ok) :
    Calls Try.prog 20 #[.agg b.cells, .int .i64 x] w fun e w' => e = .returned (.int .i64 (bankB b x)) ∧ Below w.heap.size w w' := by
  obtain ⟨T, t, kc, fB, fC, fM, fW, fR, kn⟩ := kinds o
  have hr := o.wf.rlen
  have OA := fun W => kn.opn b o rfl W
  have C := isB b hr
  generalize b.cells = cs at C OA
  have hsz := C.size
  have HS : Hid _ := hsz
  have HO : Hid _ := OA
  have KN : Hid _ := kn
  have OK : Hid _ := o
  clear OA kn o
  have q1 : ∀ (w : World) (T : TypeId) (x : Value), (binOp .eql 70 (.iface T x) .nilIface).run Try.prog w = .ok (.bool false) w := fun w T x => by
    have := run_equal_held_nil (P := Try.prog) w 70 T x (by kernel_rfl)
    simp only [binOp, Sem.run_bind, this, Result.andThen_ok, Sem.run_pure]
  have x0 : decide (x < 0) = false := decide_eq_false (by omega)
  have x1 : decide (4 ≤ x) = false := decide_eq_false (by omega)
  go_enter Try.func20, Try.ntmps20
  go_upto_region 1 with fail
  have b0 : Blk (w.alloc (.cells cs 28)) w.heap.size cs 28 := Blk.new w cs _
  have hb0 : Below w.heap.size w (w.alloc (.cells cs 28)) := (Below.refl _ _).alloc (Nat.le_refl _) _
  generalize w.alloc (.cells cs 28) = W0 at *
  clear C hsz
  go_wp2_with (refine wpList_load_mid rfl 28 _ rfl w.heap.size 0 rfl cs.toList _ b0.range Try.underlying28 rfl (by rw [Array.length_toList, HS.out]; exact Try.infoBoard) ?_)
  refine (HO.out W0).mono ?_
  rintro e W1 ⟨m, rfl, hm, hb1', K⟩
  have hb1 : Below w.heap.size w W1 := hb0.trans (hb1'.mono hb0.size)
  have hM := fun w => KN.out.mB m w
  have hE := fun w => KN.out.eB #[.pointer (some ⟨m, 0, none⟩), .int .i64 x] w
  have CT : Hid _ := KN.out.bnk b OK.out rfl W1 m x h0 h1 K
  clear hb1' hb0 b0 K hm HO KN OK
  go_wp2_with fail
  refine Calls.mono CT.out ?_
  rintro e W2 ⟨rfl, hb2'⟩
  have hb2 : Below w.heap.size w W2 := hb1.trans (hb2'.mono hb1.size)
  clear hb2' hb1 CT hM hE
  go_wp2
  go_ret
  exact ⟨rfl, hb2⟩
/-- What bank answers of any board, at any number. -/
def bankBA (b : Bd) (x : Int) : Int := if validB b = true ∧ 0 ≤ x ∧ x ≤ 3 then bankB b x else -1
theorem bank_all (w : World) (b : Bd) (x : Int) (B : b.Wf) :
    Calls Try.prog 20 #[.agg b.cells, .int .i64 x] w fun e w' => e = .returned (.int .i64 (bankBA b x)) ∧ Below w.heap.size w w' := by
  unfold bankBA
  cases hv : validB b
  · rw [if_neg (by simp)]
    exact bank_none w b x B.rlen hv
  have o := Bd.ok B hv
  by_cases h0 : x < 0
  · rw [if_neg (by omega)]
    exact bank_low w b x h0 o
  by_cases h1 : 3 < x
  · rw [if_neg (by omega)]
    exact bank_high w b x h1 o
  rw [if_pos ⟨rfl, by omega, by omega⟩]
  exact bank_in w b x (by omega) (by omega) o
set_option maxRecDepth 100000 in
set_option maxHeartbeats 1000000 in
theorem chrBank_none (w : World) (b : Bd) (x : Int) (hr : b.r.length = 8) (hv : validB b = false) :
    Calls Try.prog 30 #[.agg b.cells, .int .i64 x] w fun e w' => e = .returned (.int .i64 (-1)) ∧ Below w.heap.size w w' := by
  have OA := fun W => open_any W b hr
  have C := isB b hr
  generalize b.cells = cs at C OA
  have hsz := C.size
  have HS : Hid _ := hsz
  have HO : Hid _ := OA
  have HV : Hid _ := hv
  clear OA hv
  have q0 : ∀ (w : World), (binOp .eql 70 .nilIface .nilIface).run Try.prog w = .ok (.bool true) w := fun w => by
    have := run_equal_nil_nil (P := Try.prog) w 70 (by kernel_rfl)
    simp only [binOp, Sem.run_bind, this, Result.andThen_ok, Sem.run_pure]
  go_enter Try.func30, Try.ntmps30
  go_upto_region 1 with fail
  have b0 : Blk (w.alloc (.cells cs 28)) w.heap.size cs 28 := Blk.new w cs _
  have hb0 : Below w.heap.size w (w.alloc (.cells cs 28)) := (Below.refl _ _).alloc (Nat.le_refl _) _
  generalize w.alloc (.cells cs 28) = W0 at *
  clear C hsz
  go_wp2_with (refine wpList_load_mid rfl 28 _ rfl w.heap.size 0 rfl cs.toList _ b0.range Try.underlying28 rfl (by rw [Array.length_toList, HS.out]; exact Try.infoBoard) ?_)
  refine (HO.out W0).mono ?_
  rintro e W1 ⟨hb1', h⟩
  have hb1 : Below w.heap.size w W1 := hb0.trans (hb1'.mono hb0.size)
  clear hb1' hb0 b0
  rcases h with ⟨E, rfl⟩ | ⟨E, T, m, rfl⟩
  · clear E
    go_wp2
    go_ret
    exact ⟨rfl, hb1⟩
  · exact absurd (HV.out.symm.trans E) (by decide)
set_option maxRecDepth 100000 in
set_option maxHeartbeats 1000000 in
theorem chrBank_low (w : World) (b : Bd) (x : Int) (hx : x < 0) (o : b.Ok) :
    Calls Try.prog 30 #[.agg b.cells, .int .i64 x] w fun e w' => e = .returned (.int .i64 (-1)) ∧ Below w.heap.size w w' := by
  obtain ⟨T, t, kc, fB, fC, fM, fW, fR, kn⟩ := kinds o
  have hr := o.wf.rlen
  have OA := fun W => kn.opn b o rfl W
  have C := isB b hr
  generalize b.cells = cs at C OA
  have hsz := C.size
  have HS : Hid _ := hsz
  have HO : Hid _ := OA
  clear OA kn o
  have q1 : ∀ (w : World) (T : TypeId) (x : Value), (binOp .eql 70 (.iface T x) .nilIface).run Try.prog w = .ok (.bool false) w := fun w T x => by
    have := run_equal_held_nil (P := Try.prog) w 70 T x (by kernel_rfl)
    simp only [binOp, Sem.run_bind, this, Result.andThen_ok, Sem.run_pure]
  have x0 : decide (x < 0) = true := decide_eq_true hx
  clear hx
  go_enter Try.func30, Try.ntmps30
  go_upto_region 1 with fail
  have b0 : Blk (w.alloc (.cells cs 28)) w.heap.size cs 28 := Blk.new w cs _
  have hb0 : Below w.heap.size w (w.alloc (.cells cs 28)) := (Below.refl _ _).alloc (Nat.le_refl _) _
  generalize w.alloc (.cells cs 28) = W0 at *
  clear C hsz
  go_wp2_with (refine wpList_load_mid rfl 28 _ rfl w.heap.size 0 rfl cs.toList _ b0.range Try.underlying28 rfl (by rw [Array.length_toList, HS.out]; exact Try.infoBoard) ?_)
  refine (HO.out W0).mono ?_
  rintro e W1 ⟨m, rfl, hm, hb1', K⟩
  have hb1 : Below w.heap.size w W1 := hb0.trans (hb1'.mono hb0.size)
  clear hb1' hb0 b0 K hm HO
  go_wp2
  go_ret
  exact ⟨rfl, hb1⟩
set_option maxRecDepth 100000 in
set_option maxHeartbeats 1000000 in
theorem chrBank_high (w : World) (b : Bd) (x : Int) (hx : 7 < x) (o : b.Ok) :
    Calls Try.prog 30 #[.agg b.cells, .int .i64 x] w fun e w' => e = .returned (.int .i64 (-1)) ∧ Below w.heap.size w w' := by
  obtain ⟨T, t, kc, fB, fC, fM, fW, fR, kn⟩ := kinds o
  have hr := o.wf.rlen
  have OA := fun W => kn.opn b o rfl W
  have C := isB b hr
  generalize b.cells = cs at C OA
  have hsz := C.size
  have HS : Hid _ := hsz
  have HO : Hid _ := OA
  clear OA kn o
  have q1 : ∀ (w : World) (T : TypeId) (x : Value), (binOp .eql 70 (.iface T x) .nilIface).run Try.prog w = .ok (.bool false) w := fun w T x => by
    have := run_equal_held_nil (P := Try.prog) w 70 T x (by kernel_rfl)
    simp only [binOp, Sem.run_bind, this, Result.andThen_ok, Sem.run_pure]
  have x0 : decide (x < 0) = false := decide_eq_false (by omega)
  have x1 : decide (8 ≤ x) = true := decide_eq_true (by omega)
  clear hx
  go_enter Try.func30, Try.ntmps30
  go_upto_region 1 with fail
  have b0 : Blk (w.alloc (.cells cs 28)) w.heap.size cs 28 := Blk.new w cs _
  have hb0 : Below w.heap.size w (w.alloc (.cells cs 28)) := (Below.refl _ _).alloc (Nat.le_refl _) _
  generalize w.alloc (.cells cs 28) = W0 at *
  clear C hsz
  go_wp2_with (refine wpList_load_mid rfl 28 _ rfl w.heap.size 0 rfl cs.toList _ b0.range Try.underlying28 rfl (by rw [Array.length_toList, HS.out]; exact Try.infoBoard) ?_)
  refine (HO.out W0).mono ?_
  rintro e W1 ⟨m, rfl, hm, hb1', K⟩
  have hb1 : Below w.heap.size w W1 := hb0.trans (hb1'.mono hb0.size)
  clear hb1' hb0 b0 K hm HO
  go_wp2
  go_ret
  exact ⟨rfl, hb1⟩
set_option maxRecDepth 100000 in
set_option maxHeartbeats 1000000 in
theorem chrBank_in (w : World) (b : Bd) (x : Int) (h0 : 0 ≤ x) (h1 : x ≤ 7) (o : b.Ok) :
    Calls Try.prog 30 #[.agg b.cells, .int .i64 x] w fun e w' => e = .returned (.int .i64 (chrB b x)) ∧ Below w.heap.size w w' := by
  obtain ⟨T, t, kc, fB, fC, fM, fW, fR, kn⟩ := kinds o
  have hr := o.wf.rlen
  have OA := fun W => kn.opn b o rfl W
  have C := isB b hr
  generalize b.cells = cs at C OA
  have hsz := C.size
  have HS : Hid _ := hsz
  have HO : Hid _ := OA
  have KN : Hid _ := kn
  have OK : Hid _ := o
  clear OA kn o
  have q1 : ∀ (w : World) (T : TypeId) (x : Value), (binOp .eql 70 (.iface T x) .nilIface).run Try.prog w = .ok (.bool false) w := fun w T x => by
    have := run_equal_held_nil (P := Try.prog) w 70 T x (by kernel_rfl)
    simp only [binOp, Sem.run_bind, this, Result.andThen_ok, Sem.run_pure]
  have x0 : decide (x < 0) = false := decide_eq_false (by omega)
  have x1 : decide (8 ≤ x) = false := decide_eq_false (by omega)
  go_enter Try.func30, Try.ntmps30
  go_upto_region 1 with fail
  have b0 : Blk (w.alloc (.cells cs 28)) w.heap.size cs 28 := Blk.new w cs _
  have hb0 : Below w.heap.size w (w.alloc (.cells cs 28)) := (Below.refl _ _).alloc (Nat.le_refl _) _
  generalize w.alloc (.cells cs 28) = W0 at *
  clear C hsz
  go_wp2_with (refine wpList_load_mid rfl 28 _ rfl w.heap.size 0 rfl cs.toList _ b0.range Try.underlying28 rfl (by rw [Array.length_toList, HS.out]; exact Try.infoBoard) ?_)
  refine (HO.out W0).mono ?_
  rintro e W1 ⟨m, rfl, hm, hb1', K⟩
  have hb1 : Below w.heap.size w W1 := hb0.trans (hb1'.mono hb0.size)
  have hM := fun w => KN.out.mC m w
  have hE := fun w => KN.out.eC #[.pointer (some ⟨m, 0, none⟩), .int .i64 x] w
  have CT : Hid _ := KN.out.chr b OK.out rfl W1 m x h0 h1 K
  clear hb1' hb0 b0 K hm HO KN OK
  go_wp2_with fail
  refine Calls.mono CT.out ?_
  rintro e W2 ⟨rfl, hb2'⟩
  have hb2 : Below w.heap.size w W2 := hb1.trans (hb2'.mono hb1.size)
  clear hb2' hb1 CT hM hE
  go_wp2
  go_ret
  exact ⟨rfl, hb2⟩
/-- What chrBank answers of any board, at any number. -/
def chrBA (b : Bd) (x : Int) : Int := if validB b = true ∧ 0 ≤ x ∧ x ≤ 7 then chrB b x else -1
theorem chrBank_all (w : World) (b : Bd) (x : Int) (B : b.Wf) :
    Calls Try.prog 30 #[.agg b.cells, .int .i64 x] w fun e w' => e = .returned (.int .i64 (chrBA b x)) ∧ Below w.heap.size w w' := by
  unfold chrBA
  cases hv : validB b
  · rw [if_neg (by simp)]
    exact chrBank_none w b x B.rlen hv
  have o := Bd.ok B hv
  by_cases h0 : x < 0
  · rw [if_neg (by omega)]
    exact chrBank_low w b x h0 o
  by_cases h1 : 7 < x
  · rw [if_neg (by omega)]
    exact chrBank_high w b x h1 o
  rw [if_pos ⟨rfl, by omega, by omega⟩]
  exact chrBank_in w b x (by omega) (by omega) o
end Go.Proofs.Ytggphgmpdanliaa
