/-
  What PrgAt and ChrAt answer of every board.
-/
import Derived.Test.YtggphgmpdanliaaYKinds
set_option linter.unusedSimpArgs false
set_option linter.unusedVariables false
namespace Go.Proofs.Ytggphgmpdanliaa
open Go.RowKit
theorem bankB_lt {b : Bd} (o : b.Ok) (x : Int) : 0 ≤ bankB b x ∧ bankB b x ≤ 127 := by
  have h := o.p0
  have h1 := o.p1
  unfold bankB
  have := Int.emod_nonneg (bankN b x) (b := b.prg) (by omega)
  have := Int.emod_lt_of_pos (bankN b x) (b := b.prg) (by omega)
  omega
theorem chrB_lt {b : Bd} (o : b.Ok) (x : Int) : 0 ≤ chrB b x ∧ chrB b x ≤ 511 := by
  have h := o.c0
  have h1 := o.c1
  unfold chrB
  have := Int.emod_nonneg (chrN b x) (b := b.chr) (by omega)
  have := Int.emod_lt_of_pos (chrN b x) (b := b.chr) (by omega)
  omega
set_option maxRecDepth 100000 in
set_option maxHeartbeats 1000000 in
theorem prgAt_none (w : World) (b : Bd) (a : Int) (hr : b.r.length = 8) (hv : validB b = false) :
    Calls Try.prog 47 #[.agg b.cells, .int .u16 a] w fun e w' => e = .returned (.int .i64 (-1)) ∧ Below w.heap.size w w' := by
  have OA := fun W => open_any W b hr
  have C := isB b hr
  generalize b.cells = cs at C OA
  have hsz := C.size
  have HS : Hid _ := hsz
  have HO : Hid _ := OA
  have HV : Hid _ := hv
  clear OA hv
  have q0 : ∀ (w : World), (binOp .eql 70 .nilIface .nilIface).run Try.prog w = .ok (.bool true) w := fun w => by
    have := run_equal_nil_nil (P := Try.prog) w 70 (by kernel_rfl)
    simp only [binOp, Sem.run_bind, this, Result.andThen_ok, Sem.run_pure]
  go_enter Try.func47, Try.ntmps47
  go_upto_region 1 with fail
  have b0 : Blk (w.alloc (.cells cs 28)) w.heap.size cs 28 := Blk.new w cs _
  have hb0 : Below w.heap.size w (w.alloc (.cells cs 28)) := (Below.refl _ _).alloc (Nat.le_refl _) _
  generalize w.alloc (.cells cs 28) = W0 at *
  clear C hsz
  go_wp2_with (refine wpList_load_mid rfl 28 _ rfl w.heap.size 0 rfl cs.toList _ b0.range Try.underlying28 rfl (by rw [Array.length_toList, HS.out]; exact Try.infoBoard) ?_)
  refine (HO.out W0).mono ?_
  rintro e W1 ⟨hb1', h⟩
  have hb1 : Below w.heap.size w W1 := hb0.trans (hb1'.mono hb0.size)
  clear hb1' hb0 b0
  rcases h with ⟨E, rfl⟩ | ⟨E, T, m, rfl⟩
  · clear E
    go_wp2
    go_ret
    exact ⟨rfl, hb1⟩
  · exact absurd (HV.out.symm.trans E) (by decide)
set_option maxRecDepth 100000 in
set_option maxHeartbeats 1000000 in
theorem prgAt_out (w : World) (b : Bd) (a : Int) (ha : a < 32768) (o : b.Ok) :
    Calls Try.prog 47 #[.agg b.cells, .int .u16 a] w fun e w' => e = .returned (.int .i64 (-1)) ∧ Below w.heap.size w w' := by
  obtain ⟨T, t, kc, fB, fC, fM, fW, fR, kn⟩ := kinds o
  have hr := o.wf.rlen
  have OA := fun W => kn.opn b o rfl W
  have C := isB b hr
  generalize b.cells = cs at C OA
  have hsz := C.size
  have HS : Hid _ := hsz
  have HO : Hid _ := OA
  clear OA kn o
  have q1 : ∀ (w : World) (T : TypeId) (x : Value), (binOp .eql 70 (.iface T x) .nilIface).run Try.prog w = .ok (.bool false) w := fun w T x => by
    have := run_equal_held_nil (P := Try.prog) w 70 T x (by kernel_rfl)
    simp only [binOp, Sem.run_bind, this, Result.andThen_ok, Sem.run_pure]
  have x0 : decide (a < 32768) = true := decide_eq_true ha
  clear ha
  go_enter Try.func47, Try.ntmps47
  go_upto_region 1 with fail
  have b0 : Blk (w.alloc (.cells cs 28)) w.heap.size cs 28 := Blk.new w cs _
  have hb0 : Below w.heap.size w (w.alloc (.cells cs 28)) := (Below.refl _ _).alloc (Nat.le_refl _) _
  generalize w.alloc (.cells cs 28) = W0 at *
  clear C hsz
  go_wp2_with (refine wpList_load_mid rfl 28 _ rfl w.heap.size 0 rfl cs.toList _ b0.range Try.underlying28 rfl (by rw [Array.length_toList, HS.out]; exact Try.infoBoard) ?_)
  refine (HO.out W0).mono ?_
  rintro e W1 ⟨m, rfl, hm, hb1', K⟩
  have hb1 : Below w.heap.size w W1 := hb0.trans (hb1'.mono hb0.size)
  clear hb1' hb0 b0 K hm HO
  go_wp2
  go_ret
  exact ⟨rfl, hb1⟩
set_option maxRecDepth 100000 in
set_option maxHeartbeats 1000000 in
theorem prgAt_in (w : World) (b : Bd) (a : Int) (h0 : 32768 ≤ a) (h1 : a ≤ 65535) (o : b.Ok) :
    Calls Try.prog 47 #[.agg b.cells, .int .u16 a] w fun e w' => e = .returned (.int .i64 (bankB b ((a - 32768) / 8192) * 8192 + (a - 32768) % 8192)) ∧ Below w.heap.size w w' := by
  obtain ⟨T, t, kc, fB, fC, fM, fW, fR, kn⟩ := kinds o
  have hr := o.wf.rlen
  have OA := fun W => kn.opn b o rfl W
  have C := isB b hr
  generalize b.cells = cs at C OA
  have hsz := C.size
  have HS : Hid _ := hsz
  have HO : Hid _ := OA
  have KN : Hid _ := kn
  have OK : Hid _ := o
  clear OA kn o
  have q1 : ∀ (w : World) (T : TypeId) (x : Value), (binOp .eql 70 (.iface T x) .nilIface).run Try.prog w = .ok (.bool false) w := fun w T x => by
    have := run_equal_held_nil (P := Try.prog) w 70 T x (by kernel_rfl)
    simp only [binOp, Sem.run_bind, this, Result.andThen_ok, Sem.run_pure]
  have x0 : decide (a < 32768) = false := decide_eq_false (by omega)
  have e1 : (a - 32768).tdiv 8192 = (a - 32768) / 8192 := Int.tdiv_eq_ediv_of_nonneg (by omega)
  have e2 : (a - 32768).tmod 8192 = (a - 32768) % 8192 := Int.tmod_eq_emod_of_nonneg (by omega)
  have i0 : 0 ≤ (a - 32768) / 8192 := by omega
  have i1 : (a - 32768) / 8192 ≤ 3 := by omega
  have j0 : 0 ≤ (a - 32768) % 8192 := by omega
  have j1 : (a - 32768) % 8192 < 8192 := by omega
  have B01 := bankB_lt OK.out ((a - 32768) / 8192)
  obtain ⟨y0, y1⟩ := B01
  generalize (a - 32768) / 8192 = ix at *
  generalize (a - 32768) % 8192 = jx at *
  generalize hz : bankB b ix = z at *
  have HZ : Hid _ := hz
  clear hz
  go_enter Try.func47, Try.ntmps47
  go_upto_region 1 with fail
  have b0 : Blk (w.alloc (.cells cs 28)) w.heap.size cs 28 := Blk.new w cs _
  have hb0 : Below w.heap.size w (w.alloc (.cells cs 28)) := (Below.refl _ _).alloc (Nat.le_refl _) _
  generalize w.alloc (.cells cs 28) = W0 at *
  clear C hsz
  go_wp2_with (refine wpList_load_mid rfl 28 _ rfl w.heap.size 0 rfl cs.toList _ b0.range Try.underlying28 rfl (by rw [Array.length_toList, HS.out]; exact Try.infoBoard) ?_)
  refine (HO.out W0).mono ?_
  rintro e W1 ⟨m, rfl, hm, hb1', K⟩
  have hb1 : Below w.heap.size w W1 := hb0.trans (hb1'.mono hb0.size)
  have hM := fun w => KN.out.mB m w
  have hE := fun w => KN.out.eB #[.pointer (some ⟨m, 0, none⟩), .int .i64 ix] w
  have CT : Hid _ := (HZ.out ▸ KN.out.bnk b OK.out rfl W1 m ix i0 i1 K)
  clear hb1' hb0 b0 K hm HO KN OK
  go_wp2_with fail
  refine Calls.mono CT.out ?_
  rintro e W2 ⟨rfl, hb2'⟩
  have hb2 : Below w.heap.size w W2 := hb1.trans (hb2'.mono hb1.size)
  clear hb2' hb1 CT hM hE
  go_wp2
  go_ret
  exact ⟨rfl, hb2⟩
def prgAtA (b : Bd) (a : Int) : Int := if validB b = true ∧ 32768 ≤ a then bankB b ((a - 32768) / 8192) * 8192 + (a - 32768) % 8192 else -1
theorem prgAt_all (w : World) (b : Bd) (a : Int) (B : b.Wf) (a0 : 0 ≤ a) (a1 : a ≤ 65535) :
    Calls Try.prog 47 #[.agg b.cells, .int .u16 a] w fun e w' => e = .returned (.int .i64 (prgAtA b a)) ∧ Below w.heap.size w w' := by
  unfold prgAtA
  cases hv : validB b
  · rw [if_neg (by simp)]
    exact prgAt_none w b a B.rlen hv
  have o := Bd.ok B hv
  by_cases h0 : a < 32768
  · rw [if_neg (by omega)]
    exact prgAt_out w b a h0 o
  rw [if_pos ⟨rfl, by omega⟩]
  exact prgAt_in w b a (by omega) a1 o
set_option maxRecDepth 100000 in
set_option maxHeartbeats 1000000 in
theorem chrAt_none (w : World) (b : Bd) (a : Int) (hr : b.r.length = 8) (hv : validB b = false) :
    Calls Try.prog 49 #[.agg b.cells, .int .u16 a] w fun e w' => e = .returned (.int .i64 (-1)) ∧ Below w.heap.size w w' := by
  have OA := fun W => open_any W b hr
  have C := isB b hr
  generalize b.cells = cs at C OA
  have hsz := C.size
  have HS : Hid _ := hsz
  have HO : Hid _ := OA
  have HV : Hid _ := hv
  clear OA hv
  have q0 : ∀ (w : World), (binOp .eql 70 .nilIface .nilIface).run Try.prog w = .ok (.bool true) w := fun w => by
    have := run_equal_nil_nil (P := Try.prog) w 70 (by kernel_rfl)
    simp only [binOp, Sem.run_bind, this, Result.andThen_ok, Sem.run_pure]
  go_enter Try.func49, Try.ntmps49
  go_upto_region 1 with fail
  have b0 : Blk (w.alloc (.cells cs 28)) w.heap.size cs 28 := Blk.new w cs _
  have hb0 : Below w.heap.size w (w.alloc (.cells cs 28)) := (Below.refl _ _).alloc (Nat.le_refl _) _
  generalize w.alloc (.cells cs 28) = W0 at *
  clear C hsz
  go_wp2_with (refine wpList_load_mid rfl 28 _ rfl w.heap.size 0 rfl cs.toList _ b0.range Try.underlying28 rfl (by rw [Array.length_toList, HS.out]; exact Try.infoBoard) ?_)
  refine (HO.out W0).mono ?_
  rintro e W1 ⟨hb1', h⟩
  have hb1 : Below w.heap.size w W1 := hb0.trans (hb1'.mono hb0.size)
  clear hb1' hb0 b0
  rcases h with ⟨E, rfl⟩ | ⟨E, T, m, rfl⟩
  · clear E
    go_wp2
    go_ret
    exact ⟨rfl, hb1⟩
  · exact absurd (HV.out.symm.trans E) (by decide)
set_option maxRecDepth 100000 in
set_option maxHeartbeats 1000000 in
theorem chrAt_out (w : World) (b : Bd) (a : Int) (ha : 8192 ≤ a) (o : b.Ok) :
    Calls Try.prog 49 #[.agg b.cells, .int .u16 a] w fun e w' => e = .returned (.int .i64 (-1)) ∧ Below w.heap.size w w' := by
  obtain ⟨T, t, kc, fB, fC, fM, fW, fR, kn⟩ := kinds o
  have hr := o.wf.rlen
  have OA := fun W => kn.opn b o rfl W
  have C := isB b hr
  generalize b.cells = cs at C OA
  have hsz := C.size
  have HS : Hid _ := hsz
  have HO : Hid _ := OA
  clear OA kn o
  have q1 : ∀ (w : World) (T : TypeId) (x : Value), (binOp .eql 70 (.iface T x) .nilIface).run Try.prog w = .ok (.bool false) w := fun w T x => by
    have := run_equal_held_nil (P := Try.prog) w 70 T x (by kernel_rfl)
    simp only [binOp, Sem.run_bind, this, Result.andThen_ok, Sem.run_pure]
  have x0 : decide (8192 ≤ a) = true := decide_eq_true ha
  clear ha
  go_enter Try.func49, Try.ntmps49
  go_upto_region 1 with fail
  have b0 : Blk (w.alloc (.cells cs 28)) w.heap.size cs 28 := Blk.new w cs _
  have hb0 : Below w.heap.size w (w.alloc (.cells cs 28)) := (Below.refl _ _).alloc (Nat.le_refl _) _
  generalize w.alloc (.cells cs 28) = W0 at *
  clear C hsz
  go_wp2_with (refine wpList_load_mid rfl 28 _ rfl w.heap.size 0 rfl cs.toList _ b0.range Try.underlying28 rfl (by rw [Array.length_toList, HS.out]; exact Try.infoBoard) ?_)
  refine (HO.out W0).mono ?_
  rintro e W1 ⟨m, rfl, hm, hb1', K⟩
  have hb1 : Below w.heap.size w W1 := hb0.trans (hb1'.mono hb0.size)
  clear hb1' hb0 b0 K hm HO
  go_wp2
  go_ret
  exact ⟨rfl, hb1⟩
set_option maxRecDepth 100000 in
set_option maxHeartbeats 1000000 in
theorem chrAt_in (w : World) (b : Bd) (a : Int) (h0 : 0 ≤ a) (h1 : a < 8192) (o : b.Ok) :
    Calls Try.prog 49 #[.agg b.cells, .int .u16 a] w fun e w' => e = .returned (.int .i64 (chrB b (a / 1024) * 1024 + a % 1024)) ∧ Below w.heap.size w w' := by
  obtain ⟨T, t, kc, fB, fC, fM, fW, fR, kn⟩ := kinds o
  have hr := o.wf.rlen
  have OA := fun W => kn.opn b o rfl W
  have C := isB b hr
  generalize b.cells = cs at C OA
  have hsz := C.size
  have HS : Hid _ := hsz
  have HO : Hid _ := OA
  have KN : Hid _ := kn
  have OK : Hid _ := o
  clear OA kn o
  have q1 : ∀ (w : World) (T : TypeId) (x : Value), (binOp .eql 70 (.iface T x) .nilIface).run Try.prog w = .ok (.bool false) w := fun w T x => by
    have := run_equal_held_nil (P := Try.prog) w 70 T x (by kernel_rfl)
    simp only [binOp, Sem.run_bind, this, Result.andThen_ok, Sem.run_pure]
  have x0 : decide (8192 ≤ a) = false := decide_eq_false (by omega)
  have e1 : a.tdiv 1024 = a / 1024 := Int.tdiv_eq_ediv_of_nonneg (by omega)
  have e2 : a.tmod 1024 = a % 1024 := Int.tmod_eq_emod_of_nonneg (by omega)
  have i0 : 0 ≤ a / 1024 := by omega
  have i1 : a / 1024 ≤ 7 := by omega
  have j0 : 0 ≤ a % 1024 := by omega
  have j1 : a % 1024 < 1024 := by omega
  have B01 := chrB_lt OK.out (a / 1024)
  obtain ⟨y0, y1⟩ := B01
  generalize a / 1024 = ix at *
  generalize a % 1024 = jx at *
  generalize hz : chrB b ix = z at *
  have HZ : Hid _ := hz
  clear hz
  go_enter Try.func49, Try.ntmps49
  go_upto_region 1 with fail
  have b0 : Blk (w.alloc (.cells cs 28)) w.heap.size cs 28 := Blk.new w cs _
  have hb0 : Below w.heap.size w (w.alloc (.cells cs 28)) := (Below.refl _ _).alloc (Nat.le_refl _) _
  generalize w.alloc (.cells cs 28) = W0 at *
  clear C hsz
  go_wp2_with (refine wpList_load_mid rfl 28 _ rfl w.heap.size 0 rfl cs.toList _ b0.range Try.underlying28 rfl (by rw [Array.length_toList, HS.out]; exact Try.infoBoard) ?_)
  refine (HO.out W0).mono ?_
  rintro e W1 ⟨m, rfl, hm, hb1', K⟩
  have hb1 : Below w.heap.size w W1 := hb0.trans (hb1'.mono hb0.size)
  have hM := fun w => KN.out.mC m w
  have hE := fun w => KN.out.eC #[.pointer (some ⟨m, 0, none⟩), .int .i64 ix] w
  have CT : Hid _ := (HZ.out ▸ KN.out.chr b OK.out rfl W1 m ix i0 i1 K)
  clear hb1' hb0 b0 K hm HO KN OK
  go_wp2_with fail
  refine Calls.mono CT.out ?_
  rintro e W2 ⟨rfl, hb2'⟩
  have hb2 : Below w.heap.size w W2 := hb1.trans (hb2'.mono hb1.size)
  clear hb2' hb1 CT hM hE
  go_wp2
  go_ret
  exact ⟨rfl, hb2⟩
def chrAtA (b : Bd) (a : Int) : Int := if validB b = true ∧ a < 8192 then chrB b (a / 1024) * 1024 + a % 1024 else -1
theorem chrAt_all (w : World) (b : Bd) (a : Int) (B : b.Wf) (a0 : 0 ≤ a) (a1 : a ≤ 65535) :
    Calls Try.prog 49 #[.agg b.cells, .int .u16 a] w fun e w' => e = .returned (.int .i64 (chrAtA b a)) ∧ Below w.heap.size w w' := by
  unfold chrAtA
  cases hv : validB b
  · rw [if_neg (by simp)]
    exact chrAt_none w b a B.rlen hv
  have o := Bd.ok B hv
  by_cases h0 : 8192 ≤ a
  · rw [if_neg (by omega)]
    exact chrAt_out w b a h0 o
  rw [if_pos ⟨rfl, by omega⟩]
  exact chrAt_in w b a (by omega) (by omega) o
end Go.Proofs.Ytggphgmpdanliaa
