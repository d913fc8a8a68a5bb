/-
  What ToIrq answers of a valid board, kind by kind; conditions: the numbers fit their kinds.
-/
import Derived.Test.YtpdpfobhbafmcaaMClk4
import Derived.Test.YtpdpfobhbafmcaaMValid
namespace Go.Proofs.Ytpdpfobhbafmcaa
open Go.RowKit Classical
theorem sh_of4 {w : World} {m : Nat} {b : Bd} (K : Blk w m (k4c b) 69) : Sh w m b := ⟨(K.cell 0).trans rfl, (K.cell 1).trans rfl, (K.cell 2).trans rfl, (K.cell 3).trans rfl, (K.cell 4).trans rfl, (K.cell 5).trans rfl, (K.cell 6).trans rfl⟩

set_option maxRecDepth 100000 in
theorem toIrqM_0 (w : World) (b : Bd) (B : b.Wf) (hk : b.kind = 0) (hl : lst b.kind b.sub = true) (hv : val0 b = true) :
    Calls Try.prog 13 #[.agg b.cells] w fun e w' => e = .returned (.int .i64 (-1)) ∧ Below w.heap.size w w' := by
  have hr := B.rlen
  have C := isB b hr
  have OA := fun W => open_0 W b hr hk hl
  generalize b.cells = cs at C OA
  have hsz := C.size
  have HS : Hid _ := hsz
  have HO : Hid _ := OA
  have HV : Hid _ := hv
  have HB : Hid _ := B
  have HR : Hid _ := hr
  clear OA hv B hk hl hr
  have q1 : ∀ (w : World) (T : TypeId) (x : Value), (binOp .eql 44 (.iface T x) .nilIface).run Try.prog w = .ok (.bool false) w := fun w T x => by
    have := run_equal_held_nil (P := Try.prog) w 44 T x (by kernel_rfl)
    simp only [binOp, Sem.run_bind, this, Result.andThen_ok, Sem.run_pure]
  go_enter Try.func13, Try.ntmps13
  go_upto_region 1 with fail
  have b0 : Blk (w.alloc (.cells cs 27)) w.heap.size cs 27 := Blk.new w cs _
  have hb0 : Below w.heap.size w (w.alloc (.cells cs 27)) := (Below.refl _ _).alloc (Nat.le_refl _) _
  generalize w.alloc (.cells cs 27) = W0 at *
  clear C hsz
  go_wp2_with (refine wpList_load_mid rfl 27 _ rfl w.heap.size 0 rfl cs.toList _ b0.range Try.underlying27 rfl (by rw [Array.length_toList, HS.out]; exact Try.infoBoard) ?_)
  refine (HO.out W0).mono ?_
  rintro e W1 ⟨hb1', -, h⟩
  obtain ⟨m, rfl, hm, K⟩ := h HV.out
  have hb1 : Below w.heap.size w W1 := hb0.trans (hb1'.mono hb0.size)
  have hM : ∀ w : World, (method 44 72 (.pointer (some ⟨m, 0, none⟩)) "tandem/mapper.toIrq").run Try.prog w = .ok (51, .pointer (some ⟨m, 0, none⟩)) w := fun _ => by kernel_rfl
  have KH : Hid (Blk W1 m (k0c b) 74) := K
  clear hb1' hb0 b0 h hm K HO
  go_wp2_with fail
  refine (toIrq0_any W1 m).mono ?_
  rintro e W2 ⟨rfl, rfl⟩
  go_wp2
  go_ret
  exact ⟨rfl, hb1⟩

set_option maxRecDepth 100000 in
theorem toIrqM_1 (w : World) (b : Bd) (B : b.Wf) (hk : b.kind = 1) (hl : lst b.kind b.sub = true) (hv : val1 b = true) :
    Calls Try.prog 13 #[.agg b.cells] w fun e w' => e = .returned (.int .i64 (-1)) ∧ Below w.heap.size w w' := by
  have hr := B.rlen
  have C := isB b hr
  have OA := fun W => open_1 W b hr hk hl
  generalize b.cells = cs at C OA
  have hsz := C.size
  have HS : Hid _ := hsz
  have HO : Hid _ := OA
  have HV : Hid _ := hv
  have HB : Hid _ := B
  have HR : Hid _ := hr
  clear OA hv B hk hl hr
  have q1 : ∀ (w : World) (T : TypeId) (x : Value), (binOp .eql 44 (.iface T x) .nilIface).run Try.prog w = .ok (.bool false) w := fun w T x => by
    have := run_equal_held_nil (P := Try.prog) w 44 T x (by kernel_rfl)
    simp only [binOp, Sem.run_bind, this, Result.andThen_ok, Sem.run_pure]
  go_enter Try.func13, Try.ntmps13
  go_upto_region 1 with fail
  have b0 : Blk (w.alloc (.cells cs 27)) w.heap.size cs 27 := Blk.new w cs _
  have hb0 : Below w.heap.size w (w.alloc (.cells cs 27)) := (Below.refl _ _).alloc (Nat.le_refl _) _
  generalize w.alloc (.cells cs 27) = W0 at *
  clear C hsz
  go_wp2_with (refine wpList_load_mid rfl 27 _ rfl w.heap.size 0 rfl cs.toList _ b0.range Try.underlying27 rfl (by rw [Array.length_toList, HS.out]; exact Try.infoBoard) ?_)
  refine (HO.out W0).mono ?_
  rintro e W1 ⟨hb1', -, h⟩
  obtain ⟨m, rfl, hm, K⟩ := h HV.out
  have hb1 : Below w.heap.size w W1 := hb0.trans (hb1'.mono hb0.size)
  have hM : ∀ w : World, (method 44 55 (.pointer (some ⟨m, 0, none⟩)) "tandem/mapper.toIrq").run Try.prog w = .ok (51, .pointer (some ⟨m, 0, none⟩)) w := fun _ => by kernel_rfl
  have KH : Hid (Blk W1 m (k1c b) 57) := K
  clear hb1' hb0 b0 h hm K HO
  go_wp2_with fail
  refine (toIrq0_any W1 m).mono ?_
  rintro e W2 ⟨rfl, rfl⟩
  go_wp2
  go_ret
  exact ⟨rfl, hb1⟩

set_option maxRecDepth 100000 in
theorem toIrqM_2 (w : World) (b : Bd) (B : b.Wf) (hk : b.kind = 2) (hl : lst b.kind b.sub = true) (hv : val2 b = true) :
    Calls Try.prog 13 #[.agg b.cells] w fun e w' => e = .returned (.int .i64 (-1)) ∧ Below w.heap.size w w' := by
  have hr := B.rlen
  have C := isB b hr
  have OA := fun W => open_2 W b hr hk hl
  generalize b.cells = cs at C OA
  have hsz := C.size
  have HS : Hid _ := hsz
  have HO : Hid _ := OA
  have HV : Hid _ := hv
  have HB : Hid _ := B
  have HR : Hid _ := hr
  clear OA hv B hk hl hr
  have q1 : ∀ (w : World) (T : TypeId) (x : Value), (binOp .eql 44 (.iface T x) .nilIface).run Try.prog w = .ok (.bool false) w := fun w T x => by
    have := run_equal_held_nil (P := Try.prog) w 44 T x (by kernel_rfl)
    simp only [binOp, Sem.run_bind, this, Result.andThen_ok, Sem.run_pure]
  go_enter Try.func13, Try.ntmps13
  go_upto_region 1 with fail
  have b0 : Blk (w.alloc (.cells cs 27)) w.heap.size cs 27 := Blk.new w cs _
  have hb0 : Below w.heap.size w (w.alloc (.cells cs 27)) := (Below.refl _ _).alloc (Nat.le_refl _) _
  generalize w.alloc (.cells cs 27) = W0 at *
  clear C hsz
  go_wp2_with (refine wpList_load_mid rfl 27 _ rfl w.heap.size 0 rfl cs.toList _ b0.range Try.underlying27 rfl (by rw [Array.length_toList, HS.out]; exact Try.infoBoard) ?_)
  refine (HO.out W0).mono ?_
  rintro e W1 ⟨hb1', -, h⟩
  obtain ⟨m, rfl, hm, K⟩ := h HV.out
  have hb1 : Below w.heap.size w W1 := hb0.trans (hb1'.mono hb0.size)
  have hM : ∀ w : World, (method 44 58 (.pointer (some ⟨m, 0, none⟩)) "tandem/mapper.toIrq").run Try.prog w = .ok (51, .pointer (some ⟨m, 0, none⟩)) w := fun _ => by kernel_rfl
  have KH : Hid (Blk W1 m (kLc b) 62) := K
  clear hb1' hb0 b0 h hm K HO
  go_wp2_with fail
  refine (toIrq0_any W1 m).mono ?_
  rintro e W2 ⟨rfl, rfl⟩
  go_wp2
  go_ret
  exact ⟨rfl, hb1⟩

set_option maxRecDepth 100000 in
theorem toIrqM_3 (w : World) (b : Bd) (B : b.Wf) (hk : b.kind = 3) (hl : lst b.kind b.sub = true) (hv : val3 b = true) :
    Calls Try.prog 13 #[.agg b.cells] w fun e w' => e = .returned (.int .i64 (-1)) ∧ Below w.heap.size w w' := by
  have hr := B.rlen
  have C := isB b hr
  have OA := fun W => open_3 W b hr hk hl
  generalize b.cells = cs at C OA
  have hsz := C.size
  have HS : Hid _ := hsz
  have HO : Hid _ := OA
  have HV : Hid _ := hv
  have HB : Hid _ := B
  have HR : Hid _ := hr
  clear OA hv B hk hl hr
  have q1 : ∀ (w : World) (T : TypeId) (x : Value), (binOp .eql 44 (.iface T x) .nilIface).run Try.prog w = .ok (.bool false) w := fun w T x => by
    have := run_equal_held_nil (P := Try.prog) w 44 T x (by kernel_rfl)
    simp only [binOp, Sem.run_bind, this, Result.andThen_ok, Sem.run_pure]
  go_enter Try.func13, Try.ntmps13
  go_upto_region 1 with fail
  have b0 : Blk (w.alloc (.cells cs 27)) w.heap.size cs 27 := Blk.new w cs _
  have hb0 : Below w.heap.size w (w.alloc (.cells cs 27)) := (Below.refl _ _).alloc (Nat.le_refl _) _
  generalize w.alloc (.cells cs 27) = W0 at *
  clear C hsz
  go_wp2_with (refine wpList_load_mid rfl 27 _ rfl w.heap.size 0 rfl cs.toList _ b0.range Try.underlying27 rfl (by rw [Array.length_toList, HS.out]; exact Try.infoBoard) ?_)
  refine (HO.out W0).mono ?_
  rintro e W1 ⟨hb1', -, h⟩
  obtain ⟨m, rfl, hm, K⟩ := h HV.out
  have hb1 : Below w.heap.size w W1 := hb0.trans (hb1'.mono hb0.size)
  have hM : ∀ w : World, (method 44 63 (.pointer (some ⟨m, 0, none⟩)) "tandem/mapper.toIrq").run Try.prog w = .ok (51, .pointer (some ⟨m, 0, none⟩)) w := fun _ => by kernel_rfl
  have KH : Hid (Blk W1 m (kLc b) 64) := K
  clear hb1' hb0 b0 h hm K HO
  go_wp2_with fail
  refine (toIrq0_any W1 m).mono ?_
  rintro e W2 ⟨rfl, rfl⟩
  go_wp2
  go_ret
  exact ⟨rfl, hb1⟩

set_option maxRecDepth 100000 in
theorem toIrqM_7 (w : World) (b : Bd) (B : b.Wf) (hk : b.kind = 7) (hl : lst b.kind b.sub = true) (hv : val7 b = true) :
    Calls Try.prog 13 #[.agg b.cells] w fun e w' => e = .returned (.int .i64 (-1)) ∧ Below w.heap.size w w' := by
  have hr := B.rlen
  have C := isB b hr
  have OA := fun W => open_7 W b hr hk hl
  generalize b.cells = cs at C OA
  have hsz := C.size
  have HS : Hid _ := hsz
  have HO : Hid _ := OA
  have HV : Hid _ := hv
  have HB : Hid _ := B
  have HR : Hid _ := hr
  clear OA hv B hk hl hr
  have q1 : ∀ (w : World) (T : TypeId) (x : Value), (binOp .eql 44 (.iface T x) .nilIface).run Try.prog w = .ok (.bool false) w := fun w T x => by
    have := run_equal_held_nil (P := Try.prog) w 44 T x (by kernel_rfl)
    simp only [binOp, Sem.run_bind, this, Result.andThen_ok, Sem.run_pure]
  go_enter Try.func13, Try.ntmps13
  go_upto_region 1 with fail
  have b0 : Blk (w.alloc (.cells cs 27)) w.heap.size cs 27 := Blk.new w cs _
  have hb0 : Below w.heap.size w (w.alloc (.cells cs 27)) := (Below.refl _ _).alloc (Nat.le_refl _) _
  generalize w.alloc (.cells cs 27) = W0 at *
  clear C hsz
  go_wp2_with (refine wpList_load_mid rfl 27 _ rfl w.heap.size 0 rfl cs.toList _ b0.range Try.underlying27 rfl (by rw [Array.length_toList, HS.out]; exact Try.infoBoard) ?_)
  refine (HO.out W0).mono ?_
  rintro e W1 ⟨hb1', -, h⟩
  obtain ⟨m, rfl, hm, K⟩ := h HV.out
  have hb1 : Below w.heap.size w W1 := hb0.trans (hb1'.mono hb0.size)
  have hM : ∀ w : World, (method 44 70 (.pointer (some ⟨m, 0, none⟩)) "tandem/mapper.toIrq").run Try.prog w = .ok (51, .pointer (some ⟨m, 0, none⟩)) w := fun _ => by kernel_rfl
  have KH : Hid (Blk W1 m (kLc b) 71) := K
  clear hb1' hb0 b0 h hm K HO
  go_wp2_with fail
  refine (toIrq0_any W1 m).mono ?_
  rintro e W2 ⟨rfl, rfl⟩
  go_wp2
  go_ret
  exact ⟨rfl, hb1⟩

set_option maxRecDepth 100000 in
theorem toIrqM_4 (w : World) (b : Bd) (B : b.Wf) (hk : b.kind = 4) (hl : lst b.kind b.sub = true) (hv : val4 b = true) :
    Calls Try.prog 13 #[.agg b.cells] w fun e w' => e = .returned (.int .i64 (irqV b)) ∧ Below w.heap.size w w' := by
  have hr := B.rlen
  have C := isB b hr
  have OA := fun W => open_4 W b hr hk hl
  generalize b.cells = cs at C OA
  have hsz := C.size
  have HS : Hid _ := hsz
  have HO : Hid _ := OA
  have HV : Hid _ := hv
  have HB : Hid _ := B
  have HR : Hid _ := hr
  clear OA hv B hk hl hr
  have q1 : ∀ (w : World) (T : TypeId) (x : Value), (binOp .eql 44 (.iface T x) .nilIface).run Try.prog w = .ok (.bool false) w := fun w T x => by
    have := run_equal_held_nil (P := Try.prog) w 44 T x (by kernel_rfl)
    simp only [binOp, Sem.run_bind, this, Result.andThen_ok, Sem.run_pure]
  go_enter Try.func13, Try.ntmps13
  go_upto_region 1 with fail
  have b0 : Blk (w.alloc (.cells cs 27)) w.heap.size cs 27 := Blk.new w cs _
  have hb0 : Below w.heap.size w (w.alloc (.cells cs 27)) := (Below.refl _ _).alloc (Nat.le_refl _) _
  generalize w.alloc (.cells cs 27) = W0 at *
  clear C hsz
  go_wp2_with (refine wpList_load_mid rfl 27 _ rfl w.heap.size 0 rfl cs.toList _ b0.range Try.underlying27 rfl (by rw [Array.length_toList, HS.out]; exact Try.infoBoard) ?_)
  refine (HO.out W0).mono ?_
  rintro e W1 ⟨hb1', -, h⟩
  obtain ⟨m, rfl, hm, K⟩ := h HV.out
  have hb1 : Below w.heap.size w W1 := hb0.trans (hb1'.mono hb0.size)
  have hM : ∀ w : World, (method 44 65 (.pointer (some ⟨m, 0, none⟩)) "tandem/mapper.toIrq").run Try.prog w = .ok (69, .pointer (some ⟨m, 0, none⟩)) w := fun _ => by kernel_rfl
  have KH : Hid (Blk W1 m (k4c b) 69) := K
  clear hb1' hb0 b0 h hm K HO
  go_wp2_with fail
  refine (toIrq4_any W1 m b HB.out (sh_of4 KH.out) (m4_of HR.out KH.out)).mono ?_
  rintro e W2 ⟨rfl, nd, rfl⟩
  go_wp2
  go_ret
  exact ⟨rfl, below_drewN hb1 nd⟩
end Go.Proofs.Ytpdpfobhbafmcaa
