/-
  What Clock and ToIrq answer of a board that isn't valid, and Clock with n 0 or less; conditions: eight bank registers.
-/
import Derived.Test.YtpdpfobhbafmcaaMClock
namespace Go.Proofs.Ytpdpfobhbafmcaa
open Go.RowKit Classical
set_option maxRecDepth 100000 in
theorem toIrqNone (w : World) (b : Bd) (hr : b.r.length = 8) (hv : validB b = false) :
    Calls Try.prog 13 #[.agg b.cells] w fun e w' => e = .returned (.int .i64 (-1)) ∧ Below w.heap.size w w' := by
  have C := isB b hr
  have OA := fun W => open_any W b hr
  generalize b.cells = cs at C OA
  have hsz := C.size
  have HS : Hid _ := hsz
  have HO : Hid _ := OA
  have HV : Hid _ := hv
  clear OA hv
  have q0 : ∀ (w : World), (binOp .eql 44 .nilIface .nilIface).run Try.prog w = .ok (.bool true) w := fun w => by
    have := run_equal_nil_nil (P := Try.prog) w 44 (by kernel_rfl)
    simp only [binOp, Sem.run_bind, this, Result.andThen_ok, Sem.run_pure]
  go_enter Try.func13, Try.ntmps13
  go_upto_region 1 with fail
  have b0 : Blk (w.alloc (.cells cs 27)) w.heap.size cs 27 := Blk.new w cs _
  have hb0 : Below w.heap.size w (w.alloc (.cells cs 27)) := (Below.refl _ _).alloc (Nat.le_refl _) _
  generalize w.alloc (.cells cs 27) = W0 at *
  clear C hsz
  go_wp2_with (refine wpList_load_mid rfl 27 _ rfl w.heap.size 0 rfl cs.toList _ b0.range Try.underlying27 rfl (by rw [Array.length_toList, HS.out]; exact Try.infoBoard) ?_)
  refine (HO.out W0).mono ?_
  rintro e W1 ⟨hb1', h⟩
  have hb1 : Below w.heap.size w W1 := hb0.trans (hb1'.mono hb0.size)
  clear hb1' hb0 b0
  rcases h with ⟨-, rfl⟩ | ⟨E, -⟩
  · go_wp2
    go_ret
    exact ⟨rfl, hb1⟩
  · exact absurd (E.symm.trans HV.out) (by simp)
set_option maxRecDepth 100000 in
set_option maxHeartbeats 1000000 in
theorem clockSame (w : World) (b : Bd) (n : Int) (hr : b.r.length = 8) (hv : validB b = false ∨ n ≤ 0) :
    Calls Try.prog 11 #[.agg b.cells, .int .i64 n] w fun e w' => e = .returned (.agg b.cells) ∧ Below w.heap.size w w' := by
  have C := isB b hr
  have OA := fun W => open_any W b hr
  generalize b.cells = cs at C OA
  have hsz := C.size
  have HS : Hid _ := hsz
  have H1 : Hid _ := C.one
  have HO : Hid _ := OA
  have HV : Hid _ := hv
  clear OA hv
  have q0 : ∀ (w : World), (binOp .eql 44 .nilIface .nilIface).run Try.prog w = .ok (.bool true) w := fun w => by
    have := run_equal_nil_nil (P := Try.prog) w 44 (by kernel_rfl)
    simp only [binOp, Sem.run_bind, this, Result.andThen_ok, Sem.run_pure]
  have q1 : ∀ (w : World) (T : TypeId) (x : Value), (binOp .eql 44 (.iface T x) .nilIface).run Try.prog w = .ok (.bool false) w := fun w T x => by
    have := run_equal_held_nil (P := Try.prog) w 44 T x (by kernel_rfl)
    simp only [binOp, Sem.run_bind, this, Result.andThen_ok, Sem.run_pure]
  go_enter Try.func11, Try.ntmps11
  go_upto_region 1 with fail
  change Code.wp _ _ _ _ ((w.alloc (.cells cs 27)).alloc (.cells Z31 27))
  have b0 : Blk ((w.alloc (.cells cs 27)).alloc (.cells Z31 27)) w.heap.size cs 27 := (Blk.new w cs _).old _
  have z0 : Blk ((w.alloc (.cells cs 27)).alloc (.cells Z31 27)) (w.heap.size + 1) Z31 27 := by
    have := Blk.new (w.alloc (.cells cs 27)) Z31 27
    rwa [World.size_alloc] at this
  have hb0 : Below w.heap.size w ((w.alloc (.cells cs 27)).alloc (.cells Z31 27)) := ((Below.refl _ _).alloc (Nat.le_refl _) _).alloc (by simp) _
  generalize (w.alloc (.cells cs 27)).alloc (.cells Z31 27) = W0 at *
  clear C hsz
  go_wp2_with (refine wpList_load_mid rfl 27 _ rfl w.heap.size 0 rfl cs.toList _ b0.range Try.underlying27 rfl (by rw [Array.length_toList, HS.out]; exact Try.infoBoard) ?_)
  refine (HO.out W0).mono ?_
  rintro e W1 ⟨hb1', h⟩
  have hb1 : Below w.heap.size w W1 := hb0.trans (hb1'.mono hb0.size)
  have b1 := b0.below b0.lt hb1'
  have z1 := z0.below z0.lt hb1'
  clear hb1' hb0 b0 z0 HO
  rcases h with ⟨-, rfl⟩ | ⟨E, T, m, rfl⟩
  · clear HV
    go_wp2_with (first
      | refine wpList_load_mid rfl 27 _ rfl w.heap.size 0 rfl cs.toList _ b1.range Try.underlying27 rfl (by rw [Array.length_toList, HS.out]; exact Try.infoBoard) ?_
      | refine wpList_store_mid rfl 27 _ _ rfl (w.heap.size + 1) 0 cs rfl rfl (by exact z1.there _ HS.out.symm) (by rw [HS.out]; exact Try.infoBoard) H1.out ?_)
    exact ret_agg (m := w.heap.size + 1) (L := cs) Try.results11 (by rfl) (z1.setAll cs HS.out) Try.underlying27 rfl (by rw [HS.out]; exact Try.infoBoard) ⟨rfl, setCells_below (Nat.le_succ _) _ _ _ _ hb1⟩
  · have n0 : decide (n ≤ 0) = true := decide_eq_true (HV.out.resolve_left (by rw [E]; simp))
    clear HV E
    go_wp2_with (first
      | refine wpList_load_mid rfl 27 _ rfl w.heap.size 0 rfl cs.toList _ b1.range Try.underlying27 rfl (by rw [Array.length_toList, HS.out]; exact Try.infoBoard) ?_
      | refine wpList_store_mid rfl 27 _ _ rfl (w.heap.size + 1) 0 cs rfl rfl (by exact z1.there _ HS.out.symm) (by rw [HS.out]; exact Try.infoBoard) H1.out ?_)
    exact ret_agg (m := w.heap.size + 1) (L := cs) Try.results11 (by rfl) (z1.setAll cs HS.out) Try.underlying27 rfl (by rw [HS.out]; exact Try.infoBoard) ⟨rfl, setCells_below (Nat.le_succ _) _ _ _ _ hb1⟩
end Go.Proofs.Ytpdpfobhbafmcaa
