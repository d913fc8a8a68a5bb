/-
  The law MapperValids returns true; conditions: the numbers of the board fit their kinds.
-/
import Derived.Test.YtpdpfobhbafmcaaMValidR
namespace Go.Proofs.Ytpdpfobhbafmcaa
open Go.RowKit Classical
set_option maxRecDepth 100000 in
theorem valids_law (w : World) (b : Bd) (B : b.Wf) :
    Calls Try.prog 4 #[.agg b.cells] w fun e w' => e = .returned (.bool true) ∧ Below w.heap.size w w' := by
  have hr := B.rlen
  have C := isB b hr
  have VA := fun W => valid_any W b hr
  have RA := fun W => refValid_any W b B
  generalize b.cells = cs at C VA RA
  have hsz := C.size
  have HS : Hid _ := hsz
  have HV : Hid _ := VA
  have HR : Hid _ := RA
  clear VA RA B
  go_enter Try.func4, Try.ntmps4
  go_upto_region 1 with fail
  have b0 : Blk (w.alloc (.cells cs 27)) w.heap.size cs 27 := Blk.new w cs _
  have hb0 : Below w.heap.size w (w.alloc (.cells cs 27)) := (Below.refl _ _).alloc (Nat.le_refl _) _
  generalize w.alloc (.cells cs 27) = W0 at *
  clear C hsz
  have eqv : (validB b == validB b) = true := by simp
  refine wp_region_held (S := fun v => Blk v w.heap.size cs 27 ∧ Below w.heap.size w v) (by kernel_rfl) ?_
  have s0 : Blk W0.drew w.heap.size cs 27 ∧ Below w.heap.size w W0.drew := ⟨b0.drew, hb0.drew⟩
  refine takeH (i := 0) (v := .agg cs.toList.toArray) ⟨#[.agg cs, .pointer (some ⟨w.heap.size, 0, none⟩), .bool false, .agg cs, undef, undef, undef, undef], []⟩ rfl (by kernel_rfl) (by kernel_rfl) (by kernel_rfl) (fun _ _ _ h => h) (yieldsIf_load_mid (by kernel_rfl) 27 (.tmp 1) rfl w.heap.size 0 (by kernel_rfl) cs.toList _ (fun v hv => Blk.range hv.1) Try.underlying27 rfl (by rw [Array.length_toList, HS.out]; exact Try.infoBoard)) s0 (by kernel_rfl) ?_
  refine takeH (i := 2) (v := .agg cs.toList.toArray) ⟨#[.agg cs, .pointer (some ⟨w.heap.size, 0, none⟩), .bool false, .agg cs, undef, .agg cs, undef, undef], []⟩ rfl (by kernel_rfl) (by kernel_rfl) (by kernel_rfl) (fun _ _ _ h => h) (yieldsIf_load_mid (by kernel_rfl) 27 (.tmp 1) rfl w.heap.size 0 (by kernel_rfl) cs.toList _ (fun v hv => Blk.range hv.1) Try.underlying27 rfl (by rw [Array.length_toList, HS.out]; exact Try.infoBoard)) s0 (by kernel_rfl) ?_
  have step : ∀ {v v' : World}, (Blk v w.heap.size cs 27 ∧ Below w.heap.size w v) → Below v.heap.size v v' → (Blk v' w.heap.size cs 27 ∧ Below w.heap.size w v') := fun h hb => ⟨h.1.below h.1.lt hb, h.2.trans (hb.mono (Nat.le_of_lt h.1.lt))⟩
  refine wpAnyH_all (rs := [1]) (by kernel_rfl) (by simp) ?_
  intro i hi
  obtain rfl : i = 1 := by simpa using hi
  refine wpOp_contract (f := 9) rfl (by kernel_rfl) (by kernel_rfl) (HV.out W0.drew) ⟨#[.agg cs, .pointer (some ⟨w.heap.size, 0, none⟩), .bool false, .agg cs, .bool (validB b), .agg cs, undef, undef], []⟩ (by kernel_rfl) ?_
  intro W1 hb1
  have s1 := step s0 hb1
  refine ⟨s1, ?_⟩
  refine wpAnyH_all (rs := [3]) (by kernel_rfl) (by simp) ?_
  intro i hi
  obtain rfl : i = 3 := by simpa using hi
  refine wpOp_contract (f := 10) rfl (by kernel_rfl) (by kernel_rfl) (HR.out W1) ⟨#[.agg cs, .pointer (some ⟨w.heap.size, 0, none⟩), .bool false, .agg cs, .bool (validB b), .agg cs, .bool (validB b), undef], []⟩ (by kernel_rfl) ?_
  intro W2 hb2
  have s2 := step s1 hb2
  refine ⟨s2, ?_⟩
  refine takeH (i := 4) (v := .bool (validB b == validB b)) ⟨#[.agg cs, .pointer (some ⟨w.heap.size, 0, none⟩), .bool false, .agg cs, .bool (validB b), .agg cs, .bool (validB b), .bool (validB b == validB b)], []⟩ rfl (by kernel_rfl) (by kernel_rfl) (by kernel_rfl) (fun _ _ _ h => h) (.inl ⟨by kernel_rfl, fun _ _ => by kernel_rfl⟩) s2 (by kernel_rfl) ?_
  refine takeH (i := 5) (v := .bool (validB b == validB b)) ⟨#[.agg cs, .pointer (some ⟨w.heap.size, 0, none⟩), .bool (validB b == validB b), .agg cs, .bool (validB b), .agg cs, .bool (validB b), .bool (validB b == validB b)], []⟩ rfl (by kernel_rfl) (by kernel_rfl) (by kernel_rfl) (fun _ _ _ h => h) (.inl ⟨by kernel_rfl, fun _ _ => by kernel_rfl⟩) s2 (by kernel_rfl) ?_
  refine wpAnyH_done (by kernel_rfl) ?_ _
  have EV : Hid _ := eqv
  clear eqv
  go_wp2
  go_ret
  exact ⟨congrArg (fun x => Ending.returned (.bool x)) EV.out, s2.2⟩
end Go.Proofs.Ytpdpfobhbafmcaa
