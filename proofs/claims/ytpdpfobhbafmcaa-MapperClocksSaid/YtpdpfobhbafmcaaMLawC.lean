/-
  The law MapperClocks returns true; conditions: the numbers fit their kinds.
-/
import Derived.Test.YtpdpfobhbafmcaaMBoth
namespace Go.Proofs.Ytpdpfobhbafmcaa
open Go.RowKit Classical
set_option maxRecDepth 100000 in
set_option maxHeartbeats 1000000 in
theorem clocks_law (w : World) (b : Bd) (n : Int) (B : b.Wf) (hn : n ≤ 9223372036854775807) :
    Calls Try.prog 5 #[.agg b.cells, .int .i64 n] w fun e w' => e = .returned (.bool true) ∧ Below w.heap.size w w' := by
  have C := isB b B.rlen
  obtain ⟨d, hd, K1, K2⟩ := clock_both b n B hn
  obtain ⟨v, I1, I2⟩ := toIrq_both b B
  generalize b.cells = cs at C K1 K2 I1 I2
  have hsz := C.size
  have HS : Hid _ := hsz
  have HK1 : Hid _ := K1
  have HK2 : Hid _ := K2
  have HI1 : Hid _ := I1
  have HI2 : Hid _ := I2
  clear K1 K2 I1 I2 B
  go_enter Try.func5, Try.ntmps5
  go_upto_region 1 with fail
  have b0 : Blk (w.alloc (.cells cs 27)) w.heap.size cs 27 := Blk.new w cs _
  have hb0 : Below w.heap.size w (w.alloc (.cells cs 27)) := (Below.refl _ _).alloc (Nat.le_refl _) _
  generalize w.alloc (.cells cs 27) = W0 at *
  clear C hsz
  refine wp_region_held (S := fun v => Blk v w.heap.size cs 27 ∧ Below w.heap.size w v) (by kernel_rfl) ?_
  have s0 : Blk W0.drew w.heap.size cs 27 ∧ Below w.heap.size w W0.drew := ⟨b0.drew, hb0.drew⟩
  have step : ∀ {v v' : World}, (Blk v w.heap.size cs 27 ∧ Below w.heap.size w v) → Below v.heap.size v v' → (Blk v' w.heap.size cs 27 ∧ Below w.heap.size w v') := fun h hb => ⟨h.1.below h.1.lt hb, h.2.trans (hb.mono (Nat.le_of_lt h.1.lt))⟩
  refine takeH (i := 0) (v := .agg cs.toList.toArray) ⟨#[.agg cs, .int .i64 n, .pointer (some ⟨w.heap.size, 0, none⟩), undef, .bool false, .agg cs, undef, undef, undef, undef, undef, undef, undef, undef, undef, undef, undef, undef, undef], []⟩ rfl (by kernel_rfl) (by kernel_rfl) (by kernel_rfl) (fun _ _ _ h => h) (yieldsIf_load_mid (by kernel_rfl) 27 (.tmp 2) rfl w.heap.size 0 (by kernel_rfl) cs.toList _ (fun v hv => Blk.range hv.1) Try.underlying27 rfl (by rw [Array.length_toList, HS.out]; exact Try.infoBoard)) s0 (by kernel_rfl) ?_
  refine takeH (i := 1) (v := .int .i64 n) ⟨#[.agg cs, .int .i64 n, .pointer (some ⟨w.heap.size, 0, none⟩), undef, .bool false, .agg cs, .int .i64 n, undef, undef, undef, undef, undef, undef, undef, undef, undef, undef, undef, undef], []⟩ rfl (by kernel_rfl) (by kernel_rfl) (by kernel_rfl) (fun _ _ _ h => h) (.inl ⟨by kernel_rfl, fun _ _ => by kernel_rfl⟩) s0 (by kernel_rfl) ?_
  refine takeH (i := 3) (v := .agg cs.toList.toArray) ⟨#[.agg cs, .int .i64 n, .pointer (some ⟨w.heap.size, 0, none⟩), undef, .bool false, .agg cs, .int .i64 n, undef, .agg cs, undef, undef, undef, undef, undef, undef, undef, undef, undef, undef], []⟩ rfl (by kernel_rfl) (by kernel_rfl) (by kernel_rfl) (fun _ _ _ h => h) (yieldsIf_load_mid (by kernel_rfl) 27 (.tmp 2) rfl w.heap.size 0 (by kernel_rfl) cs.toList _ (fun v hv => Blk.range hv.1) Try.underlying27 rfl (by rw [Array.length_toList, HS.out]; exact Try.infoBoard)) s0 (by kernel_rfl) ?_
  refine takeH (i := 4) (v := .int .i64 n) ⟨#[.agg cs, .int .i64 n, .pointer (some ⟨w.heap.size, 0, none⟩), undef, .bool false, .agg cs, .int .i64 n, undef, .agg cs, .int .i64 n, undef, undef, undef, undef, undef, undef, undef, undef, undef], []⟩ rfl (by kernel_rfl) (by kernel_rfl) (by kernel_rfl) (fun _ _ _ h => h) (.inl ⟨by kernel_rfl, fun _ _ => by kernel_rfl⟩) s0 (by kernel_rfl) ?_
  refine wpAnyH_all (rs := [2]) (by kernel_rfl) (by simp) ?_
  intro i hi
  obtain rfl : i = 2 := by simpa using hi
  refine wpOp_contract (f := 11) rfl (by kernel_rfl) (by kernel_rfl) (HK1.out W0.drew) ⟨#[.agg cs, .int .i64 n, .pointer (some ⟨w.heap.size, 0, none⟩), undef, .bool false, .agg cs, .int .i64 n, .agg d.cells, .agg cs, .int .i64 n, undef, undef, undef, undef, undef, undef, undef, undef, undef], []⟩ (by kernel_rfl) ?_
  intro W1 hb1
  have s1 := step s0 hb1
  refine ⟨s1, ?_⟩
  refine wpAnyH_all (rs := [5]) (by kernel_rfl) (by simp) ?_
  intro i hi
  obtain rfl : i = 5 := by simpa using hi
  refine wpOp_contract (f := 12) rfl (by kernel_rfl) (by kernel_rfl) (HK2.out W1) ⟨#[.agg cs, .int .i64 n, .pointer (some ⟨w.heap.size, 0, none⟩), undef, .bool false, .agg cs, .int .i64 n, .agg d.cells, .agg cs, .int .i64 n, .agg d.cells, undef, undef, undef, undef, undef, undef, undef, undef], []⟩ (by kernel_rfl) ?_
  intro W2 hb2
  have s2 := step s1 hb2
  refine ⟨s2, ?_⟩
  refine takeH (i := 6) (v := .bool true) ⟨#[.agg cs, .int .i64 n, .pointer (some ⟨w.heap.size, 0, none⟩), undef, .bool false, .agg cs, .int .i64 n, .agg d.cells, .agg cs, .int .i64 n, .agg d.cells, .bool true, undef, undef, undef, undef, undef, undef, undef], []⟩ rfl (by kernel_rfl) (by kernel_rfl) (by kernel_rfl) (fun _ _ _ h => h) (.inl ⟨by kernel_rfl, fun v _ => (Try.runEql v _ _ _ _ _ _ _ _ _ d d hd hd (by kernel_rfl) (by kernel_rfl)).trans (by rw [decide_eq_true rfl])⟩) s2 (by kernel_rfl) ?_
  refine takeH (i := 7) (v := .bool true) ⟨#[.agg cs, .int .i64 n, .pointer (some ⟨w.heap.size, 0, none⟩), undef, .bool false, .agg cs, .int .i64 n, .agg d.cells, .agg cs, .int .i64 n, .agg d.cells, .bool true, .bool true, undef, undef, undef, undef, undef, undef], []⟩ rfl (by kernel_rfl) (by kernel_rfl) (by kernel_rfl) (fun _ _ _ h => h) (.inl ⟨by kernel_rfl, fun _ _ => by kernel_rfl⟩) s2 (by kernel_rfl) ?_
  refine takeH (i := 8) (v := .agg cs.toList.toArray) ⟨#[.agg cs, .int .i64 n, .pointer (some ⟨w.heap.size, 0, none⟩), undef, .bool false, .agg cs, .int .i64 n, .agg d.cells, .agg cs, .int .i64 n, .agg d.cells, .bool true, .bool true, .agg cs, undef, undef, undef, undef, undef], []⟩ rfl (by kernel_rfl) (by kernel_rfl) (by kernel_rfl) (fun _ _ _ h => h) (yieldsIf_load_mid (by kernel_rfl) 27 (.tmp 2) rfl w.heap.size 0 (by kernel_rfl) cs.toList _ (fun v hv => Blk.range hv.1) Try.underlying27 rfl (by rw [Array.length_toList, HS.out]; exact Try.infoBoard)) s2 (by kernel_rfl) ?_
  refine takeH (i := 10) (v := .agg cs.toList.toArray) ⟨#[.agg cs, .int .i64 n, .pointer (some ⟨w.heap.size, 0, none⟩), undef, .bool false, .agg cs, .int .i64 n, .agg d.cells, .agg cs, .int .i64 n, .agg d.cells, .bool true, .bool true, .agg cs, undef, .agg cs, undef, undef, undef], []⟩ rfl (by kernel_rfl) (by kernel_rfl) (by kernel_rfl) (fun _ _ _ h => h) (yieldsIf_load_mid (by kernel_rfl) 27 (.tmp 2) rfl w.heap.size 0 (by kernel_rfl) cs.toList _ (fun v hv => Blk.range hv.1) Try.underlying27 rfl (by rw [Array.length_toList, HS.out]; exact Try.infoBoard)) s2 (by kernel_rfl) ?_
  refine wpAnyH_all (rs := [9]) (by kernel_rfl) (by simp) ?_
  intro i hi
  obtain rfl : i = 9 := by simpa using hi
  refine wpOp_contract (f := 13) rfl (by kernel_rfl) (by kernel_rfl) (HI1.out W2) ⟨#[.agg cs, .int .i64 n, .pointer (some ⟨w.heap.size, 0, none⟩), undef, .bool false, .agg cs, .int .i64 n, .agg d.cells, .agg cs, .int .i64 n, .agg d.cells, .bool true, .bool true, .agg cs, .int .i64 v, .agg cs, undef, undef, undef], []⟩ (by kernel_rfl) ?_
  intro W3 hb3
  have s3 := step s2 hb3
  refine ⟨s3, ?_⟩
  refine wpAnyH_all (rs := [11]) (by kernel_rfl) (by simp) ?_
  intro i hi
  obtain rfl : i = 11 := by simpa using hi
  refine wpOp_contract (f := 14) rfl (by kernel_rfl) (by kernel_rfl) (HI2.out W3) ⟨#[.agg cs, .int .i64 n, .pointer (some ⟨w.heap.size, 0, none⟩), undef, .bool false, .agg cs, .int .i64 n, .agg d.cells, .agg cs, .int .i64 n, .agg d.cells, .bool true, .bool true, .agg cs, .int .i64 v, .agg cs, .int .i64 v, undef, undef], []⟩ (by kernel_rfl) ?_
  intro W4 hb4
  have s4 := step s3 hb4
  refine ⟨s4, ?_⟩
  refine takeH (i := 12) (v := .bool (v == v)) ⟨#[.agg cs, .int .i64 n, .pointer (some ⟨w.heap.size, 0, none⟩), undef, .bool false, .agg cs, .int .i64 n, .agg d.cells, .agg cs, .int .i64 n, .agg d.cells, .bool true, .bool true, .agg cs, .int .i64 v, .agg cs, .int .i64 v, .bool (v == v), undef], []⟩ rfl (by kernel_rfl) (by kernel_rfl) (by kernel_rfl) (fun _ _ _ h => h) (.inl ⟨by kernel_rfl, fun _ _ => by kernel_rfl⟩) s4 (by kernel_rfl) ?_
  refine takeH (i := 13) (v := .bool (v == v)) ⟨#[.agg cs, .int .i64 n, .pointer (some ⟨w.heap.size, 0, none⟩), undef, .bool false, .agg cs, .int .i64 n, .agg d.cells, .agg cs, .int .i64 n, .agg d.cells, .bool true, .bool true, .agg cs, .int .i64 v, .agg cs, .int .i64 v, .bool (v == v), .bool (v == v)], []⟩ rfl (by kernel_rfl) (by kernel_rfl) (by kernel_rfl) (fun _ _ _ h => h) (.inl ⟨by kernel_rfl, fun _ _ => by kernel_rfl⟩) s4 (by kernel_rfl) ?_
  refine takeH (i := 14) (v := .bool (v == v)) ⟨#[.agg cs, .int .i64 n, .pointer (some ⟨w.heap.size, 0, none⟩), undef, .bool (v == v), .agg cs, .int .i64 n, .agg d.cells, .agg cs, .int .i64 n, .agg d.cells, .bool true, .bool true, .agg cs, .int .i64 v, .agg cs, .int .i64 v, .bool (v == v), .bool (v == v)], []⟩ rfl (by kernel_rfl) (by kernel_rfl) (by kernel_rfl) (fun _ _ _ h => h) (.inl ⟨by kernel_rfl, fun _ _ => by kernel_rfl⟩) s4 (by kernel_rfl) ?_
  refine wpAnyH_done (by kernel_rfl) ?_ _
  have EV : Hid ((v == v) = true) := beq_self_eq_true v
  go_wp2
  go_ret
  exact ⟨by first | rfl | exact congrArg (fun x => Ending.returned (.bool x)) EV.out, s4.2⟩
end Go.Proofs.Ytpdpfobhbafmcaa
