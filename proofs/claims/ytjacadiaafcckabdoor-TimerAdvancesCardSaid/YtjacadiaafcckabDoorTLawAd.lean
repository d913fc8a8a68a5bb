/-
  The law TimerAdvances returns true; conditions: the tables lie in their variables, the numbers fit their kinds.
-/
import Derived.Test.YtjacadiaafcckabDoorTSt
import Derived.Test.YtjacadiaafcckabDoorTAdv
import Derived.Test.YtjacadiaafcckabDoorTRAdv
set_option linter.unusedSimpArgs false
set_option linter.unusedVariables false
namespace Go.Proofs.YtjacadiaafcckabDoor
open Go.RowKit Classical
theorem adv_it_any {c : Ck} (o : c.Ok) (n : Int) : c.adv n = c.it n.toNat := by
  by_cases h : 0 ≤ n
  · obtain ⟨k, rfl⟩ := Int.eq_ofNat_of_zero_le h
    rw [Ck.adv_it o]; rfl
  · rw [Ck.adv_none (by omega), show n.toNat = 0 by omega]; rfl
theorem tmod_bd (n : Int) : -65535 ≤ n.tmod 65536 ∧ n.tmod 65536 ≤ 65535 := by
  by_cases h : 0 ≤ n
  · rw [Int.tmod_eq_emod_of_nonneg h]; omega
  · have e : n = -(-n) := by omega
    rw [e, Int.neg_tmod, Int.tmod_eq_emod_of_nonneg (by omega)]; omega
set_option maxHeartbeats 1000000 in
theorem law_timerAdvances (c : Ck) (n : Int) (w : World) (o : c.Ok) (T : Tabs w) :
    Calls Tryd.prog 8 #[.agg c.cells, .int .i64 n] w fun e w' => e = .returned (.bool true) ∧ Below w.heap.size w w' := by
  have hN := tmod_bd n
  obtain ⟨N, hNe⟩ : ∃ N, n.tmod 65536 = N := ⟨_, rfl⟩
  rw [hNe] at hN
  have N0 := hN.1
  have N1 := hN.2
  clear hN
  go_enter Tryd.func8, Tryd.ntmps8
  go_upto_region 2 with fail
  have s0 : St w [(w.heap.size, c)] (w.alloc (.cells c.cells 25)) := St.start w c
  generalize w.alloc (.cells c.cells 25) = W0 at *
  refine wp_region_held (S := St w [(w.heap.size, c)]) (by kernel_rfl) ?_
  refine takeH (i := 0) (v := .agg (Ck.cells c).toList.toArray) ⟨#[.agg c.cells, .int .i64 N, .pointer (some ⟨w.heap.size, 0, none⟩), undef, .bool false, .int .i64 n, .int .i64 N, .agg (Ck.cells c), undef, undef, undef, undef, undef, undef], []⟩ rfl (by kernel_rfl) (by kernel_rfl) (by kernel_rfl) (fun _ _ _ h => h) (yieldsIf_load_mid (by kernel_rfl) 25 (.tmp 2) rfl w.heap.size 0 (by kernel_rfl) (Ck.cells c).toList _ (fun v hv => Blk.range' (hv.blk w.heap.size c (by simp))) Tryd.underlying25 rfl (by rw [Array.length_toList]; exact infoC' c)) s0.drew (by kernel_rfl) ?_
  refine takeH (i := 1) (v := .int .i64 N) ⟨#[.agg c.cells, .int .i64 N, .pointer (some ⟨w.heap.size, 0, none⟩), undef, .bool false, .int .i64 n, .int .i64 N, .agg (Ck.cells c), .int .i64 N, undef, undef, undef, undef, undef], []⟩ rfl (by kernel_rfl) (by kernel_rfl) (by kernel_rfl) (fun _ _ _ h => h) (.inl ⟨by kernel_rfl, fun _ _ => by kernel_rfl⟩) s0.drew (by kernel_rfl) ?_
  refine takeH (i := 3) (v := .agg (Ck.cells c).toList.toArray) ⟨#[.agg c.cells, .int .i64 N, .pointer (some ⟨w.heap.size, 0, none⟩), undef, .bool false, .int .i64 n, .int .i64 N, .agg (Ck.cells c), .int .i64 N, undef, .agg (Ck.cells c), undef, undef, undef], []⟩ rfl (by kernel_rfl) (by kernel_rfl) (by kernel_rfl) (fun _ _ _ h => h) (yieldsIf_load_mid (by kernel_rfl) 25 (.tmp 2) rfl w.heap.size 0 (by kernel_rfl) (Ck.cells c).toList _ (fun v hv => Blk.range' (hv.blk w.heap.size c (by simp))) Tryd.underlying25 rfl (by rw [Array.length_toList]; exact infoC' c)) s0.drew (by kernel_rfl) ?_
  refine takeH (i := 4) (v := .int .i64 N) ⟨#[.agg c.cells, .int .i64 N, .pointer (some ⟨w.heap.size, 0, none⟩), undef, .bool false, .int .i64 n, .int .i64 N, .agg (Ck.cells c), .int .i64 N, undef, .agg (Ck.cells c), .int .i64 N, undef, undef], []⟩ rfl (by kernel_rfl) (by kernel_rfl) (by kernel_rfl) (fun _ _ _ h => h) (.inl ⟨by kernel_rfl, fun _ _ => by kernel_rfl⟩) s0.drew (by kernel_rfl) ?_
  refine wpAnyH_all (rs := [2]) (by kernel_rfl) (by simp) ?_
  intro i hi
  obtain rfl : i = 2 := by simpa using hi
  refine wpOp_contract (f := 10) rfl (by kernel_rfl) (by kernel_rfl) (adv_any c N _ o (T.on s0.drew.2) (by omega)) ⟨#[.agg c.cells, .int .i64 N, .pointer (some ⟨w.heap.size, 0, none⟩), undef, .bool false, .int .i64 n, .int .i64 N, .agg (Ck.cells c), .int .i64 N, .agg (c.adv N).cells, .agg (Ck.cells c), .int .i64 N, undef, undef], []⟩ (by kernel_rfl) ?_
  intro V1 hbq
  have s1 := s0.drew.on hbq
  clear hbq
  clear hi
  refine ⟨s1, ?_⟩
  refine wpAnyH_all (rs := [5]) (by kernel_rfl) (by simp) ?_
  intro i hi
  obtain rfl : i = 5 := by simpa using hi
  refine wpOp_contract (f := 19) rfl (by kernel_rfl) (by kernel_rfl) (radv_any c N _ o (by omega)) ⟨#[.agg c.cells, .int .i64 N, .pointer (some ⟨w.heap.size, 0, none⟩), undef, .bool false, .int .i64 n, .int .i64 N, .agg (Ck.cells c), .int .i64 N, .agg (c.adv N).cells, .agg (Ck.cells c), .int .i64 N, .agg (c.it N.toNat).cells, undef], []⟩ (by kernel_rfl) ?_
  intro V2 hbq
  have s2 := s1.on hbq
  clear hbq
  clear hi
  refine ⟨s2, ?_⟩
  refine takeH (i := 6) (v := .bool true) ⟨#[.agg c.cells, .int .i64 N, .pointer (some ⟨w.heap.size, 0, none⟩), undef, .bool false, .int .i64 n, .int .i64 N, .agg (Ck.cells c), .int .i64 N, .agg (c.adv N).cells, .agg (Ck.cells c), .int .i64 N, .agg (c.it N.toNat).cells, .bool true], []⟩ rfl (by kernel_rfl) (by kernel_rfl) (by kernel_rfl) (fun _ _ _ h => h) (.inl ⟨by kernel_rfl, fun v _ => exec_bin rfl (by kernel_rfl) (by kernel_rfl) (eql_yes v (adv_it_any o N))⟩) s2 (by kernel_rfl) ?_
  refine takeH (i := 7) (v := .bool true) ⟨#[.agg c.cells, .int .i64 N, .pointer (some ⟨w.heap.size, 0, none⟩), undef, .bool true, .int .i64 n, .int .i64 N, .agg (Ck.cells c), .int .i64 N, .agg (c.adv N).cells, .agg (Ck.cells c), .int .i64 N, .agg (c.it N.toNat).cells, .bool true], []⟩ rfl (by kernel_rfl) (by kernel_rfl) (by kernel_rfl) (fun _ _ _ h => h) (.inl ⟨by kernel_rfl, fun _ _ => by kernel_rfl⟩) s2 (by kernel_rfl) ?_
  refine wpAnyH_done (by kernel_rfl) ?_ _
  go_wp2
  go_ret
  exact ⟨rfl, s2.2⟩
end Go.Proofs.YtjacadiaafcckabDoor
