/-
  The law TimerWrites returns true; conditions: the table of the dividers lies in its variable, the numbers fit their kinds.
-/
import Derived.Test.YtjacadiaafcckaaDoorTSt
import Derived.Test.YtjacadiaafcckaaDoorTWrite
import Derived.Test.YtjacadiaafcckaaDoorTRWrite
set_option linter.unusedSimpArgs false
set_option linter.unusedVariables false
namespace Go.Proofs.YtjacadiaafcckaaDoor
open Go.RowKit Classical
theorem law_timerWrites (c : Ck) (a v9 cy : Int) (w : World) (o : c.Ok) (v0 : 0 ≤ v9) (v1 : v9 ≤ 255) (T : DTab w) :
    Calls Tryd.prog 4 #[.agg c.cells, .int .u16 a, .int .u8 v9, .int .i64 cy] w fun e w' => e = .returned (.bool true) ∧ Below w.heap.size w w' := by
  go_enter Tryd.func4, Tryd.ntmps4
  go_upto_region 1 with fail
  have s0 : St w [(w.heap.size, c)] (w.alloc (.cells c.cells 24)) := St.start w c
  generalize w.alloc (.cells c.cells 24) = W0 at *
  refine wp_region_held (S := St w [(w.heap.size, c)]) (by kernel_rfl) ?_
  refine takeH (i := 0) (v := .agg (Ck.cells c).toList.toArray) ⟨#[.agg c.cells, .int .u16 a, .int .u8 v9, .int .i64 cy, .pointer (some ⟨w.heap.size, 0, none⟩), undef, undef, undef, .bool false, .agg (Ck.cells c), undef, undef, undef, undef, undef, undef, undef, undef, undef, undef], []⟩ rfl (by kernel_rfl) (by kernel_rfl) (by kernel_rfl) (fun _ _ _ h => h) (yieldsIf_load_mid (by kernel_rfl) 24 (.tmp 4) rfl w.heap.size 0 (by kernel_rfl) (Ck.cells c).toList _ (fun v hv => Blk.range' (hv.blk w.heap.size c (by simp))) Tryd.underlying24 rfl (by rw [Array.length_toList]; exact infoC' c)) s0.drew (by kernel_rfl) ?_
  refine takeH (i := 1) (v := .int .u16 a) ⟨#[.agg c.cells, .int .u16 a, .int .u8 v9, .int .i64 cy, .pointer (some ⟨w.heap.size, 0, none⟩), undef, undef, undef, .bool false, .agg (Ck.cells c), .int .u16 a, undef, undef, undef, undef, undef, undef, undef, undef, undef], []⟩ rfl (by kernel_rfl) (by kernel_rfl) (by kernel_rfl) (fun _ _ _ h => h) (.inl ⟨by kernel_rfl, fun _ _ => by kernel_rfl⟩) s0.drew (by kernel_rfl) ?_
  refine takeH (i := 2) (v := .int .u8 v9) ⟨#[.agg c.cells, .int .u16 a, .int .u8 v9, .int .i64 cy, .pointer (some ⟨w.heap.size, 0, none⟩), undef, undef, undef, .bool false, .agg (Ck.cells c), .int .u16 a, .int .u8 v9, undef, undef, undef, undef, undef, undef, undef, undef], []⟩ rfl (by kernel_rfl) (by kernel_rfl) (by kernel_rfl) (fun _ _ _ h => h) (.inl ⟨by kernel_rfl, fun _ _ => by kernel_rfl⟩) s0.drew (by kernel_rfl) ?_
  refine takeH (i := 3) (v := .int .i64 cy) ⟨#[.agg c.cells, .int .u16 a, .int .u8 v9, .int .i64 cy, .pointer (some ⟨w.heap.size, 0, none⟩), undef, undef, undef, .bool false, .agg (Ck.cells c), .int .u16 a, .int .u8 v9, .int .i64 cy, undef, undef, undef, undef, undef, undef, undef], []⟩ rfl (by kernel_rfl) (by kernel_rfl) (by kernel_rfl) (fun _ _ _ h => h) (.inl ⟨by kernel_rfl, fun _ _ => by kernel_rfl⟩) s0.drew (by kernel_rfl) ?_
  refine takeH (i := 5) (v := .agg (Ck.cells c).toList.toArray) ⟨#[.agg c.cells, .int .u16 a, .int .u8 v9, .int .i64 cy, .pointer (some ⟨w.heap.size, 0, none⟩), undef, undef, undef, .bool false, .agg (Ck.cells c), .int .u16 a, .int .u8 v9, .int .i64 cy, undef, .agg (Ck.cells c), undef, undef, undef, undef, undef], []⟩ rfl (by kernel_rfl) (by kernel_rfl) (by kernel_rfl) (fun _ _ _ h => h) (yieldsIf_load_mid (by kernel_rfl) 24 (.tmp 4) rfl w.heap.size 0 (by kernel_rfl) (Ck.cells c).toList _ (fun v hv => Blk.range' (hv.blk w.heap.size c (by simp))) Tryd.underlying24 rfl (by rw [Array.length_toList]; exact infoC' c)) s0.drew (by kernel_rfl) ?_
  refine takeH (i := 6) (v := .int .u16 a) ⟨#[.agg c.cells, .int .u16 a, .int .u8 v9, .int .i64 cy, .pointer (some ⟨w.heap.size, 0, none⟩), undef, undef, undef, .bool false, .agg (Ck.cells c), .int .u16 a, .int .u8 v9, .int .i64 cy, undef, .agg (Ck.cells c), .int .u16 a, undef, undef, undef, undef], []⟩ rfl (by kernel_rfl) (by kernel_rfl) (by kernel_rfl) (fun _ _ _ h => h) (.inl ⟨by kernel_rfl, fun _ _ => by kernel_rfl⟩) s0.drew (by kernel_rfl) ?_
  refine takeH (i := 7) (v := .int .u8 v9) ⟨#[.agg c.cells, .int .u16 a, .int .u8 v9, .int .i64 cy, .pointer (some ⟨w.heap.size, 0, none⟩), undef, undef, undef, .bool false, .agg (Ck.cells c), .int .u16 a, .int .u8 v9, .int .i64 cy, undef, .agg (Ck.cells c), .int .u16 a, .int .u8 v9, undef, undef, undef], []⟩ rfl (by kernel_rfl) (by kernel_rfl) (by kernel_rfl) (fun _ _ _ h => h) (.inl ⟨by kernel_rfl, fun _ _ => by kernel_rfl⟩) s0.drew (by kernel_rfl) ?_
  refine takeH (i := 8) (v := .int .i64 cy) ⟨#[.agg c.cells, .int .u16 a, .int .u8 v9, .int .i64 cy, .pointer (some ⟨w.heap.size, 0, none⟩), undef, undef, undef, .bool false, .agg (Ck.cells c), .int .u16 a, .int .u8 v9, .int .i64 cy, undef, .agg (Ck.cells c), .int .u16 a, .int .u8 v9, .int .i64 cy, undef, undef], []⟩ rfl (by kernel_rfl) (by kernel_rfl) (by kernel_rfl) (fun _ _ _ h => h) (.inl ⟨by kernel_rfl, fun _ _ => by kernel_rfl⟩) s0.drew (by kernel_rfl) ?_
  refine wpAnyH_all (rs := [4]) (by kernel_rfl) (by simp) ?_
  intro i hi
  obtain rfl : i = 4 := by simpa using hi
  refine wpOp_contract (f := 11) rfl (by kernel_rfl) (by kernel_rfl) (write_any c _ a v9 cy o (T.on s0.drew.2) v0 v1) ⟨#[.agg c.cells, .int .u16 a, .int .u8 v9, .int .i64 cy, .pointer (some ⟨w.heap.size, 0, none⟩), undef, undef, undef, .bool false, .agg (Ck.cells c), .int .u16 a, .int .u8 v9, .int .i64 cy, .agg (c.wr a v9 cy).cells, .agg (Ck.cells c), .int .u16 a, .int .u8 v9, .int .i64 cy, undef, undef], []⟩ (by kernel_rfl) ?_
  intro V1 hbq
  have s1 := s0.drew.on hbq
  clear hbq
  clear hi
  refine ⟨s1, ?_⟩
  refine wpAnyH_all (rs := [9]) (by kernel_rfl) (by simp) ?_
  intro i hi
  obtain rfl : i = 9 := by simpa using hi
  refine wpOp_contract (f := 12) rfl (by kernel_rfl) (by kernel_rfl) (rwrite_any c _ a v9 cy o v0 v1) ⟨#[.agg c.cells, .int .u16 a, .int .u8 v9, .int .i64 cy, .pointer (some ⟨w.heap.size, 0, none⟩), undef, undef, undef, .bool false, .agg (Ck.cells c), .int .u16 a, .int .u8 v9, .int .i64 cy, .agg (c.wr a v9 cy).cells, .agg (Ck.cells c), .int .u16 a, .int .u8 v9, .int .i64 cy, .agg (c.wr a v9 cy).cells, undef], []⟩ (by kernel_rfl) ?_
  intro V2 hbq
  have s2 := s1.on hbq
  clear hbq
  clear hi
  refine ⟨s2, ?_⟩
  refine takeH (i := 10) (v := .bool true) ⟨#[.agg c.cells, .int .u16 a, .int .u8 v9, .int .i64 cy, .pointer (some ⟨w.heap.size, 0, none⟩), undef, undef, undef, .bool false, .agg (Ck.cells c), .int .u16 a, .int .u8 v9, .int .i64 cy, .agg (c.wr a v9 cy).cells, .agg (Ck.cells c), .int .u16 a, .int .u8 v9, .int .i64 cy, .agg (c.wr a v9 cy).cells, .bool true], []⟩ rfl (by kernel_rfl) (by kernel_rfl) (by kernel_rfl) (fun _ _ _ h => h) (.inl ⟨by kernel_rfl, fun v _ => exec_bin rfl (by kernel_rfl) (by kernel_rfl) (eql_yes v (rfl : c.wr a v9 cy = c.wr a v9 cy))⟩) s2 (by kernel_rfl) ?_
  refine takeH (i := 11) (v := .bool true) ⟨#[.agg c.cells, .int .u16 a, .int .u8 v9, .int .i64 cy, .pointer (some ⟨w.heap.size, 0, none⟩), undef, undef, undef, .bool true, .agg (Ck.cells c), .int .u16 a, .int .u8 v9, .int .i64 cy, .agg (c.wr a v9 cy).cells, .agg (Ck.cells c), .int .u16 a, .int .u8 v9, .int .i64 cy, .agg (c.wr a v9 cy).cells, .bool true], []⟩ rfl (by kernel_rfl) (by kernel_rfl) (by kernel_rfl) (fun _ _ _ h => h) (.inl ⟨by kernel_rfl, fun _ _ => by kernel_rfl⟩) s2 (by kernel_rfl) ?_
  refine wpAnyH_done (by kernel_rfl) ?_ _
  go_wp2
  go_ret
  exact ⟨rfl, s2.2⟩
end Go.Proofs.YtjacadiaafcckaaDoor
