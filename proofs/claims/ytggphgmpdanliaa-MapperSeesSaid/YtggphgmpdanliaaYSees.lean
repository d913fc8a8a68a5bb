/-
  The law MapperSees returns true; conditions: the numbers fit their kinds.
-/
import Derived.Test.YtggphgmpdanliaaYSeen
set_option linter.unusedSimpArgs false
set_option linter.unusedVariables false
namespace Go.Proofs.Ytggphgmpdanliaa
open Go.RowKit Classical
set_option maxRecDepth 100000 in
set_option maxHeartbeats 1000000 in
theorem sees_law (w : World) (b : Bd) (a x : Int) (B : b.Wf) (a0 : 0 ≤ a) (a1 : a ≤ 65535) :
    Calls Try.prog 11 #[.agg b.cells, .int .u16 a, .int .i64 x] w fun e w' => e = .returned (.bool true) ∧ Below w.heap.size w w' := by
  have hr := B.rlen
  have B1 : Hid _ := fun (W : World) (x : Int) => bank_all W b x B
  have B2 : Hid _ := fun (W : World) (x : Int) => rbank_all W b x B
  have C1 : Hid _ := fun (W : World) (x : Int) => chrBank_all W b x B
  have C2 : Hid _ := fun (W : World) (x : Int) => rchr_all W b x B
  have SN : Hid _ := fun (W : World) => seen_any W b a B a0 a1
  clear B
  go_enter Try.func11, Try.ntmps11
  go_upto_region 1 with fail
  have s0 : St w [(w.heap.size, b)] (w.alloc (.cells b.cells 28)) := St.start w b hr
  generalize w.alloc (.cells b.cells 28) = W0 at *
  replace s0 := s0.drew
  refine wp_region_held (S := St w [(w.heap.size, b)]) (by kernel_rfl) ?_
  refine takeH (i := 0) (v := .agg (b).cells.toList.toArray) ⟨#[.agg b.cells, .int .u16 a, .int .i64 x, .pointer (some ⟨w.heap.size, 0, none⟩), undef, undef, .bool false, .agg (b).cells, undef, undef, undef, undef, undef, undef, undef, undef, undef, undef, undef, undef, undef, undef, undef, undef, undef, undef, undef, undef], []⟩ rfl (by kernel_rfl) (by kernel_rfl) (by kernel_rfl) (fun _ _ _ h => h) (yieldsIf_load_mid (by kernel_rfl) 28 (.tmp 3) rfl w.heap.size 0 (by kernel_rfl) (b).cells.toList _ (fun v hv => Blk.range (hv.blk w.heap.size b (by simp))) Try.underlying28 rfl (by rw [Array.length_toList]; exact infoB' b (s0.len w.heap.size b (by simp)))) s0 (by kernel_rfl) ?_
  refine takeH (i := 1) (v := .int .u16 a) ⟨#[.agg b.cells, .int .u16 a, .int .i64 x, .pointer (some ⟨w.heap.size, 0, none⟩), undef, undef, .bool false, .agg (b).cells, .int .u16 a, undef, undef, undef, undef, undef, undef, undef, undef, undef, undef, undef, undef, undef, undef, undef, undef, undef, undef, undef], []⟩ rfl (by kernel_rfl) (by kernel_rfl) (by kernel_rfl) (fun _ _ _ h => h) (.inl ⟨by kernel_rfl, fun _ _ => by kernel_rfl⟩) s0 (by kernel_rfl) ?_
  refine wpAnyH_all (rs := [2]) (by kernel_rfl) (by simp) ?_
  intro i hi
  obtain rfl : i = 2 := by simpa using hi
  refine wpOp_contract (f := 28) rfl (by kernel_rfl) (by kernel_rfl) (SN.out _) ⟨#[.agg b.cells, .int .u16 a, .int .i64 x, .pointer (some ⟨w.heap.size, 0, none⟩), undef, undef, .bool false, .agg (b).cells, .int .u16 a, .bool true, undef, undef, undef, undef, undef, undef, undef, undef, undef, undef, undef, undef, undef, undef, undef, undef, undef, undef], []⟩ (by kernel_rfl) ?_
  intro Wq1 hbq1
  have sq1 := s0.on hbq1
  clear hi hbq1
  refine ⟨sq1, ?_⟩
  refine takeH (i := 3) (v := .bool true) ⟨#[.agg b.cells, .int .u16 a, .int .i64 x, .pointer (some ⟨w.heap.size, 0, none⟩), undef, undef, .bool false, .agg (b).cells, .int .u16 a, .bool true, .bool true, undef, undef, undef, undef, undef, undef, undef, undef, undef, undef, undef, undef, undef, undef, undef, undef, undef], []⟩ rfl (by kernel_rfl) (by kernel_rfl) (by kernel_rfl) (fun _ _ _ h => h) (.inl ⟨by kernel_rfl, fun _ _ => by kernel_rfl⟩) sq1 (by kernel_rfl) ?_
  refine takeH (i := 4) (v := .agg (b).cells.toList.toArray) ⟨#[.agg b.cells, .int .u16 a, .int .i64 x, .pointer (some ⟨w.heap.size, 0, none⟩), undef, undef, .bool false, .agg (b).cells, .int .u16 a, .bool true, .bool true, .agg (b).cells, undef, undef, undef, undef, undef, undef, undef, undef, undef, undef, undef, undef, undef, undef, undef, undef], []⟩ rfl (by kernel_rfl) (by kernel_rfl) (by kernel_rfl) (fun _ _ _ h => h) (yieldsIf_load_mid (by kernel_rfl) 28 (.tmp 3) rfl w.heap.size 0 (by kernel_rfl) (b).cells.toList _ (fun v hv => Blk.range (hv.blk w.heap.size b (by simp))) Try.underlying28 rfl (by rw [Array.length_toList]; exact infoB' b (s0.len w.heap.size b (by simp)))) sq1 (by kernel_rfl) ?_
  refine takeH (i := 5) (v := .int .i64 x) ⟨#[.agg b.cells, .int .u16 a, .int .i64 x, .pointer (some ⟨w.heap.size, 0, none⟩), undef, undef, .bool false, .agg (b).cells, .int .u16 a, .bool true, .bool true, .agg (b).cells, .int .i64 x, undef, undef, undef, undef, undef, undef, undef, undef, undef, undef, undef, undef, undef, undef, undef], []⟩ rfl (by kernel_rfl) (by kernel_rfl) (by kernel_rfl) (fun _ _ _ h => h) (.inl ⟨by kernel_rfl, fun _ _ => by kernel_rfl⟩) sq1 (by kernel_rfl) ?_
  refine takeH (i := 7) (v := .agg (b).cells.toList.toArray) ⟨#[.agg b.cells, .int .u16 a, .int .i64 x, .pointer (some ⟨w.heap.size, 0, none⟩), undef, undef, .bool false, .agg (b).cells, .int .u16 a, .bool true, .bool true, .agg (b).cells, .int .i64 x, undef, .agg (b).cells, undef, undef, undef, undef, undef, undef, undef, undef, undef, undef, undef, undef, undef], []⟩ rfl (by kernel_rfl) (by kernel_rfl) (by kernel_rfl) (fun _ _ _ h => h) (yieldsIf_load_mid (by kernel_rfl) 28 (.tmp 3) rfl w.heap.size 0 (by kernel_rfl) (b).cells.toList _ (fun v hv => Blk.range (hv.blk w.heap.size b (by simp))) Try.underlying28 rfl (by rw [Array.length_toList]; exact infoB' b (s0.len w.heap.size b (by simp)))) sq1 (by kernel_rfl) ?_
  refine takeH (i := 8) (v := .int .i64 x) ⟨#[.agg b.cells, .int .u16 a, .int .i64 x, .pointer (some ⟨w.heap.size, 0, none⟩), undef, undef, .bool false, .agg (b).cells, .int .u16 a, .bool true, .bool true, .agg (b).cells, .int .i64 x, undef, .agg (b).cells, .int .i64 x, undef, undef, undef, undef, undef, undef, undef, undef, undef, undef, undef, undef], []⟩ rfl (by kernel_rfl) (by kernel_rfl) (by kernel_rfl) (fun _ _ _ h => h) (.inl ⟨by kernel_rfl, fun _ _ => by kernel_rfl⟩) sq1 (by kernel_rfl) ?_
  refine wpAnyH_all (rs := [6]) (by kernel_rfl) (by simp) ?_
  intro i hi
  obtain rfl : i = 6 := by simpa using hi
  refine wpOp_contract (f := 20) rfl (by kernel_rfl) (by kernel_rfl) (B1.out _ x) ⟨#[.agg b.cells, .int .u16 a, .int .i64 x, .pointer (some ⟨w.heap.size, 0, none⟩), undef, undef, .bool false, .agg (b).cells, .int .u16 a, .bool true, .bool true, .agg (b).cells, .int .i64 x, .int .i64 (bankBA b x), .agg (b).cells, .int .i64 x, undef, undef, undef, undef, undef, undef, undef, undef, undef, undef, undef, undef], []⟩ (by kernel_rfl) ?_
  intro Wq2 hbq2
  have sq2 := sq1.on hbq2
  clear hi hbq2
  refine ⟨sq2, ?_⟩
  refine wpAnyH_all (rs := [9]) (by kernel_rfl) (by simp) ?_
  intro i hi
  obtain rfl : i = 9 := by simpa using hi
  refine wpOp_contract (f := 29) rfl (by kernel_rfl) (by kernel_rfl) (B2.out _ x) ⟨#[.agg b.cells, .int .u16 a, .int .i64 x, .pointer (some ⟨w.heap.size, 0, none⟩), undef, undef, .bool false, .agg (b).cells, .int .u16 a, .bool true, .bool true, .agg (b).cells, .int .i64 x, .int .i64 (bankBA b x), .agg (b).cells, .int .i64 x, .int .i64 (bankBA b x), undef, undef, undef, undef, undef, undef, undef, undef, undef, undef, undef], []⟩ (by kernel_rfl) ?_
  intro Wq3 hbq3
  have sq3 := sq2.on hbq3
  clear hi hbq3
  refine ⟨sq3, ?_⟩
  refine takeH (i := 10) (v := .bool true) ⟨#[.agg b.cells, .int .u16 a, .int .i64 x, .pointer (some ⟨w.heap.size, 0, none⟩), undef, undef, .bool false, .agg (b).cells, .int .u16 a, .bool true, .bool true, .agg (b).cells, .int .i64 x, .int .i64 (bankBA b x), .agg (b).cells, .int .i64 x, .int .i64 (bankBA b x), .bool true, undef, undef, undef, undef, undef, undef, undef, undef, undef, undef], []⟩ rfl (by kernel_rfl) (by kernel_rfl) (by kernel_rfl) (fun _ _ _ h => h) (.inl ⟨by kernel_rfl, fun v _ => exec_eqlI (a := (bankBA b x)) (b := (bankBA b x)) rfl (by kernel_rfl) (by kernel_rfl) Try.underlying3 (by simp)⟩) sq3 (by kernel_rfl) ?_
  refine takeH (i := 11) (v := .bool true) ⟨#[.agg b.cells, .int .u16 a, .int .i64 x, .pointer (some ⟨w.heap.size, 0, none⟩), undef, undef, .bool false, .agg (b).cells, .int .u16 a, .bool true, .bool true, .agg (b).cells, .int .i64 x, .int .i64 (bankBA b x), .agg (b).cells, .int .i64 x, .int .i64 (bankBA b x), .bool true, .bool true, undef, undef, undef, undef, undef, undef, undef, undef, undef], []⟩ rfl (by kernel_rfl) (by kernel_rfl) (by kernel_rfl) (fun _ _ _ h => h) (.inl ⟨by kernel_rfl, fun _ _ => by kernel_rfl⟩) sq3 (by kernel_rfl) ?_
  refine takeH (i := 12) (v := .bool true) ⟨#[.agg b.cells, .int .u16 a, .int .i64 x, .pointer (some ⟨w.heap.size, 0, none⟩), undef, undef, .bool false, .agg (b).cells, .int .u16 a, .bool true, .bool true, .agg (b).cells, .int .i64 x, .int .i64 (bankBA b x), .agg (b).cells, .int .i64 x, .int .i64 (bankBA b x), .bool true, .bool true, .bool true, undef, undef, undef, undef, undef, undef, undef, undef], []⟩ rfl (by kernel_rfl) (by kernel_rfl) (by kernel_rfl) (fun _ _ _ h => h) (.inl ⟨by kernel_rfl, fun _ _ => by kernel_rfl⟩) sq3 (by kernel_rfl) ?_
  refine takeH (i := 13) (v := .agg (b).cells.toList.toArray) ⟨#[.agg b.cells, .int .u16 a, .int .i64 x, .pointer (some ⟨w.heap.size, 0, none⟩), undef, undef, .bool false, .agg (b).cells, .int .u16 a, .bool true, .bool true, .agg (b).cells, .int .i64 x, .int .i64 (bankBA b x), .agg (b).cells, .int .i64 x, .int .i64 (bankBA b x), .bool true, .bool true, .bool true, .agg (b).cells, undef, undef, undef, undef, undef, undef, undef], []⟩ rfl (by kernel_rfl) (by kernel_rfl) (by kernel_rfl) (fun _ _ _ h => h) (yieldsIf_load_mid (by kernel_rfl) 28 (.tmp 3) rfl w.heap.size 0 (by kernel_rfl) (b).cells.toList _ (fun v hv => Blk.range (hv.blk w.heap.size b (by simp))) Try.underlying28 rfl (by rw [Array.length_toList]; exact infoB' b (s0.len w.heap.size b (by simp)))) sq3 (by kernel_rfl) ?_
  refine takeH (i := 14) (v := .int .i64 x) ⟨#[.agg b.cells, .int .u16 a, .int .i64 x, .pointer (some ⟨w.heap.size, 0, none⟩), undef, undef, .bool false, .agg (b).cells, .int .u16 a, .bool true, .bool true, .agg (b).cells, .int .i64 x, .int .i64 (bankBA b x), .agg (b).cells, .int .i64 x, .int .i64 (bankBA b x), .bool true, .bool true, .bool true, .agg (b).cells, .int .i64 x, undef, undef, undef, undef, undef, undef], []⟩ rfl (by kernel_rfl) (by kernel_rfl) (by kernel_rfl) (fun _ _ _ h => h) (.inl ⟨by kernel_rfl, fun _ _ => by kernel_rfl⟩) sq3 (by kernel_rfl) ?_
  refine takeH (i := 16) (v := .agg (b).cells.toList.toArray) ⟨#[.agg b.cells, .int .u16 a, .int .i64 x, .pointer (some ⟨w.heap.size, 0, none⟩), undef, undef, .bool false, .agg (b).cells, .int .u16 a, .bool true, .bool true, .agg (b).cells, .int .i64 x, .int .i64 (bankBA b x), .agg (b).cells, .int .i64 x, .int .i64 (bankBA b x), .bool true, .bool true, .bool true, .agg (b).cells, .int .i64 x, undef, .agg (b).cells, undef, undef, undef, undef], []⟩ rfl (by kernel_rfl) (by kernel_rfl) (by kernel_rfl) (fun _ _ _ h => h) (yieldsIf_load_mid (by kernel_rfl) 28 (.tmp 3) rfl w.heap.size 0 (by kernel_rfl) (b).cells.toList _ (fun v hv => Blk.range (hv.blk w.heap.size b (by simp))) Try.underlying28 rfl (by rw [Array.length_toList]; exact infoB' b (s0.len w.heap.size b (by simp)))) sq3 (by kernel_rfl) ?_
  refine takeH (i := 17) (v := .int .i64 x) ⟨#[.agg b.cells, .int .u16 a, .int .i64 x, .pointer (some ⟨w.heap.size, 0, none⟩), undef, undef, .bool false, .agg (b).cells, .int .u16 a, .bool true, .bool true, .agg (b).cells, .int .i64 x, .int .i64 (bankBA b x), .agg (b).cells, .int .i64 x, .int .i64 (bankBA b x), .bool true, .bool true, .bool true, .agg (b).cells, .int .i64 x, undef, .agg (b).cells, .int .i64 x, undef, undef, undef], []⟩ rfl (by kernel_rfl) (by kernel_rfl) (by kernel_rfl) (fun _ _ _ h => h) (.inl ⟨by kernel_rfl, fun _ _ => by kernel_rfl⟩) sq3 (by kernel_rfl) ?_
  refine wpAnyH_all (rs := [15]) (by kernel_rfl) (by simp) ?_
  intro i hi
  obtain rfl : i = 15 := by simpa using hi
  refine wpOp_contract (f := 30) rfl (by kernel_rfl) (by kernel_rfl) (C1.out _ x) ⟨#[.agg b.cells, .int .u16 a, .int .i64 x, .pointer (some ⟨w.heap.size, 0, none⟩), undef, undef, .bool false, .agg (b).cells, .int .u16 a, .bool true, .bool true, .agg (b).cells, .int .i64 x, .int .i64 (bankBA b x), .agg (b).cells, .int .i64 x, .int .i64 (bankBA b x), .bool true, .bool true, .bool true, .agg (b).cells, .int .i64 x, .int .i64 (chrBA b x), .agg (b).cells, .int .i64 x, undef, undef, undef], []⟩ (by kernel_rfl) ?_
  intro Wq4 hbq4
  have sq4 := sq3.on hbq4
  clear hi hbq4
  refine ⟨sq4, ?_⟩
  refine wpAnyH_all (rs := [18]) (by kernel_rfl) (by simp) ?_
  intro i hi
  obtain rfl : i = 18 := by simpa using hi
  refine wpOp_contract (f := 31) rfl (by kernel_rfl) (by kernel_rfl) (C2.out _ x) ⟨#[.agg b.cells, .int .u16 a, .int .i64 x, .pointer (some ⟨w.heap.size, 0, none⟩), undef, undef, .bool false, .agg (b).cells, .int .u16 a, .bool true, .bool true, .agg (b).cells, .int .i64 x, .int .i64 (bankBA b x), .agg (b).cells, .int .i64 x, .int .i64 (bankBA b x), .bool true, .bool true, .bool true, .agg (b).cells, .int .i64 x, .int .i64 (chrBA b x), .agg (b).cells, .int .i64 x, .int .i64 (chrBA b x), undef, undef], []⟩ (by kernel_rfl) ?_
  intro Wq5 hbq5
  have sq5 := sq4.on hbq5
  clear hi hbq5
  refine ⟨sq5, ?_⟩
  refine takeH (i := 19) (v := .bool true) ⟨#[.agg b.cells, .int .u16 a, .int .i64 x, .pointer (some ⟨w.heap.size, 0, none⟩), undef, undef, .bool false, .agg (b).cells, .int .u16 a, .bool true, .bool true, .agg (b).cells, .int .i64 x, .int .i64 (bankBA b x), .agg (b).cells, .int .i64 x, .int .i64 (bankBA b x), .bool true, .bool true, .bool true, .agg (b).cells, .int .i64 x, .int .i64 (chrBA b x), .agg (b).cells, .int .i64 x, .int .i64 (chrBA b x), .bool true, undef], []⟩ rfl (by kernel_rfl) (by kernel_rfl) (by kernel_rfl) (fun _ _ _ h => h) (.inl ⟨by kernel_rfl, fun v _ => exec_eqlI (a := (chrBA b x)) (b := (chrBA b x)) rfl (by kernel_rfl) (by kernel_rfl) Try.underlying3 (by simp)⟩) sq5 (by kernel_rfl) ?_
  refine takeH (i := 20) (v := .bool true) ⟨#[.agg b.cells, .int .u16 a, .int .i64 x, .pointer (some ⟨w.heap.size, 0, none⟩), undef, undef, .bool false, .agg (b).cells, .int .u16 a, .bool true, .bool true, .agg (b).cells, .int .i64 x, .int .i64 (bankBA b x), .agg (b).cells, .int .i64 x, .int .i64 (bankBA b x), .bool true, .bool true, .bool true, .agg (b).cells, .int .i64 x, .int .i64 (chrBA b x), .agg (b).cells, .int .i64 x, .int .i64 (chrBA b x), .bool true, .bool true], []⟩ rfl (by kernel_rfl) (by kernel_rfl) (by kernel_rfl) (fun _ _ _ h => h) (.inl ⟨by kernel_rfl, fun _ _ => by kernel_rfl⟩) sq5 (by kernel_rfl) ?_
  refine takeH (i := 21) (v := .bool true) ⟨#[.agg b.cells, .int .u16 a, .int .i64 x, .pointer (some ⟨w.heap.size, 0, none⟩), undef, undef, .bool true, .agg (b).cells, .int .u16 a, .bool true, .bool true, .agg (b).cells, .int .i64 x, .int .i64 (bankBA b x), .agg (b).cells, .int .i64 x, .int .i64 (bankBA b x), .bool true, .bool true, .bool true, .agg (b).cells, .int .i64 x, .int .i64 (chrBA b x), .agg (b).cells, .int .i64 x, .int .i64 (chrBA b x), .bool true, .bool true], []⟩ rfl (by kernel_rfl) (by kernel_rfl) (by kernel_rfl) (fun _ _ _ h => h) (.inl ⟨by kernel_rfl, fun _ _ => by kernel_rfl⟩) sq5 (by kernel_rfl) ?_
  refine wpAnyH_done (by kernel_rfl) ?_ _
  go_wp2
  go_ret
  exact ⟨rfl, sq5.2⟩
end Go.Proofs.Ytggphgmpdanliaa
