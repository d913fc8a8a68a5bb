/-
  The law TimerTicks returns true; conditions: the tables lie in their variables, the numbers fit their kinds.
-/
import Derived.Test.YtjacadiaafcckacDoorTSt
import Derived.Test.YtjacadiaafcckacDoorTTick
import Derived.Test.YtjacadiaafcckacDoorTNext
import Derived.Test.YtjacadiaafcckacDoorTRNextA
set_option linter.unusedSimpArgs false
set_option linter.unusedVariables false
namespace Go.Proofs.YtjacadiaafcckacDoor
open Go.RowKit Classical
theorem exec_nb {ρ : Operand → Value} {o : Oper} {x y : Operand} {t z : TypeId} {a : Bool} {w : World} (ho : o.op = .binOp .neq t x y z) (hx : ρ x = .bool a) (hy : ρ y = .bool a) (ht : Tryd.prog.underlying t = some .bool) : (execOp ρ o).run Tryd.prog w = .ok (.value (.bool false)) w := by
  obtain ⟨dst, o, ty, pos, after, guard⟩ := o
  simp only at ho
  subst ho
  rw [run_exec_binOp, hx, hy]
  cases a <;> go_simp
theorem exec_ei {ρ : Operand → Value} {o : Oper} {x y : Operand} {t z : TypeId} {a : Int} {w : World} (ho : o.op = .binOp .eql t x y z) (hx : ρ x = .int .i64 a) (hy : ρ y = .int .i64 a) (ht : Tryd.prog.underlying t = some (.int .i64)) : (execOp ρ o).run Tryd.prog w = .ok (.value (.bool true)) w := by
  obtain ⟨dst, o, ty, pos, after, guard⟩ := o
  simp only at ho
  subst ho
  rw [run_exec_binOp, hx, hy]
  go_simp
set_option maxHeartbeats 1000000 in
theorem law_timerTicks (c : Ck) (w : World) (o : c.Ok) (T : Tabs w) :
    Calls Tryd.prog 3 #[.agg c.cells] w fun e w' => e = .returned (.bool true) ∧ Below w.heap.size w w' := by
  have VA : Hid _ := fun W (hW : DTab W) => valid_any c W o hW
  have RV : Hid _ := fun W => rvalid_any c W o
  have IA : Hid _ := fun W (hW : DTab W) => irq_any c W o hW
  have RI : Hid _ := fun W => rirq_any c W o
  have NA : Hid _ := fun W (hW : Tabs W) => next_any c W o hW
  have RN : Hid _ := fun W => rnext_any c W o
  generalize c.valid = V at *
  generalize c.irq = Q at *
  generalize c.nxt = X at *
  go_enter Tryd.func3, Tryd.ntmps3
  go_upto_region 1 with fail
  have s0 : St w [(w.heap.size, c)] (w.alloc (.cells c.cells 24)) := St.start w c
  generalize w.alloc (.cells c.cells 24) = W0 at *
  refine wp_region_held (S := St w [(w.heap.size, c)]) (by kernel_rfl) ?_
  refine takeH (i := 0) (v := .agg (Ck.cells c).toList.toArray) ⟨#[.agg c.cells, .pointer (some ⟨w.heap.size, 0, none⟩), .bool false, .agg (Ck.cells c), undef, undef, undef, undef, undef, undef, undef, undef, undef, undef, undef, undef, undef, undef, undef, undef, undef, undef, undef, undef, undef, undef, undef], []⟩ rfl (by kernel_rfl) (by kernel_rfl) (by kernel_rfl) (fun _ _ _ h => h) (yieldsIf_load_mid (by kernel_rfl) 24 (.tmp 1) rfl w.heap.size 0 (by kernel_rfl) (Ck.cells c).toList _ (fun v hv => Blk.range' (hv.blk w.heap.size c (by simp))) Tryd.underlying24 rfl (by rw [Array.length_toList]; exact infoC' c)) s0.drew (by kernel_rfl) ?_
  refine takeH (i := 2) (v := .agg (Ck.cells c).toList.toArray) ⟨#[.agg c.cells, .pointer (some ⟨w.heap.size, 0, none⟩), .bool false, .agg (Ck.cells c), undef, .agg (Ck.cells c), undef, undef, undef, undef, undef, undef, undef, undef, undef, undef, undef, undef, undef, undef, undef, undef, undef, undef, undef, undef, undef], []⟩ rfl (by kernel_rfl) (by kernel_rfl) (by kernel_rfl) (fun _ _ _ h => h) (yieldsIf_load_mid (by kernel_rfl) 24 (.tmp 1) rfl w.heap.size 0 (by kernel_rfl) (Ck.cells c).toList _ (fun v hv => Blk.range' (hv.blk w.heap.size c (by simp))) Tryd.underlying24 rfl (by rw [Array.length_toList]; exact infoC' c)) s0.drew (by kernel_rfl) ?_
  refine wpAnyH_all (rs := [1]) (by kernel_rfl) (by simp) ?_
  intro i hi
  obtain rfl : i = 1 := by simpa using hi
  refine wpOp_contract (f := 5) rfl (by kernel_rfl) (by kernel_rfl) (VA.out _ (T.d.on s0.drew.2)) ⟨#[.agg c.cells, .pointer (some ⟨w.heap.size, 0, none⟩), .bool false, .agg (Ck.cells c), .bool V, .agg (Ck.cells c), undef, undef, undef, undef, undef, undef, undef, undef, undef, undef, undef, undef, undef, undef, undef, undef, undef, undef, undef, undef, undef], []⟩ (by kernel_rfl) ?_
  intro V1 hbq
  have s1 := s0.drew.on hbq
  clear hbq
  clear hi
  refine ⟨s1, ?_⟩
  refine wpAnyH_all (rs := [3]) (by kernel_rfl) (by simp) ?_
  intro i hi
  obtain rfl : i = 3 := by simpa using hi
  refine wpOp_contract (f := 6) rfl (by kernel_rfl) (by kernel_rfl) (RV.out _) ⟨#[.agg c.cells, .pointer (some ⟨w.heap.size, 0, none⟩), .bool false, .agg (Ck.cells c), .bool V, .agg (Ck.cells c), .bool V, undef, undef, undef, undef, undef, undef, undef, undef, undef, undef, undef, undef, undef, undef, undef, undef, undef, undef, undef, undef], []⟩ (by kernel_rfl) ?_
  intro V2 hbq
  have s2 := s1.on hbq
  clear hbq
  clear hi
  refine ⟨s2, ?_⟩
  refine takeH (i := 4) (v := .bool false) ⟨#[.agg c.cells, .pointer (some ⟨w.heap.size, 0, none⟩), .bool false, .agg (Ck.cells c), .bool V, .agg (Ck.cells c), .bool V, .bool false, undef, undef, undef, undef, undef, undef, undef, undef, undef, undef, undef, undef, undef, undef, undef, undef, undef, undef, undef], []⟩ rfl (by kernel_rfl) (by kernel_rfl) (by kernel_rfl) (fun _ _ _ h => h) (.inl ⟨by kernel_rfl, fun v _ => exec_nb (a := V) rfl (by kernel_rfl) (by kernel_rfl) Tryd.underlying4⟩) s2 (by kernel_rfl) ?_
  refine takeH (i := 5) (v := .bool false) ⟨#[.agg c.cells, .pointer (some ⟨w.heap.size, 0, none⟩), .bool false, .agg (Ck.cells c), .bool V, .agg (Ck.cells c), .bool V, .bool false, .bool false, undef, undef, undef, undef, undef, undef, undef, undef, undef, undef, undef, undef, undef, undef, undef, undef, undef, undef], []⟩ rfl (by kernel_rfl) (by kernel_rfl) (by kernel_rfl) (fun _ _ _ h => h) (.inl ⟨by kernel_rfl, fun _ _ => by kernel_rfl⟩) s2 (by kernel_rfl) ?_
  refine takeH (i := 6) (v := .agg (Ck.cells c).toList.toArray) ⟨#[.agg c.cells, .pointer (some ⟨w.heap.size, 0, none⟩), .bool false, .agg (Ck.cells c), .bool V, .agg (Ck.cells c), .bool V, .bool false, .bool false, .agg (Ck.cells c), undef, undef, undef, undef, undef, undef, undef, undef, undef, undef, undef, undef, undef, undef, undef, undef, undef], []⟩ rfl (by kernel_rfl) (by kernel_rfl) (by kernel_rfl) (fun _ _ _ h => h) (yieldsIf_load_mid (by kernel_rfl) 24 (.tmp 1) rfl w.heap.size 0 (by kernel_rfl) (Ck.cells c).toList _ (fun v hv => Blk.range' (hv.blk w.heap.size c (by simp))) Tryd.underlying24 rfl (by rw [Array.length_toList]; exact infoC' c)) s2 (by kernel_rfl) ?_
  refine takeH (i := 8) (v := .agg (Ck.cells c).toList.toArray) ⟨#[.agg c.cells, .pointer (some ⟨w.heap.size, 0, none⟩), .bool false, .agg (Ck.cells c), .bool V, .agg (Ck.cells c), .bool V, .bool false, .bool false, .agg (Ck.cells c), undef, .agg (Ck.cells c), undef, undef, undef, undef, undef, undef, undef, undef, undef, undef, undef, undef, undef, undef, undef], []⟩ rfl (by kernel_rfl) (by kernel_rfl) (by kernel_rfl) (fun _ _ _ h => h) (yieldsIf_load_mid (by kernel_rfl) 24 (.tmp 1) rfl w.heap.size 0 (by kernel_rfl) (Ck.cells c).toList _ (fun v hv => Blk.range' (hv.blk w.heap.size c (by simp))) Tryd.underlying24 rfl (by rw [Array.length_toList]; exact infoC' c)) s2 (by kernel_rfl) ?_
  refine wpAnyH_all (rs := [7]) (by kernel_rfl) (by simp) ?_
  intro i hi
  obtain rfl : i = 7 := by simpa using hi
  refine wpOp_contract (f := 7) rfl (by kernel_rfl) (by kernel_rfl) (IA.out _ (T.d.on s2.2)) ⟨#[.agg c.cells, .pointer (some ⟨w.heap.size, 0, none⟩), .bool false, .agg (Ck.cells c), .bool V, .agg (Ck.cells c), .bool V, .bool false, .bool false, .agg (Ck.cells c), .bool Q, .agg (Ck.cells c), undef, undef, undef, undef, undef, undef, undef, undef, undef, undef, undef, undef, undef, undef, undef], []⟩ (by kernel_rfl) ?_
  intro V3 hbq
  have s3 := s2.on hbq
  clear hbq
  clear hi
  refine ⟨s3, ?_⟩
  refine wpAnyH_all (rs := [9]) (by kernel_rfl) (by simp) ?_
  intro i hi
  obtain rfl : i = 9 := by simpa using hi
  refine wpOp_contract (f := 8) rfl (by kernel_rfl) (by kernel_rfl) (RI.out _) ⟨#[.agg c.cells, .pointer (some ⟨w.heap.size, 0, none⟩), .bool false, .agg (Ck.cells c), .bool V, .agg (Ck.cells c), .bool V, .bool false, .bool false, .agg (Ck.cells c), .bool Q, .agg (Ck.cells c), .bool Q, undef, undef, undef, undef, undef, undef, undef, undef, undef, undef, undef, undef, undef, undef], []⟩ (by kernel_rfl) ?_
  intro V4 hbq
  have s4 := s3.on hbq
  clear hbq
  clear hi
  refine ⟨s4, ?_⟩
  refine takeH (i := 10) (v := .bool false) ⟨#[.agg c.cells, .pointer (some ⟨w.heap.size, 0, none⟩), .bool false, .agg (Ck.cells c), .bool V, .agg (Ck.cells c), .bool V, .bool false, .bool false, .agg (Ck.cells c), .bool Q, .agg (Ck.cells c), .bool Q, .bool false, undef, undef, undef, undef, undef, undef, undef, undef, undef, undef, undef, undef, undef], []⟩ rfl (by kernel_rfl) (by kernel_rfl) (by kernel_rfl) (fun _ _ _ h => h) (.inl ⟨by kernel_rfl, fun v _ => exec_nb (a := Q) rfl (by kernel_rfl) (by kernel_rfl) Tryd.underlying4⟩) s4 (by kernel_rfl) ?_
  refine takeH (i := 11) (v := .bool false) ⟨#[.agg c.cells, .pointer (some ⟨w.heap.size, 0, none⟩), .bool false, .agg (Ck.cells c), .bool V, .agg (Ck.cells c), .bool V, .bool false, .bool false, .agg (Ck.cells c), .bool Q, .agg (Ck.cells c), .bool Q, .bool false, .bool false, undef, undef, undef, undef, undef, undef, undef, undef, undef, undef, undef, undef], []⟩ rfl (by kernel_rfl) (by kernel_rfl) (by kernel_rfl) (fun _ _ _ h => h) (.inl ⟨by kernel_rfl, fun _ _ => by kernel_rfl⟩) s4 (by kernel_rfl) ?_
  refine wpAnyH_done (by kernel_rfl) ?_ _
  go_wp2
  refine wp_region_held (S := St w [(w.heap.size, c)]) (by kernel_rfl) ?_
  refine takeH (i := 0) (v := .agg (Ck.cells c).toList.toArray) ⟨#[.agg c.cells, .pointer (some ⟨w.heap.size, 0, none⟩), .bool false, .agg (Ck.cells c), .bool V, .agg (Ck.cells c), .bool V, .bool false, .bool false, .agg (Ck.cells c), .bool Q, .agg (Ck.cells c), .bool Q, .bool false, .bool false, .agg (Ck.cells c), undef, undef, undef, undef, undef, undef, undef, undef, undef, undef, undef], []⟩ rfl (by kernel_rfl) (by kernel_rfl) (by kernel_rfl) (fun _ _ _ h => h) (yieldsIf_load_mid (by kernel_rfl) 24 (.tmp 1) rfl w.heap.size 0 (by kernel_rfl) (Ck.cells c).toList _ (fun v hv => Blk.range' (hv.blk w.heap.size c (by simp))) Tryd.underlying24 rfl (by rw [Array.length_toList]; exact infoC' c)) s4.drew (by kernel_rfl) ?_
  refine takeH (i := 2) (v := .agg (Ck.cells c).toList.toArray) ⟨#[.agg c.cells, .pointer (some ⟨w.heap.size, 0, none⟩), .bool false, .agg (Ck.cells c), .bool V, .agg (Ck.cells c), .bool V, .bool false, .bool false, .agg (Ck.cells c), .bool Q, .agg (Ck.cells c), .bool Q, .bool false, .bool false, .agg (Ck.cells c), undef, .agg (Ck.cells c), undef, undef, undef, undef, undef, undef, undef, undef, undef], []⟩ rfl (by kernel_rfl) (by kernel_rfl) (by kernel_rfl) (fun _ _ _ h => h) (yieldsIf_load_mid (by kernel_rfl) 24 (.tmp 1) rfl w.heap.size 0 (by kernel_rfl) (Ck.cells c).toList _ (fun v hv => Blk.range' (hv.blk w.heap.size c (by simp))) Tryd.underlying24 rfl (by rw [Array.length_toList]; exact infoC' c)) s4.drew (by kernel_rfl) ?_
  refine wpAnyH_all (rs := [1]) (by kernel_rfl) (by simp) ?_
  intro i hi
  obtain rfl : i = 1 := by simpa using hi
  refine wpOp_contract (f := 9) rfl (by kernel_rfl) (by kernel_rfl) (tick_any c _ o (T.on s4.drew.2)) ⟨#[.agg c.cells, .pointer (some ⟨w.heap.size, 0, none⟩), .bool false, .agg (Ck.cells c), .bool V, .agg (Ck.cells c), .bool V, .bool false, .bool false, .agg (Ck.cells c), .bool Q, .agg (Ck.cells c), .bool Q, .bool false, .bool false, .agg (Ck.cells c), .agg c.tick.cells, .agg (Ck.cells c), undef, undef, undef, undef, undef, undef, undef, undef, undef], []⟩ (by kernel_rfl) ?_
  intro V5 hbq
  have s5 := s4.drew.on hbq
  clear hbq
  clear hi
  refine ⟨s5, ?_⟩
  refine wpAnyH_all (rs := [3]) (by kernel_rfl) (by simp) ?_
  intro i hi
  obtain rfl : i = 3 := by simpa using hi
  refine wpOp_contract (f := 10) rfl (by kernel_rfl) (by kernel_rfl) (rtick_any c _ o) ⟨#[.agg c.cells, .pointer (some ⟨w.heap.size, 0, none⟩), .bool false, .agg (Ck.cells c), .bool V, .agg (Ck.cells c), .bool V, .bool false, .bool false, .agg (Ck.cells c), .bool Q, .agg (Ck.cells c), .bool Q, .bool false, .bool false, .agg (Ck.cells c), .agg c.tick.cells, .agg (Ck.cells c), .agg c.tick.cells, undef, undef, undef, undef, undef, undef, undef, undef], []⟩ (by kernel_rfl) ?_
  intro V6 hbq
  have s6 := s5.on hbq
  clear hbq
  clear hi
  refine ⟨s6, ?_⟩
  refine takeH (i := 4) (v := .bool true) ⟨#[.agg c.cells, .pointer (some ⟨w.heap.size, 0, none⟩), .bool false, .agg (Ck.cells c), .bool V, .agg (Ck.cells c), .bool V, .bool false, .bool false, .agg (Ck.cells c), .bool Q, .agg (Ck.cells c), .bool Q, .bool false, .bool false, .agg (Ck.cells c), .agg c.tick.cells, .agg (Ck.cells c), .agg c.tick.cells, .bool true, undef, undef, undef, undef, undef, undef, undef], []⟩ rfl (by kernel_rfl) (by kernel_rfl) (by kernel_rfl) (fun _ _ _ h => h) (.inl ⟨by kernel_rfl, fun v _ => exec_bin rfl (by kernel_rfl) (by kernel_rfl) (eql_yes v (rfl : c.tick = c.tick))⟩) s6 (by kernel_rfl) ?_
  refine takeH (i := 5) (v := .bool true) ⟨#[.agg c.cells, .pointer (some ⟨w.heap.size, 0, none⟩), .bool false, .agg (Ck.cells c), .bool V, .agg (Ck.cells c), .bool V, .bool false, .bool false, .agg (Ck.cells c), .bool Q, .agg (Ck.cells c), .bool Q, .bool false, .bool false, .agg (Ck.cells c), .agg c.tick.cells, .agg (Ck.cells c), .agg c.tick.cells, .bool true, .bool true, undef, undef, undef, undef, undef, undef], []⟩ rfl (by kernel_rfl) (by kernel_rfl) (by kernel_rfl) (fun _ _ _ h => h) (.inl ⟨by kernel_rfl, fun _ _ => by kernel_rfl⟩) s6 (by kernel_rfl) ?_
  refine takeH (i := 6) (v := .agg (Ck.cells c).toList.toArray) ⟨#[.agg c.cells, .pointer (some ⟨w.heap.size, 0, none⟩), .bool false, .agg (Ck.cells c), .bool V, .agg (Ck.cells c), .bool V, .bool false, .bool false, .agg (Ck.cells c), .bool Q, .agg (Ck.cells c), .bool Q, .bool false, .bool false, .agg (Ck.cells c), .agg c.tick.cells, .agg (Ck.cells c), .agg c.tick.cells, .bool true, .bool true, .agg (Ck.cells c), undef, undef, undef, undef, undef], []⟩ rfl (by kernel_rfl) (by kernel_rfl) (by kernel_rfl) (fun _ _ _ h => h) (yieldsIf_load_mid (by kernel_rfl) 24 (.tmp 1) rfl w.heap.size 0 (by kernel_rfl) (Ck.cells c).toList _ (fun v hv => Blk.range' (hv.blk w.heap.size c (by simp))) Tryd.underlying24 rfl (by rw [Array.length_toList]; exact infoC' c)) s6 (by kernel_rfl) ?_
  refine takeH (i := 8) (v := .agg (Ck.cells c).toList.toArray) ⟨#[.agg c.cells, .pointer (some ⟨w.heap.size, 0, none⟩), .bool false, .agg (Ck.cells c), .bool V, .agg (Ck.cells c), .bool V, .bool false, .bool false, .agg (Ck.cells c), .bool Q, .agg (Ck.cells c), .bool Q, .bool false, .bool false, .agg (Ck.cells c), .agg c.tick.cells, .agg (Ck.cells c), .agg c.tick.cells, .bool true, .bool true, .agg (Ck.cells c), undef, .agg (Ck.cells c), undef, undef, undef], []⟩ rfl (by kernel_rfl) (by kernel_rfl) (by kernel_rfl) (fun _ _ _ h => h) (yieldsIf_load_mid (by kernel_rfl) 24 (.tmp 1) rfl w.heap.size 0 (by kernel_rfl) (Ck.cells c).toList _ (fun v hv => Blk.range' (hv.blk w.heap.size c (by simp))) Tryd.underlying24 rfl (by rw [Array.length_toList]; exact infoC' c)) s6 (by kernel_rfl) ?_
  refine wpAnyH_all (rs := [7]) (by kernel_rfl) (by simp) ?_
  intro i hi
  obtain rfl : i = 7 := by simpa using hi
  refine wpOp_contract (f := 11) rfl (by kernel_rfl) (by kernel_rfl) (NA.out _ (T.on s6.2)) ⟨#[.agg c.cells, .pointer (some ⟨w.heap.size, 0, none⟩), .bool false, .agg (Ck.cells c), .bool V, .agg (Ck.cells c), .bool V, .bool false, .bool false, .agg (Ck.cells c), .bool Q, .agg (Ck.cells c), .bool Q, .bool false, .bool false, .agg (Ck.cells c), .agg c.tick.cells, .agg (Ck.cells c), .agg c.tick.cells, .bool true, .bool true, .agg (Ck.cells c), .int .i64 X, .agg (Ck.cells c), undef, undef, undef], []⟩ (by kernel_rfl) ?_
  intro V7 hbq
  have s7 := s6.on hbq
  clear hbq
  clear hi
  refine ⟨s7, ?_⟩
  refine wpAnyH_all (rs := [9]) (by kernel_rfl) (by simp) ?_
  intro i hi
  obtain rfl : i = 9 := by simpa using hi
  refine wpOp_contract (f := 12) rfl (by kernel_rfl) (by kernel_rfl) (RN.out _) ⟨#[.agg c.cells, .pointer (some ⟨w.heap.size, 0, none⟩), .bool false, .agg (Ck.cells c), .bool V, .agg (Ck.cells c), .bool V, .bool false, .bool false, .agg (Ck.cells c), .bool Q, .agg (Ck.cells c), .bool Q, .bool false, .bool false, .agg (Ck.cells c), .agg c.tick.cells, .agg (Ck.cells c), .agg c.tick.cells, .bool true, .bool true, .agg (Ck.cells c), .int .i64 X, .agg (Ck.cells c), .int .i64 X, undef, undef], []⟩ (by kernel_rfl) ?_
  intro V8 hbq
  have s8 := s7.on hbq
  clear hbq
  clear hi
  refine ⟨s8, ?_⟩
  refine takeH (i := 10) (v := .bool true) ⟨#[.agg c.cells, .pointer (some ⟨w.heap.size, 0, none⟩), .bool false, .agg (Ck.cells c), .bool V, .agg (Ck.cells c), .bool V, .bool false, .bool false, .agg (Ck.cells c), .bool Q, .agg (Ck.cells c), .bool Q, .bool false, .bool false, .agg (Ck.cells c), .agg c.tick.cells, .agg (Ck.cells c), .agg c.tick.cells, .bool true, .bool true, .agg (Ck.cells c), .int .i64 X, .agg (Ck.cells c), .int .i64 X, .bool true, undef], []⟩ rfl (by kernel_rfl) (by kernel_rfl) (by kernel_rfl) (fun _ _ _ h => h) (.inl ⟨by kernel_rfl, fun v _ => exec_ei (a := X) rfl (by kernel_rfl) (by kernel_rfl) Tryd.underlying3⟩) s8 (by kernel_rfl) ?_
  refine takeH (i := 11) (v := .bool true) ⟨#[.agg c.cells, .pointer (some ⟨w.heap.size, 0, none⟩), .bool false, .agg (Ck.cells c), .bool V, .agg (Ck.cells c), .bool V, .bool false, .bool false, .agg (Ck.cells c), .bool Q, .agg (Ck.cells c), .bool Q, .bool false, .bool false, .agg (Ck.cells c), .agg c.tick.cells, .agg (Ck.cells c), .agg c.tick.cells, .bool true, .bool true, .agg (Ck.cells c), .int .i64 X, .agg (Ck.cells c), .int .i64 X, .bool true, .bool true], []⟩ rfl (by kernel_rfl) (by kernel_rfl) (by kernel_rfl) (fun _ _ _ h => h) (.inl ⟨by kernel_rfl, fun _ _ => by kernel_rfl⟩) s8 (by kernel_rfl) ?_
  refine takeH (i := 12) (v := .bool true) ⟨#[.agg c.cells, .pointer (some ⟨w.heap.size, 0, none⟩), .bool true, .agg (Ck.cells c), .bool V, .agg (Ck.cells c), .bool V, .bool false, .bool false, .agg (Ck.cells c), .bool Q, .agg (Ck.cells c), .bool Q, .bool false, .bool false, .agg (Ck.cells c), .agg c.tick.cells, .agg (Ck.cells c), .agg c.tick.cells, .bool true, .bool true, .agg (Ck.cells c), .int .i64 X, .agg (Ck.cells c), .int .i64 X, .bool true, .bool true], []⟩ rfl (by kernel_rfl) (by kernel_rfl) (by kernel_rfl) (fun _ _ _ h => h) (.inl ⟨by kernel_rfl, fun _ _ => by kernel_rfl⟩) s8 (by kernel_rfl) ?_
  refine wpAnyH_done (by kernel_rfl) ?_ _
  go_wp2
  go_ret
  exact ⟨rfl, s8.2⟩
end Go.Proofs.YtjacadiaafcckacDoor
