/-
  The contracts of placeOf and placeInPair; conditions: the raster is valid.
-/
import Derived.Test.YtlnpcbofebppcabQSt
import Derived.Test.YtlnpcbofebppcabQPlace
set_option linter.unusedSimpArgs false
set_option linter.unusedVariables false
namespace Go.Proofs.Ytlnpcbofebppcab
open Go.RowKit Classical
theorem length_low (r : Rs) (w : World) : Calls Try.prog 29 #[.agg r.cells] w fun e w' => e = .returned (.int .i64 r.len) ∧ Below w.heap.size w w' :=
  (length_any r w).mono fun e w' ⟨he, hw⟩ => ⟨he, by subst hw; exact below_new _⟩
theorem pair_low (r : Rs) (w : World) : Calls Try.prog 30 #[.agg r.cells] w fun e w' => e = .returned (.int .i64 r.pair) ∧ Below w.heap.size w w' :=
  (pairOf_any r w).mono fun e w' ⟨he, hw⟩ => ⟨he, by subst hw; exact below_new _⟩
theorem run_min (x y : Int) (w : World) (f : Operand → Value) (o : Oper) (a b : Operand) (tys : Array TypeId) (ho : o.op = .call { callee := .builtin .min, args := #[a, b], argTypes := tys }) (ha : f a = .int .i64 x) (hb : f b = .int .i64 y) : (execOp f o).run Try.prog w = .ok (.value (.int .i64 (min x y))) w := by
  obtain ⟨dst, op, ty, pos, after, guard⟩ := o
  simp only at ho
  subst ho
  go_simp
  split <;> omega
theorem run_max (x y : Int) (w : World) (f : Operand → Value) (o : Oper) (a b : Operand) (tys : Array TypeId) (ho : o.op = .call { callee := .builtin .max, args := #[a, b], argTypes := tys }) (ha : f a = .int .i64 x) (hb : f b = .int .i64 y) : (execOp f o).run Try.prog w = .ok (.value (.int .i64 (max x y))) w := by
  obtain ⟨dst, op, ty, pos, after, guard⟩ := o
  simp only at ho
  subst ho
  go_simp
  split <;> omega
set_option maxHeartbeats 2000000 in
theorem placeOf_any (r : Rs) (w : World) (v : r.V) :
    Calls Try.prog 27 #[.agg r.cells] w fun e w' => e = .returned (.int .i64 r.pl) ∧ Below w.heap.size w w' := by
  have hl : r.len = 89341 ∨ r.len = 89342 := by unfold Rs.len; split <;> simp
  have E1 : Hid _ := fun (_ : True) => i64_in (r.line * 341) (by obtain ⟨h1, h2, h3, h4, -, -⟩ := v; omega)
  have E2 : Hid _ := fun (_ : True) => i64_in (r.line * 341 + r.dot) (by obtain ⟨h1, h2, h3, h4, -, -⟩ := v; omega)
  have E3 : Hid _ := fun (_ : True) => i64_in (r.len - 1) (by omega)
  go_enter Try.func27, Try.ntmps27
  go_upto_region 1 with fail
  have s0 : St w [(w.heap.size, r)] (w.alloc (.cells r.cells 23)) := St.start w r
  generalize w.alloc (.cells r.cells 23) = W0 at *
  refine wp_region_held (S := St w [(w.heap.size, r)]) (by kernel_rfl) ?_
  refine takeH (i := 0) (v := .pointer (some ⟨w.heap.size, 0, none⟩)) ⟨#[.agg r.cells, .pointer (some ⟨w.heap.size, 0, none⟩), .int .i64 0, .pointer (some ⟨w.heap.size, 0, none⟩), undef, undef, undef, undef, undef, undef, undef, undef, undef], []⟩ rfl (by kernel_rfl) (by kernel_rfl) (by kernel_rfl) (fun _ _ _ h => h) (.inl ⟨by kernel_rfl, fun _ _ => by kernel_rfl⟩) s0.drew (by kernel_rfl) ?_
  refine takeH (i := 1) (v := .int .i64 (r).line) ⟨#[.agg r.cells, .pointer (some ⟨w.heap.size, 0, none⟩), .int .i64 0, .pointer (some ⟨w.heap.size, 0, none⟩), .int .i64 (r).line, undef, undef, undef, undef, undef, undef, undef, undef], []⟩ rfl (by kernel_rfl) (by kernel_rfl) (by kernel_rfl) (fun _ _ _ h => h) (.inl ⟨by kernel_rfl, fun v hv => by have c : v.cell? ⟨w.heap.size, 0, none⟩ = some (.int .i64 (r).line) := (hv.blk w.heap.size r (by simp)).cell 0; go_simp⟩) s0.drew (by kernel_rfl) ?_
  refine takeH (i := 2) (v := .int .i64 (r.line * 341)) ⟨#[.agg r.cells, .pointer (some ⟨w.heap.size, 0, none⟩), .int .i64 0, .pointer (some ⟨w.heap.size, 0, none⟩), .int .i64 (r).line, .int .i64 (r.line * 341), undef, undef, undef, undef, undef, undef, undef], []⟩ rfl (by kernel_rfl) (by kernel_rfl) (by kernel_rfl) (fun _ _ _ h => h) (.inl ⟨by kernel_rfl, fun v _ => Eq.trans (b := .ok (.value (.int .i64 (IntKind.i64.wrap (r.line * 341)))) v) (by kernel_rfl) (by rw [E1.out trivial])⟩) s0.drew (by kernel_rfl) ?_
  refine takeH (i := 3) (v := .pointer (some ⟨w.heap.size, 1, none⟩)) ⟨#[.agg r.cells, .pointer (some ⟨w.heap.size, 0, none⟩), .int .i64 0, .pointer (some ⟨w.heap.size, 0, none⟩), .int .i64 (r).line, .int .i64 (r.line * 341), .pointer (some ⟨w.heap.size, 1, none⟩), undef, undef, undef, undef, undef, undef], []⟩ rfl (by kernel_rfl) (by kernel_rfl) (by kernel_rfl) (fun _ _ _ h => h) (.inl ⟨by kernel_rfl, fun _ _ => by kernel_rfl⟩) s0.drew (by kernel_rfl) ?_
  refine takeH (i := 4) (v := .int .i64 (r).dot) ⟨#[.agg r.cells, .pointer (some ⟨w.heap.size, 0, none⟩), .int .i64 0, .pointer (some ⟨w.heap.size, 0, none⟩), .int .i64 (r).line, .int .i64 (r.line * 341), .pointer (some ⟨w.heap.size, 1, none⟩), .int .i64 (r).dot, undef, undef, undef, undef, undef], []⟩ rfl (by kernel_rfl) (by kernel_rfl) (by kernel_rfl) (fun _ _ _ h => h) (.inl ⟨by kernel_rfl, fun v hv => by have c : v.cell? ⟨w.heap.size, 1, none⟩ = some (.int .i64 (r).dot) := (hv.blk w.heap.size r (by simp)).cell 1; go_simp⟩) s0.drew (by kernel_rfl) ?_
  refine takeH (i := 5) (v := .int .i64 (r.line * 341 + r.dot)) ⟨#[.agg r.cells, .pointer (some ⟨w.heap.size, 0, none⟩), .int .i64 0, .pointer (some ⟨w.heap.size, 0, none⟩), .int .i64 (r).line, .int .i64 (r.line * 341), .pointer (some ⟨w.heap.size, 1, none⟩), .int .i64 (r).dot, .int .i64 (r.line * 341 + r.dot), undef, undef, undef, undef], []⟩ rfl (by kernel_rfl) (by kernel_rfl) (by kernel_rfl) (fun _ _ _ h => h) (.inl ⟨by kernel_rfl, fun v _ => Eq.trans (b := .ok (.value (.int .i64 (IntKind.i64.wrap (r.line * 341 + r.dot)))) v) (by kernel_rfl) (by rw [E2.out trivial])⟩) s0.drew (by kernel_rfl) ?_
  refine takeH (i := 6) (v := .agg (Rs.cells r).toList.toArray) ⟨#[.agg r.cells, .pointer (some ⟨w.heap.size, 0, none⟩), .int .i64 0, .pointer (some ⟨w.heap.size, 0, none⟩), .int .i64 (r).line, .int .i64 (r.line * 341), .pointer (some ⟨w.heap.size, 1, none⟩), .int .i64 (r).dot, .int .i64 (r.line * 341 + r.dot), .agg (Rs.cells r), undef, undef, undef], []⟩ rfl (by kernel_rfl) (by kernel_rfl) (by kernel_rfl) (fun _ _ _ h => h) (yieldsIf_load_mid (by kernel_rfl) 23 (.tmp 1) rfl w.heap.size 0 (by kernel_rfl) (Rs.cells r).toList _ (fun v hv => Blk.range' (hv.blk w.heap.size r (by simp))) Try.underlying23 rfl (by rw [Array.length_toList]; exact infoR' r)) s0.drew (by kernel_rfl) ?_
  refine wpAnyH_all (rs := [7]) (by kernel_rfl) (by simp) ?_
  intro i hi
  obtain rfl : i = 7 := by simpa using hi
  refine wpOp_contract (f := 29) rfl (by kernel_rfl) (by kernel_rfl) (length_low r _) ⟨#[.agg r.cells, .pointer (some ⟨w.heap.size, 0, none⟩), .int .i64 0, .pointer (some ⟨w.heap.size, 0, none⟩), .int .i64 (r).line, .int .i64 (r.line * 341), .pointer (some ⟨w.heap.size, 1, none⟩), .int .i64 (r).dot, .int .i64 (r.line * 341 + r.dot), .agg (Rs.cells r), .int .i64 r.len, undef, undef], []⟩ (by kernel_rfl) ?_
  intro V1 hbq
  have s1 := s0.drew.on hbq
  clear hbq
  clear hi
  refine ⟨s1, ?_⟩
  refine takeH (i := 8) (v := .int .i64 (r.len - 1)) ⟨#[.agg r.cells, .pointer (some ⟨w.heap.size, 0, none⟩), .int .i64 0, .pointer (some ⟨w.heap.size, 0, none⟩), .int .i64 (r).line, .int .i64 (r.line * 341), .pointer (some ⟨w.heap.size, 1, none⟩), .int .i64 (r).dot, .int .i64 (r.line * 341 + r.dot), .agg (Rs.cells r), .int .i64 r.len, .int .i64 (r.len - 1), undef], []⟩ rfl (by kernel_rfl) (by kernel_rfl) (by kernel_rfl) (fun _ _ _ h => h) (.inl ⟨by kernel_rfl, fun v _ => Eq.trans (b := .ok (.value (.int .i64 (IntKind.i64.wrap (r.len - 1)))) v) (by kernel_rfl) (by rw [E3.out trivial])⟩) s1 (by kernel_rfl) ?_
  refine wpAnyH_all (rs := [9]) (by kernel_rfl) (by simp) ?_
  intro i hi
  obtain rfl : i = 9 := by simpa using hi
  refine wpOp_run (v := .int .i64 r.pl) rfl (by kernel_rfl) (run_min (r.line * 341 + r.dot) (r.len - 1) _ _ _ _ _ _ rfl (by kernel_rfl) (by kernel_rfl)) ⟨#[.agg r.cells, .pointer (some ⟨w.heap.size, 0, none⟩), .int .i64 0, .pointer (some ⟨w.heap.size, 0, none⟩), .int .i64 (r).line, .int .i64 (r.line * 341), .pointer (some ⟨w.heap.size, 1, none⟩), .int .i64 (r).dot, .int .i64 (r.line * 341 + r.dot), .agg (Rs.cells r), .int .i64 r.len, .int .i64 (r.len - 1), .int .i64 r.pl], []⟩ (by kernel_rfl) ?_
  clear hi
  refine ⟨s1, ?_⟩
  refine takeH (i := 10) (v := .int .i64 r.pl) ⟨#[.agg r.cells, .pointer (some ⟨w.heap.size, 0, none⟩), .int .i64 r.pl, .pointer (some ⟨w.heap.size, 0, none⟩), .int .i64 (r).line, .int .i64 (r.line * 341), .pointer (some ⟨w.heap.size, 1, none⟩), .int .i64 (r).dot, .int .i64 (r.line * 341 + r.dot), .agg (Rs.cells r), .int .i64 r.len, .int .i64 (r.len - 1), .int .i64 r.pl], []⟩ rfl (by kernel_rfl) (by kernel_rfl) (by kernel_rfl) (fun _ _ _ h => h) (.inl ⟨by kernel_rfl, fun _ _ => by kernel_rfl⟩) s1 (by kernel_rfl) ?_
  refine wpAnyH_done (by kernel_rfl) ?_ _
  go_wp2
  go_ret
  exact ⟨rfl, s1.2⟩
set_option maxHeartbeats 2000000 in
theorem placeInPair_any (r : Rs) (w : World) (v : r.V) :
    Calls Try.prog 31 #[.agg r.cells] w fun e w' => e = .returned (.int .i64 r.pp) ∧ Below w.heap.size w w' := by
  have hp := Rs.pl_bd v
  have C : Hid _ := fun (W : World) => placeOf_any r W v
  have hl : r.len = 89341 ∨ r.len = 89342 := by unfold Rs.len; split <;> simp
  have hp0 : 0 ≤ r.pl := hp.1
  have hp1 : r.pl ≤ 89341 := by omega
  clear hl hp v
  unfold Rs.pp
  cases ho : r.odd
  all_goals
    simp only [if_true, if_false, reduceCtorEq]
    go_enter Try.func31, Try.ntmps31
    go_upto_region 1 with fail
    have s0 : St w [(w.heap.size, r)] (w.alloc (.cells r.cells 23)) := St.start w r
    generalize w.alloc (.cells r.cells 23) = W0 at *
    have h2 : W0.cell? ⟨w.heap.size, 2, none⟩ = some (.bool r.odd) := (s0.blk w.heap.size r (by simp)).cell 2
    go_wp2_with (first
      | (refine wpList_load_blk rfl 23 _ rfl w.heap.size rfl (Rs.cells r) _ (s0.blk w.heap.size r (by simp)) Try.underlying23 rfl (infoR' _) ?_)
      | (go_at_call 27; refine (C.out _).mono ?_; rintro e Wx ⟨rfl, hbx⟩; replace s0 := s0.on hbx; clear hbx))
    go_ret
    exact ⟨rfl, s0.2⟩
end Go.Proofs.Ytlnpcbofebppcab
