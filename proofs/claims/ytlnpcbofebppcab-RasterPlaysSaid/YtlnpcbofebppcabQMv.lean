/-
  The contract of moved; conditions: the raster is valid, the number of dots is from 1 to 2^62.
-/
import Derived.Test.YtlnpcbofebppcabQPl
set_option linter.unusedSimpArgs false
set_option linter.unusedVariables false
namespace Go.Proofs.Ytlnpcbofebppcab
open Go.RowKit Classical
set_option maxHeartbeats 2000000 in
theorem moved_any (r : Rs) (n : Int) (w : World) (v : r.V) (n0 : 1 ≤ n) (n1 : n ≤ 4611686018427387904) :
    Calls Try.prog 33 #[.agg r.cells, .int .i64 n] w fun e w' => e = .returned (.agg (r.mv n).cells) ∧ Below w.heap.size w w' := by
  have hp := Rs.pp_bd v
  have hq : r.pair = 178683 ∨ r.pair = 178684 := by unfold Rs.pair; split <;> simp
  have E1 : Hid _ := fun (_ : True) => i64_in (r.pp + n) (by omega)
  go_enter Try.func33, Try.ntmps33
  go_upto_region 1 with fail
  have A0 := At.start w r
  have s0 : St w [(w.heap.size, r), (w.heap.size + 1, zeroR)] ((w.alloc (.cells r.cells 23)).alloc (.cells zeroR.cells 23)) :=
    ⟨fun p hp => by
      simp only [List.mem_cons, List.not_mem_nil, or_false] at hp
      rcases hp with rfl | rfl
      · exact A0.blk
      · have := Blk.new (w.alloc (.cells r.cells 23)) zeroR.cells 23; rwa [World.size_alloc] at this, A0.bel⟩
  change Code.wp _ _ _ _ ((w.alloc (.cells r.cells 23)).alloc (.cells zeroR.cells 23))
  clear A0
  generalize (w.alloc (.cells r.cells 23)).alloc (.cells zeroR.cells 23) = W0 at *
  refine wp_region_held (S := St w [(w.heap.size, r), (w.heap.size + 1, zeroR)]) (by kernel_rfl) ?_
  refine takeH (i := 2) (v := .int .i64 n) ⟨#[.agg r.cells, .int .i64 n, .pointer (some ⟨w.heap.size, 0, none⟩), undef, .pointer (some ⟨w.heap.size + 1, 0, none⟩), undef, undef, undef, undef, undef, .int .i64 n, undef, undef, undef, undef, undef, undef, undef, undef, undef, undef, undef, undef, undef, undef, undef, undef, undef, undef, undef, undef, undef, undef, undef, undef, undef, undef, undef, undef, undef, undef, undef, undef, undef, undef, undef], []⟩ rfl (by kernel_rfl) (by kernel_rfl) (by kernel_rfl) (fun _ _ _ h => h) (.inl ⟨by kernel_rfl, fun _ _ => by kernel_rfl⟩) s0.drew (by kernel_rfl) ?_
  refine takeH (i := 0) (v := .agg (Rs.cells r).toList.toArray) ⟨#[.agg r.cells, .int .i64 n, .pointer (some ⟨w.heap.size, 0, none⟩), undef, .pointer (some ⟨w.heap.size + 1, 0, none⟩), undef, undef, undef, .agg (Rs.cells r), undef, .int .i64 n, undef, undef, undef, undef, undef, undef, undef, undef, undef, undef, undef, undef, undef, undef, undef, undef, undef, undef, undef, undef, undef, undef, undef, undef, undef, undef, undef, undef, undef, undef, undef, undef, undef, undef, undef], []⟩ rfl (by kernel_rfl) (by kernel_rfl) (by kernel_rfl) (fun _ _ _ h => h) (yieldsIf_load_mid (by kernel_rfl) 23 (.tmp 2) rfl w.heap.size 0 (by kernel_rfl) (Rs.cells r).toList _ (fun v hv => Blk.range' (hv.blk w.heap.size r (by simp))) Try.underlying23 rfl (by rw [Array.length_toList]; exact infoR' r)) s0.drew (by kernel_rfl) ?_
  refine takeH (i := 4) (v := .agg (Rs.cells r).toList.toArray) ⟨#[.agg r.cells, .int .i64 n, .pointer (some ⟨w.heap.size, 0, none⟩), undef, .pointer (some ⟨w.heap.size + 1, 0, none⟩), undef, undef, undef, .agg (Rs.cells r), undef, .int .i64 n, undef, .agg (Rs.cells r), undef, undef, undef, undef, undef, undef, undef, undef, undef, undef, undef, undef, undef, undef, undef, undef, undef, undef, undef, undef, undef, undef, undef, undef, undef, undef, undef, undef, undef, undef, undef, undef, undef], []⟩ rfl (by kernel_rfl) (by kernel_rfl) (by kernel_rfl) (fun _ _ _ h => h) (yieldsIf_load_mid (by kernel_rfl) 23 (.tmp 2) rfl w.heap.size 0 (by kernel_rfl) (Rs.cells r).toList _ (fun v hv => Blk.range' (hv.blk w.heap.size r (by simp))) Try.underlying23 rfl (by rw [Array.length_toList]; exact infoR' r)) s0.drew (by kernel_rfl) ?_
  refine wpAnyH_all (rs := [1]) (by kernel_rfl) (by simp) ?_
  intro i hi
  obtain rfl : i = 1 := by simpa using hi
  refine wpOp_contract (f := 31) rfl (by kernel_rfl) (by kernel_rfl) (placeInPair_any r _ v) ⟨#[.agg r.cells, .int .i64 n, .pointer (some ⟨w.heap.size, 0, none⟩), undef, .pointer (some ⟨w.heap.size + 1, 0, none⟩), undef, undef, undef, .agg (Rs.cells r), .int .i64 r.pp, .int .i64 n, undef, .agg (Rs.cells r), undef, undef, undef, undef, undef, undef, undef, undef, undef, undef, undef, undef, undef, undef, undef, undef, undef, undef, undef, undef, undef, undef, undef, undef, undef, undef, undef, undef, undef, undef, undef, undef, undef], []⟩ (by kernel_rfl) ?_
  intro V1 hbq
  have s1 := s0.drew.on hbq
  clear hbq
  clear hi
  refine ⟨s1, ?_⟩
  refine takeH (i := 3) (v := .int .i64 (r.pp + n)) ⟨#[.agg r.cells, .int .i64 n, .pointer (some ⟨w.heap.size, 0, none⟩), undef, .pointer (some ⟨w.heap.size + 1, 0, none⟩), undef, undef, undef, .agg (Rs.cells r), .int .i64 r.pp, .int .i64 n, .int .i64 (r.pp + n), .agg (Rs.cells r), undef, undef, undef, undef, undef, undef, undef, undef, undef, undef, undef, undef, undef, undef, undef, undef, undef, undef, undef, undef, undef, undef, undef, undef, undef, undef, undef, undef, undef, undef, undef, undef, undef], []⟩ rfl (by kernel_rfl) (by kernel_rfl) (by kernel_rfl) (fun _ _ _ h => h) (.inl ⟨by kernel_rfl, fun v _ => Eq.trans (b := .ok (.value (.int .i64 (IntKind.i64.wrap (r.pp + n)))) v) (by kernel_rfl) (by rw [E1.out trivial])⟩) s1 (by kernel_rfl) ?_
  refine wpAnyH_all (rs := [5]) (by kernel_rfl) (by simp) ?_
  intro i hi
  obtain rfl : i = 5 := by simpa using hi
  refine wpOp_contract (f := 30) rfl (by kernel_rfl) (by kernel_rfl) (pair_low r _) ⟨#[.agg r.cells, .int .i64 n, .pointer (some ⟨w.heap.size, 0, none⟩), undef, .pointer (some ⟨w.heap.size + 1, 0, none⟩), undef, undef, undef, .agg (Rs.cells r), .int .i64 r.pp, .int .i64 n, .int .i64 (r.pp + n), .agg (Rs.cells r), .int .i64 r.pair, undef, undef, undef, undef, undef, undef, undef, undef, undef, undef, undef, undef, undef, undef, undef, undef, undef, undef, undef, undef, undef, undef, undef, undef, undef, undef, undef, undef, undef, undef, undef, undef], []⟩ (by kernel_rfl) ?_
  intro V2 hbq
  have s2 := s1.on hbq
  clear hbq
  clear hi
  refine ⟨s2, ?_⟩
  refine takeH (i := 6) (v := .int .i64 (r.at_ n)) ⟨#[.agg r.cells, .int .i64 n, .pointer (some ⟨w.heap.size, 0, none⟩), undef, .pointer (some ⟨w.heap.size + 1, 0, none⟩), undef, undef, undef, .agg (Rs.cells r), .int .i64 r.pp, .int .i64 n, .int .i64 (r.pp + n), .agg (Rs.cells r), .int .i64 r.pair, .int .i64 (r.at_ n), undef, undef, undef, undef, undef, undef, undef, undef, undef, undef, undef, undef, undef, undef, undef, undef, undef, undef, undef, undef, undef, undef, undef, undef, undef, undef, undef, undef, undef, undef, undef], []⟩ rfl (by kernel_rfl) (by kernel_rfl) (by kernel_rfl) (fun _ _ _ h => h) (.inl ⟨by kernel_rfl, fun v _ => (exec_rem (a := r.pp + n) (b := r.pair) rfl (by kernel_rfl) (by kernel_rfl) Try.underlying3 (by omega) (by omega) (by omega) (by omega)).trans rfl⟩) s2 (by kernel_rfl) ?_
  refine takeH (i := 7) (v := .int .i64 (r.at_ n)) ⟨#[.agg r.cells, .int .i64 n, .pointer (some ⟨w.heap.size, 0, none⟩), undef, .pointer (some ⟨w.heap.size + 1, 0, none⟩), .int .i64 (r.at_ n), undef, undef, .agg (Rs.cells r), .int .i64 r.pp, .int .i64 n, .int .i64 (r.pp + n), .agg (Rs.cells r), .int .i64 r.pair, .int .i64 (r.at_ n), undef, undef, undef, undef, undef, undef, undef, undef, undef, undef, undef, undef, undef, undef, undef, undef, undef, undef, undef, undef, undef, undef, undef, undef, undef, undef, undef, undef, undef, undef, undef], []⟩ rfl (by kernel_rfl) (by kernel_rfl) (by kernel_rfl) (fun _ _ _ h => h) (.inl ⟨by kernel_rfl, fun _ _ => by kernel_rfl⟩) s2 (by kernel_rfl) ?_
  refine wpAnyH_done (by kernel_rfl) ?_ _
  have A : At w V2 w.heap.size r := ⟨s2.blk w.heap.size r (by simp), Nat.le_refl _, s2.2, zeroR, s2.blk (w.heap.size + 1) zeroR (by simp)⟩
  clear s0 s1 s2 E1
  have hb := Rs.at_bd r n
  have hM : Hid (r.mv n = ⟨r.at_ n % 89342 / 341, r.at_ n % 89342 % 341, decide (89342 ≤ r.at_ n), (inB (r.at_ n % 89342)) && (r.vbl || decide ((if r.hold = true then 2 else 1) ≤ n - (r.at_ n % 89342 - 82182))), r.nmi, r.draw, false⟩) := rfl
  generalize r.at_ n = a at *
  have ha0 : 0 ≤ a := hb.1
  have ha1 : a ≤ 178683 := by omega
  clear hb hq hp v
  dsimp only
  generalize Value.agg r.cells = u0 at *
  generalize Value.int .i64 (r.pp + n) = u11 at *
  generalize Value.int .i64 r.pp = u9 at *
  generalize Value.int .i64 r.pair = u13 at *
  obtain ⟨line, dot, odd, vbl, nmi, draw, hold⟩ := r
  simp only at hM
  obtain ⟨f0, f1, f2, f3, f4, f5, f6, ff⟩ := A.facts
  simp only at f0 f1 f2 f3 f4 f5 f6
  have A' : Hid _ := A
  clear A
  go_upto_region 5 with fail
  have e341 : a % 89342 % 341 = a % 341 := by omega
  rw [e341] at hM
  clear e341
  have A2 := ((A'.out.set (c' := ⟨line, dot, decide (89342 ≤ a), vbl, nmi, draw, hold⟩) 2 (.bool (decide (89342 ≤ a))) rfl).set (c' := ⟨a % 89342 / 341, dot, decide (89342 ≤ a), vbl, nmi, draw, hold⟩) 0 (.int .i64 (a % 89342 / 341)) rfl).set (c' := ⟨a % 89342 / 341, a % 341, decide (89342 ≤ a), vbl, nmi, draw, hold⟩) 1 (.int .i64 (a % 341)) rfl
  clear A' f0 f1 f2 f3 f4 f5 f6 ff
  generalize (((V2.setCell ⟨w.heap.size, 2, none⟩ (.bool (decide (89342 ≤ a)))).setCell ⟨w.heap.size, 0, none⟩ (.int .i64 (a % 89342 / 341))).setCell ⟨w.heap.size, 1, none⟩ (.int .i64 (a % 341))) = W1 at *
  obtain ⟨f0, f1, f2, f3, f4, f5, f6, ff⟩ := A2.facts
  simp only at f0 f1 f2 f3 f4 f5 f6
  have hb0 : 0 ≤ a % 89342 := by omega
  have hb1 : a % 89342 < 89342 := by omega
  generalize a % 341 = d at *
  generalize decide (89342 ≤ a) = od at *
  have hg : (if hold = true then (2 : Int) else 1) = (if hold then 2 else 1) := rfl
  generalize a % 89342 = b at *
  generalize b / 341 = l at *
  clear hg
  have A3 : Hid _ := A2
  clear A2
  have hI : Hid _ := fun (W : World) => inBlank_any b W
  generalize inB b = ib at *
  cases hold
  · cases ib <;> cases vbl
    · simp only [if_true, if_false, reduceCtorEq, Bool.false_and, Bool.true_and, Bool.false_or, Bool.true_or] at hM
      go_upto_region 10 with (go_at_call 39; refine (hI.out _).mono ?_; rintro e w1 ⟨rfl, rfl⟩)
      have A4 := (A3.out.set (c' := ⟨l, d, od, false, nmi, draw, false⟩) 3 (.bool false) rfl).set (c' := ⟨l, d, od, false, nmi, draw, false⟩) 6 (.bool false) rfl
      clear A3 f0 f1 f2 f3 f4 f5 f6 ff
      rw [← hM.out] at A4
      generalize World.setCell (World.setCell _ _ _) _ _ = W2 at *
      clear hM
      generalize hme : Rs.mv _ n = m at *
      go_wp2_with (first
        | (refine wpList_load_blk rfl 23 _ rfl w.heap.size rfl m.cells _ A4.blk Try.underlying23 rfl (infoR' _) ?_)
        | (obtain ⟨rc, hr⟩ := A4.res; refine wpList_store_blk rfl 23 _ _ rfl (w.heap.size + 1) rc.cells m.cells 23 rfl rfl hr rfl (infoR' _) (Rs.cells_one _) w.heap.size w (by omega) A4.bel ?_; intro W5 hr5 hb5 ho5))
      refine bodyPost_ret (v := .agg m.cells) (res_rs (b := w.heap.size + 1) Try.results33 rfl hr5) rfl ⟨by rw [hme], hb5⟩
    · simp only [if_true, if_false, reduceCtorEq, Bool.false_and, Bool.true_and, Bool.false_or, Bool.true_or] at hM
      go_upto_region 10 with (go_at_call 39; refine (hI.out _).mono ?_; rintro e w1 ⟨rfl, rfl⟩)
      have A4 := (A3.out.set (c' := ⟨l, d, od, false, nmi, draw, false⟩) 3 (.bool false) rfl).set (c' := ⟨l, d, od, false, nmi, draw, false⟩) 6 (.bool false) rfl
      clear A3 f0 f1 f2 f3 f4 f5 f6 ff
      rw [← hM.out] at A4
      generalize World.setCell (World.setCell _ _ _) _ _ = W2 at *
      clear hM
      generalize hme : Rs.mv _ n = m at *
      go_wp2_with (first
        | (refine wpList_load_blk rfl 23 _ rfl w.heap.size rfl m.cells _ A4.blk Try.underlying23 rfl (infoR' _) ?_)
        | (obtain ⟨rc, hr⟩ := A4.res; refine wpList_store_blk rfl 23 _ _ rfl (w.heap.size + 1) rc.cells m.cells 23 rfl rfl hr rfl (infoR' _) (Rs.cells_one _) w.heap.size w (by omega) A4.bel ?_; intro W5 hr5 hb5 ho5))
      refine bodyPost_ret (v := .agg m.cells) (res_rs (b := w.heap.size + 1) Try.results33 rfl hr5) rfl ⟨by rw [hme], hb5⟩
    · simp only [if_true, if_false, reduceCtorEq, Bool.false_and, Bool.true_and, Bool.false_or, Bool.true_or] at hM
      go_upto_region 10 with (go_at_call 39; refine (hI.out _).mono ?_; rintro e w1 ⟨rfl, rfl⟩)
      have A4 := (A3.out.set (c' := ⟨l, d, od, (decide (1 ≤ n - (b - 82182))), nmi, draw, false⟩) 3 (.bool (decide (1 ≤ n - (b - 82182)))) rfl).set (c' := ⟨l, d, od, (decide (1 ≤ n - (b - 82182))), nmi, draw, false⟩) 6 (.bool false) rfl
      clear A3 f0 f1 f2 f3 f4 f5 f6 ff
      rw [← hM.out] at A4
      generalize World.setCell (World.setCell _ _ _) _ _ = W2 at *
      clear hM
      generalize hme : Rs.mv _ n = m at *
      go_wp2_with (first
        | (refine wpList_load_blk rfl 23 _ rfl w.heap.size rfl m.cells _ A4.blk Try.underlying23 rfl (infoR' _) ?_)
        | (obtain ⟨rc, hr⟩ := A4.res; refine wpList_store_blk rfl 23 _ _ rfl (w.heap.size + 1) rc.cells m.cells 23 rfl rfl hr rfl (infoR' _) (Rs.cells_one _) w.heap.size w (by omega) A4.bel ?_; intro W5 hr5 hb5 ho5))
      refine bodyPost_ret (v := .agg m.cells) (res_rs (b := w.heap.size + 1) Try.results33 rfl hr5) rfl ⟨by rw [hme], hb5⟩
    · simp only [if_true, if_false, reduceCtorEq, Bool.false_and, Bool.true_and, Bool.false_or, Bool.true_or] at hM
      go_upto_region 10 with (go_at_call 39; refine (hI.out _).mono ?_; rintro e w1 ⟨rfl, rfl⟩)
      have A4 := (A3.out.set (c' := ⟨l, d, od, true, nmi, draw, false⟩) 3 (.bool true) rfl).set (c' := ⟨l, d, od, true, nmi, draw, false⟩) 6 (.bool false) rfl
      clear A3 f0 f1 f2 f3 f4 f5 f6 ff
      rw [← hM.out] at A4
      generalize World.setCell (World.setCell _ _ _) _ _ = W2 at *
      clear hM
      generalize hme : Rs.mv _ n = m at *
      go_wp2_with (first
        | (refine wpList_load_blk rfl 23 _ rfl w.heap.size rfl m.cells _ A4.blk Try.underlying23 rfl (infoR' _) ?_)
        | (obtain ⟨rc, hr⟩ := A4.res; refine wpList_store_blk rfl 23 _ _ rfl (w.heap.size + 1) rc.cells m.cells 23 rfl rfl hr rfl (infoR' _) (Rs.cells_one _) w.heap.size w (by omega) A4.bel ?_; intro W5 hr5 hb5 ho5))
      refine bodyPost_ret (v := .agg m.cells) (res_rs (b := w.heap.size + 1) Try.results33 rfl hr5) rfl ⟨by rw [hme], hb5⟩
  · cases ib <;> cases vbl
    · simp only [if_true, if_false, reduceCtorEq, Bool.false_and, Bool.true_and, Bool.false_or, Bool.true_or] at hM
      go_upto_region 10 with (go_at_call 39; refine (hI.out _).mono ?_; rintro e w1 ⟨rfl, rfl⟩)
      have A4 := (A3.out.set (c' := ⟨l, d, od, false, nmi, draw, true⟩) 3 (.bool false) rfl).set (c' := ⟨l, d, od, false, nmi, draw, false⟩) 6 (.bool false) rfl
      clear A3 f0 f1 f2 f3 f4 f5 f6 ff
      rw [← hM.out] at A4
      generalize World.setCell (World.setCell _ _ _) _ _ = W2 at *
      clear hM
      generalize hme : Rs.mv _ n = m at *
      go_wp2_with (first
        | (refine wpList_load_blk rfl 23 _ rfl w.heap.size rfl m.cells _ A4.blk Try.underlying23 rfl (infoR' _) ?_)
        | (obtain ⟨rc, hr⟩ := A4.res; refine wpList_store_blk rfl 23 _ _ rfl (w.heap.size + 1) rc.cells m.cells 23 rfl rfl hr rfl (infoR' _) (Rs.cells_one _) w.heap.size w (by omega) A4.bel ?_; intro W5 hr5 hb5 ho5))
      refine bodyPost_ret (v := .agg m.cells) (res_rs (b := w.heap.size + 1) Try.results33 rfl hr5) rfl ⟨by rw [hme], hb5⟩
    · simp only [if_true, if_false, reduceCtorEq, Bool.false_and, Bool.true_and, Bool.false_or, Bool.true_or] at hM
      go_upto_region 10 with (go_at_call 39; refine (hI.out _).mono ?_; rintro e w1 ⟨rfl, rfl⟩)
      have A4 := (A3.out.set (c' := ⟨l, d, od, false, nmi, draw, true⟩) 3 (.bool false) rfl).set (c' := ⟨l, d, od, false, nmi, draw, false⟩) 6 (.bool false) rfl
      clear A3 f0 f1 f2 f3 f4 f5 f6 ff
      rw [← hM.out] at A4
      generalize World.setCell (World.setCell _ _ _) _ _ = W2 at *
      clear hM
      generalize hme : Rs.mv _ n = m at *
      go_wp2_with (first
        | (refine wpList_load_blk rfl 23 _ rfl w.heap.size rfl m.cells _ A4.blk Try.underlying23 rfl (infoR' _) ?_)
        | (obtain ⟨rc, hr⟩ := A4.res; refine wpList_store_blk rfl 23 _ _ rfl (w.heap.size + 1) rc.cells m.cells 23 rfl rfl hr rfl (infoR' _) (Rs.cells_one _) w.heap.size w (by omega) A4.bel ?_; intro W5 hr5 hb5 ho5))
      refine bodyPost_ret (v := .agg m.cells) (res_rs (b := w.heap.size + 1) Try.results33 rfl hr5) rfl ⟨by rw [hme], hb5⟩
    · simp only [if_true, if_false, reduceCtorEq, Bool.false_and, Bool.true_and, Bool.false_or, Bool.true_or] at hM
      go_upto_region 10 with (go_at_call 39; refine (hI.out _).mono ?_; rintro e w1 ⟨rfl, rfl⟩)
      have A4 := (A3.out.set (c' := ⟨l, d, od, (decide (2 ≤ n - (b - 82182))), nmi, draw, true⟩) 3 (.bool (decide (2 ≤ n - (b - 82182)))) rfl).set (c' := ⟨l, d, od, (decide (2 ≤ n - (b - 82182))), nmi, draw, false⟩) 6 (.bool false) rfl
      clear A3 f0 f1 f2 f3 f4 f5 f6 ff
      rw [← hM.out] at A4
      generalize World.setCell (World.setCell _ _ _) _ _ = W2 at *
      clear hM
      generalize hme : Rs.mv _ n = m at *
      go_wp2_with (first
        | (refine wpList_load_blk rfl 23 _ rfl w.heap.size rfl m.cells _ A4.blk Try.underlying23 rfl (infoR' _) ?_)
        | (obtain ⟨rc, hr⟩ := A4.res; refine wpList_store_blk rfl 23 _ _ rfl (w.heap.size + 1) rc.cells m.cells 23 rfl rfl hr rfl (infoR' _) (Rs.cells_one _) w.heap.size w (by omega) A4.bel ?_; intro W5 hr5 hb5 ho5))
      refine bodyPost_ret (v := .agg m.cells) (res_rs (b := w.heap.size + 1) Try.results33 rfl hr5) rfl ⟨by rw [hme], hb5⟩
    · simp only [if_true, if_false, reduceCtorEq, Bool.false_and, Bool.true_and, Bool.false_or, Bool.true_or] at hM
      go_upto_region 10 with (go_at_call 39; refine (hI.out _).mono ?_; rintro e w1 ⟨rfl, rfl⟩)
      have A4 := (A3.out.set (c' := ⟨l, d, od, true, nmi, draw, true⟩) 3 (.bool true) rfl).set (c' := ⟨l, d, od, true, nmi, draw, false⟩) 6 (.bool false) rfl
      clear A3 f0 f1 f2 f3 f4 f5 f6 ff
      rw [← hM.out] at A4
      generalize World.setCell (World.setCell _ _ _) _ _ = W2 at *
      clear hM
      generalize hme : Rs.mv _ n = m at *
      go_wp2_with (first
        | (refine wpList_load_blk rfl 23 _ rfl w.heap.size rfl m.cells _ A4.blk Try.underlying23 rfl (infoR' _) ?_)
        | (obtain ⟨rc, hr⟩ := A4.res; refine wpList_store_blk rfl 23 _ _ rfl (w.heap.size + 1) rc.cells m.cells 23 rfl rfl hr rfl (infoR' _) (Rs.cells_one _) w.heap.size w (by omega) A4.bel ?_; intro W5 hr5 hb5 ho5))
      refine bodyPost_ret (v := .agg m.cells) (res_rs (b := w.heap.size + 1) Try.results33 rfl hr5) rfl ⟨by rw [hme], hb5⟩
end Go.Proofs.Ytlnpcbofebppcab
