/-
  The contracts of the document's tick and Tick; conditions: the numbers fit their kinds.
-/
import Derived.Test.YtlnpcbofebppcabQSt
import Derived.Test.YtlnpcbofebppcabQRDot
import Derived.Test.YtlnpcbofebppcabQVr
import Derived.Test.YtlnpcbofebppcabQMath2
set_option linter.unusedSimpArgs false
set_option linter.unusedVariables false
namespace Go.Proofs.Ytlnpcbofebppcab
open Go.RowKit Classical
set_option maxHeartbeats 2000000 in
theorem rtick_any (r : Rs) (w : World) (rv : r.V) :
    Calls Try.prog 35 #[.agg r.cells] w fun e w' => e = .returned (.tuple #[.agg (r.dn 3).cells, .int .i64 (r.ck 3)]) ∧ Below w.heap.size w w' := by
  have v1 := Rs.dn_v rv 1
  have v2 := Rs.dn_v rv 2
  have D1 : Hid _ := fun (W : World) => rdot_any r W rv.l0 rv.l1 rv.d0 rv.d1
  have D2 : Hid _ := fun (W : World) => rdot_any (r.dn 1) W v1.l0 v1.l1 v1.d0 v1.d1
  have D3 : Hid _ := fun (W : World) => rdot_any (r.dn 2) W v2.l0 v2.l1 v2.d0 v2.d1
  have e1 : r.d1 = r.dn 1 := rfl
  have e2 : (r.dn 1).d1 = r.dn 2 := rfl
  have e3 : (r.dn 2).d1 = r.dn 3 := rfl
  rw [e1] at D1
  rw [e2] at D2
  rw [e3] at D3
  have E : Hid ((if (r.dn 1).clk = true then (1 : Int) else 0) + (if (r.dn 2).clk = true then 1 else 0) + (if (r.dn 3).clk = true then 1 else 0) = r.ck 3) := by
    show _ = 0 + (if (r.dn 1).clk = true then (1 : Int) else 0) + (if (r.dn 2).clk = true then 1 else 0) + (if (r.dn 3).clk = true then 1 else 0)
    omega
  have x1 : 0 ≤ (if (r.dn 1).clk = true then (1 : Int) else 0) ∧ (if (r.dn 1).clk = true then (1 : Int) else 0) ≤ 1 := by split <;> decide
  have x2 : 0 ≤ (if (r.dn 2).clk = true then (1 : Int) else 0) ∧ (if (r.dn 2).clk = true then (1 : Int) else 0) ≤ 1 := by split <;> decide
  have x3 : 0 ≤ (if (r.dn 3).clk = true then (1 : Int) else 0) ∧ (if (r.dn 3).clk = true then (1 : Int) else 0) ≤ 1 := by split <;> decide
  clear v1 v2 rv e1 e2 e3
  rw [← E.out]
  clear E
  generalize (if (r.dn 1).clk = true then (1 : Int) else 0) = k1 at *
  generalize (if (r.dn 2).clk = true then (1 : Int) else 0) = k2 at *
  generalize (if (r.dn 3).clk = true then (1 : Int) else 0) = k3 at *
  obtain ⟨x10, x11⟩ := x1
  obtain ⟨x20, x21⟩ := x2
  obtain ⟨x30, x31⟩ := x3
  generalize r.dn 1 = r1 at *
  generalize r.dn 2 = r2 at *
  generalize hr3 : r.dn 3 = r3 at *
  go_enter Try.func35, Try.ntmps35
  go_upto_region 1 with fail
  have A := At.start w r
  change Code.wp _ _ _ _ ((w.alloc (.cells r.cells 23)).alloc (.cells zeroR.cells 23))
  generalize (w.alloc (.cells r.cells 23)).alloc (.cells zeroR.cells 23) = W0 at *
  go_upto_region 2 with (first
    | (refine wpList_load_blk rfl 23 _ rfl (w.heap.size) rfl (Rs.cells r) _ A.blk Try.underlying23 rfl (infoR' _) ?_)
    | (go_at_call_of 41 (Value.agg r.cells); refine (D1.out _).mono ?_; rintro e Wx ⟨rfl, hbx⟩; replace A := A.on hbx; clear hbx)
    | (refine wpList_store_blk rfl 23 _ _ rfl w.heap.size _ (Rs.cells r1) 23 rfl rfl A.blk rfl (infoR' _) (Rs.cells_one _) w.heap.size w (Nat.le_refl _) A.bel ?_; intro Wy h1y h2y h3y; replace A := At.sto A h1y h2y h3y; clear h1y h2y h3y))
  go_upto_region 3 with (first
    | (refine wpList_load_blk rfl 23 _ rfl (w.heap.size) rfl (Rs.cells r1) _ A.blk Try.underlying23 rfl (infoR' _) ?_)
    | (go_at_call_of 41 (Value.agg r1.cells); refine (D2.out _).mono ?_; rintro e Wx ⟨rfl, hbx⟩; replace A := A.on hbx; clear hbx)
    | (refine wpList_store_blk rfl 23 _ _ rfl w.heap.size _ (Rs.cells r2) 23 rfl rfl A.blk rfl (infoR' _) (Rs.cells_one _) w.heap.size w (Nat.le_refl _) A.bel ?_; intro Wy h1y h2y h3y; replace A := At.sto A h1y h2y h3y; clear h1y h2y h3y))
  go_upto_region 4 with (first
    | (refine wpList_load_blk rfl 23 _ rfl (w.heap.size) rfl (Rs.cells r2) _ A.blk Try.underlying23 rfl (infoR' _) ?_)
    | (go_at_call_of 41 (Value.agg r2.cells); refine (D3.out _).mono ?_; rintro e Wx ⟨rfl, hbx⟩; replace A := A.on hbx; clear hbx)
    | (refine wpList_store_blk rfl 23 _ _ rfl w.heap.size _ (Rs.cells r3) 23 rfl rfl A.blk rfl (infoR' _) (Rs.cells_one _) w.heap.size w (Nat.le_refl _) A.bel ?_; intro Wy h1y h2y h3y; replace A := At.sto A h1y h2y h3y; clear h1y h2y h3y))
  go_wp2_with (first
    | (refine wpList_load_blk rfl 23 _ rfl (w.heap.size) rfl (Rs.cells r3) _ A.blk Try.underlying23 rfl (infoR' _) ?_)
    | (obtain ⟨rc, hr⟩ := A.res; refine wpList_store_blk rfl 23 _ _ rfl (w.heap.size + 1) rc.cells (Rs.cells r3) 23 rfl rfl hr rfl (infoR' _) (Rs.cells_one _) w.heap.size w (by omega) A.bel ?_; intro W5 hr5 hb5 ho5))
  refine bodyPost_ret (v := .tuple #[.agg (Rs.cells r3), .int .i64 (k1 + k2 + k3)]) (res_pair (b := w.heap.size + 1) (r := r3) Try.results35 rfl rfl hr5) rfl ⟨by first | rfl | (subst hr3; rfl) | (subst hk3; rfl) | (subst hr3 hk3; rfl), hb5⟩
set_option maxHeartbeats 2000000 in
theorem rtickV_false (r : Rs) (w : World) (o : r.Ok) (hv : r.valid = false) :
    Calls Try.prog 25 #[.agg r.cells] w fun e w' => e = .returned (.tuple #[.agg (r.adv 1).cells, .int .i64 (r.advK 1)]) ∧ Below w.heap.size w w' := by
  have V : Hid (∀ W : World, Calls Try.prog 34 #[.agg r.cells] W fun e w' => e = .returned (.bool false) ∧ Below W.heap.size W w') := fun W => by
    have := rvalid_any r W o
    rwa [hv] at this
  have p1 : r.adv 1 = r := by unfold Rs.adv; rw [hv]; rfl
  have p2 : r.advK 1 = 0 := by unfold Rs.advK; rw [hv]; rfl
  rw [p1, p2]
  clear p1 p2 hv
  go_enter Try.func25, Try.ntmps25
  go_upto_region 1 with fail
  have A := At.start w r
  change Code.wp _ _ _ _ ((w.alloc (.cells r.cells 23)).alloc (.cells zeroR.cells 23))
  generalize (w.alloc (.cells r.cells 23)).alloc (.cells zeroR.cells 23) = W0 at *
  go_wp2_with (first
    | (refine wpList_load_blk rfl 23 _ rfl (w.heap.size) rfl (Rs.cells r) _ A.blk Try.underlying23 rfl (infoR' _) ?_)
    | (go_at_call 34; refine (V.out _).mono ?_; rintro e Wx ⟨rfl, hbx⟩; replace A := A.on hbx; clear hbx)
    | (obtain ⟨rc, hr⟩ := A.res; refine wpList_store_blk rfl 23 _ _ rfl (w.heap.size + 1) rc.cells (Rs.cells r) 23 rfl rfl hr rfl (infoR' _) (Rs.cells_one _) w.heap.size w (by omega) A.bel ?_; intro W5 hr5 hb5 ho5))
  refine bodyPost_ret (v := .tuple #[.agg (Rs.cells r), .int .i64 0]) (res_pair (b := w.heap.size + 1) (r := r) Try.results25 rfl rfl hr5) rfl ⟨rfl, hb5⟩
set_option maxHeartbeats 2000000 in
theorem rtickV_true (r : Rs) (w : World) (o : r.Ok) (hv : r.valid = true) :
    Calls Try.prog 25 #[.agg r.cells] w fun e w' => e = .returned (.tuple #[.agg (r.adv 1).cells, .int .i64 (r.advK 1)]) ∧ Below w.heap.size w w' := by
  have rv := (Rs.valid_iff r).1 hv
  have V : Hid (∀ W : World, Calls Try.prog 34 #[.agg r.cells] W fun e w' => e = .returned (.bool true) ∧ Below W.heap.size W w') := fun W => by
    have := rvalid_any r W o
    rwa [hv] at this
  have p1 : r.adv 1 = r.dn 3 := by unfold Rs.adv; rw [hv]; rfl
  have p2 : r.advK 1 = r.ck 3 := by unfold Rs.advK; rw [hv]; rfl
  rw [p1, p2]
  clear p1 p2 hv
  have D : Hid _ := fun (W : World) => rtick_any r W rv
  clear rv
  generalize r.ck 3 = k3 at *
  generalize hr3 : r.dn 3 = r3 at *
  go_enter Try.func25, Try.ntmps25
  go_upto_region 1 with fail
  have A := At.start w r
  change Code.wp _ _ _ _ ((w.alloc (.cells r.cells 23)).alloc (.cells zeroR.cells 23))
  generalize (w.alloc (.cells r.cells 23)).alloc (.cells zeroR.cells 23) = W0 at *
  go_wp2_with (first
    | (refine wpList_load_blk rfl 23 _ rfl (w.heap.size) rfl (Rs.cells r) _ A.blk Try.underlying23 rfl (infoR' _) ?_)
    | (go_at_call 34; refine (V.out _).mono ?_; rintro e Wx ⟨rfl, hbx⟩; replace A := A.on hbx; clear hbx)
    | (go_at_call 35; refine (D.out _).mono ?_; rintro e Wx ⟨rfl, hbx⟩; replace A := A.on hbx; clear hbx)
    | (obtain ⟨rc, hr⟩ := A.res; refine wpList_store_blk rfl 23 _ _ rfl (w.heap.size + 1) rc.cells (Rs.cells r3) 23 rfl rfl hr rfl (infoR' _) (Rs.cells_one _) w.heap.size w (by omega) A.bel ?_; intro W5 hr5 hb5 ho5))
  refine bodyPost_ret (v := .tuple #[.agg (Rs.cells r3), .int .i64 k3]) (res_pair (b := w.heap.size + 1) (r := r3) Try.results25 rfl rfl hr5) rfl ⟨by first | rfl | (subst hr3; rfl) | (subst hk3; rfl) | (subst hr3 hk3; rfl), hb5⟩
theorem rtickV_any (r : Rs) (w : World) (o : r.Ok) :
    Calls Try.prog 25 #[.agg r.cells] w fun e w' => e = .returned (.tuple #[.agg (r.adv 1).cells, .int .i64 (r.advK 1)]) ∧ Below w.heap.size w w' := by
  cases hv : r.valid
  · exact rtickV_false r w o hv
  · exact rtickV_true r w o hv
end Go.Proofs.Ytlnpcbofebppcab
