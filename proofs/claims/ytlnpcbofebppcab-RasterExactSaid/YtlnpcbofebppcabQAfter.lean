/-
  The contract of After; conditions: the numbers fit their kinds.
-/
import Derived.Test.YtlnpcbofebppcabQSt2
import Derived.Test.YtlnpcbofebppcabQAdv0
import Derived.Test.YtlnpcbofebppcabQCyc
import Derived.Test.YtlnpcbofebppcabQMath5
set_option linter.unusedSimpArgs false
set_option linter.unusedVariables false
namespace Go.Proofs.Ytlnpcbofebppcab
open Go.RowKit Classical
set_option maxHeartbeats 2000000 in
theorem aft_false (r : Rs) (k : Int) (w : World) (o : r.Ok) (k0 : -9223372036854775808 ≤ k) (k1 : k ≤ 9223372036854775807) (hv : r.valid = false) :
    Calls Try.prog 16 #[.agg r.cells, .int .i64 k] w fun e w' => e = .returned (.int .i64 (r.aftV k)) ∧ Below w.heap.size w w' := by
  have V : Hid (∀ W : World, Calls Try.prog 26 #[.agg r.cells] W fun e w' => e = .returned (.bool false) ∧ Below W.heap.size W w') := fun W => by
    have := valid_any r W o
    rwa [hv] at this
  have p1 : r.aftV k = 0 := by unfold Rs.aftV; rw [hv]; rfl
  rw [p1]
  clear p1 hv
  go_enter Try.func16, Try.ntmps16
  go_upto_region 1 with fail
  have s0 : St w [(w.heap.size, r)] (w.alloc (.cells r.cells 23)) := St.start w r
  generalize w.alloc (.cells r.cells 23) = W0 at *
  go_wp2_with (first
    | (refine wpList_load_blk rfl 23 _ rfl w.heap.size rfl (Rs.cells r) _ (s0.blk w.heap.size r (by simp)) Try.underlying23 rfl (infoR' _) ?_)
    | (go_at_call 26; refine (V.out _).mono ?_; rintro e Wx ⟨rfl, hbx⟩; replace s0 := s0.on hbx; clear hbx))
  go_ret
  exact ⟨rfl, s0.2⟩
set_option maxHeartbeats 2000000 in
theorem aft_true (r : Rs) (k : Int) (w : World) (o : r.Ok) (k0 : -9223372036854775808 ≤ k) (k1 : k ≤ 9223372036854775807) (hv : r.valid = true) :
    Calls Try.prog 16 #[.agg r.cells, .int .i64 k] w fun e w' => e = .returned (.int .i64 (r.aftV k)) ∧ Below w.heap.size w w' := by
  have rv := (Rs.valid_iff r).1 hv
  have V : Hid (∀ W : World, Calls Try.prog 26 #[.agg r.cells] W fun e w' => e = .returned (.bool true) ∧ Below W.heap.size W w') := fun W => by
    have := valid_any r W o
    rwa [hv] at this
  have p1 : r.aftV k = if r.draw = true ∧ 1 ≤ k ∧ k ≤ 1099511627776 then r.af k else 4611686018427387904 := by unfold Rs.aftV; rw [hv]; rfl
  rw [p1]
  clear p1 hv
  cases hd : r.draw
  · rw [if_neg (by simp)]
    go_enter Try.func16, Try.ntmps16
    go_upto_region 1 with fail
    have s0 : St w [(w.heap.size, r)] (w.alloc (.cells r.cells 23)) := St.start w r
    generalize w.alloc (.cells r.cells 23) = W0 at *
    go_upto_region 3 with (first
      | (refine wpList_load_blk rfl 23 _ rfl w.heap.size rfl (Rs.cells r) _ (s0.blk w.heap.size r (by simp)) Try.underlying23 rfl (infoR' _) ?_)
      | (go_at_call 26; refine (V.out _).mono ?_; rintro e Wx ⟨rfl, hbx⟩; replace s0 := s0.on hbx; clear hbx))
    have f5 : _ = some (Value.bool r.draw) := (s0.blk w.heap.size r (by simp)).cell 5
    go_wp2_with (first
      | (refine wpList_load_blk rfl 23 _ rfl w.heap.size rfl (Rs.cells r) _ (s0.blk w.heap.size r (by simp)) Try.underlying23 rfl (infoR' _) ?_))
    go_ret
    exact ⟨rfl, s0.2⟩
  by_cases hk : k < 1
  · rw [if_neg (by omega)]
    go_enter Try.func16, Try.ntmps16
    go_upto_region 1 with fail
    have s0 : St w [(w.heap.size, r)] (w.alloc (.cells r.cells 23)) := St.start w r
    generalize w.alloc (.cells r.cells 23) = W0 at *
    go_upto_region 3 with (first
      | (refine wpList_load_blk rfl 23 _ rfl w.heap.size rfl (Rs.cells r) _ (s0.blk w.heap.size r (by simp)) Try.underlying23 rfl (infoR' _) ?_)
      | (go_at_call 26; refine (V.out _).mono ?_; rintro e Wx ⟨rfl, hbx⟩; replace s0 := s0.on hbx; clear hbx))
    have f5 : _ = some (Value.bool r.draw) := (s0.blk w.heap.size r (by simp)).cell 5
    go_wp2_with (first
      | (refine wpList_load_blk rfl 23 _ rfl w.heap.size rfl (Rs.cells r) _ (s0.blk w.heap.size r (by simp)) Try.underlying23 rfl (infoR' _) ?_))
    go_ret
    exact ⟨rfl, s0.2⟩
  have hkb : decide (k < 1) = false := decide_eq_false hk
  by_cases hk2 : 1099511627776 < k
  · rw [if_neg (by omega)]
    go_enter Try.func16, Try.ntmps16
    go_upto_region 1 with fail
    have s0 : St w [(w.heap.size, r)] (w.alloc (.cells r.cells 23)) := St.start w r
    generalize w.alloc (.cells r.cells 23) = W0 at *
    go_upto_region 3 with (first
      | (refine wpList_load_blk rfl 23 _ rfl w.heap.size rfl (Rs.cells r) _ (s0.blk w.heap.size r (by simp)) Try.underlying23 rfl (infoR' _) ?_)
      | (go_at_call 26; refine (V.out _).mono ?_; rintro e Wx ⟨rfl, hbx⟩; replace s0 := s0.on hbx; clear hbx))
    have f5 : _ = some (Value.bool r.draw) := (s0.blk w.heap.size r (by simp)).cell 5
    go_wp2_with (first
      | (refine wpList_load_blk rfl 23 _ rfl w.heap.size rfl (Rs.cells r) _ (s0.blk w.heap.size r (by simp)) Try.underlying23 rfl (infoR' _) ?_))
    go_ret
    exact ⟨rfl, s0.2⟩
  have hkc : decide (1099511627776 < k) = false := decide_eq_false hk2
  rw [if_pos ⟨rfl, by omega, by omega⟩]
  have g1 : 1 ≤ k := by omega
  have g2 : k ≤ 1099511627776 := by omega
  clear hk hk2
  have hp := Rs.pp_bd rv
  have hgt := Rs.cA_gt rv k g1
  have hcb := cT_bd r.pp hp.1
  have hub := cA_ub (cT r.pp + k) (by omega)
  have hpr : r.pair = 178683 := by unfold Rs.pair; rw [hd]; rfl
  rw [hpr] at hp
  have PP : Hid _ := fun (W : World) => placeInPair_any r W rv
  have CT : Hid _ := fun (W : World) => clocksTo_low r.pp W hp.1 (by omega)
  have CA : Hid _ := fun (W : World) => clockAt_any (cT r.pp + k) W (by omega) (by omega)
  clear rv hpr
  unfold Rs.af
  generalize r.pp = pp at *
  generalize cT pp = c at *
  generalize cA (c + k) = a at *
  obtain ⟨hp0, hp1⟩ := hp
  obtain ⟨hc0, hc1⟩ := hcb
  have hs0 : 0 ≤ a - pp := by omega
  have hs1 : a - pp ≤ 500000000000000 := by omega
  clear hub
  go_enter Try.func16, Try.ntmps16
  go_upto_region 1 with fail
  have s0 : St w [(w.heap.size, r)] (w.alloc (.cells r.cells 23)) := St.start w r
  generalize w.alloc (.cells r.cells 23) = W0 at *
  go_upto_region 3 with (first
    | (refine wpList_load_blk rfl 23 _ rfl w.heap.size rfl (Rs.cells r) _ (s0.blk w.heap.size r (by simp)) Try.underlying23 rfl (infoR' _) ?_)
    | (go_at_call 26; refine (V.out _).mono ?_; rintro e Wx ⟨rfl, hbx⟩; replace s0 := s0.on hbx; clear hbx))
  have f5 : _ = some (Value.bool r.draw) := (s0.blk w.heap.size r (by simp)).cell 5
  go_wp2_with (first
    | (refine wpList_load_blk rfl 23 _ rfl w.heap.size rfl (Rs.cells r) _ (s0.blk w.heap.size r (by simp)) Try.underlying23 rfl (infoR' _) ?_)
    | (go_at_call 31; refine (PP.out _).mono ?_; rintro e Wx ⟨rfl, hbx⟩; replace s0 := s0.on hbx; clear hbx)
    | (go_at_call 32; refine (CT.out _).mono ?_; rintro e Wx ⟨rfl, hbx⟩; replace s0 := s0.on hbx; clear hbx)
    | (go_at_call 36; refine (CA.out _).mono ?_; rintro e Wx ⟨rfl, hbx⟩; replace s0 := s0.on hbx; clear hbx)
    | (go_at_call 28; refine (cycles_any (a - pp) _ hs0 (by omega)).mono ?_; rintro e Wx ⟨rfl, hbx⟩; replace s0 := s0.on hbx; clear hbx))
  go_ret
  exact ⟨rfl, s0.2⟩
theorem aft_any (r : Rs) (k : Int) (w : World) (o : r.Ok) (k0 : -9223372036854775808 ≤ k) (k1 : k ≤ 9223372036854775807) :
    Calls Try.prog 16 #[.agg r.cells, .int .i64 k] w fun e w' => e = .returned (.int .i64 (r.aftV k)) ∧ Below w.heap.size w w' := by
  cases hv : r.valid
  · exact aft_false r k w o k0 k1 hv
  · exact aft_true r k w o k0 k1 hv
end Go.Proofs.Ytlnpcbofebppcab
