/-
  The contract of Advance, its four ways; conditions: the numbers fit their kinds.
-/
import Derived.Test.YtlnpcbofebppcabQAdv0
set_option linter.unusedSimpArgs false
set_option linter.unusedVariables false
namespace Go.Proofs.Ytlnpcbofebppcab
open Go.RowKit Classical
set_option maxHeartbeats 2000000 in
theorem adv_true_near (r : Rs) (n : Int) (w : World) (o : r.Ok) (n0 : -9223372036854775808 ≤ n) (n1 : n ≤ 9223372036854775807) (hn : 1 ≤ n) (hv : r.valid = true) (hd : r.draw = true) (hR : n / 178683 - 1 ≤ 0) :
    Calls Try.prog 11 #[.agg r.cells, .int .i64 n] w fun e w' => e = .returned (.tuple #[.agg (r.adv n).cells, .int .i64 (r.advK n)]) ∧ Below w.heap.size w w' := by
  have rv := (Rs.valid_iff r).1 hv
  have hp := Rs.pp_bd rv
  have ep : r.pair = 178683 := by unfold Rs.pair; rw [hd]; rfl
  rw [ep] at hp
  obtain ⟨hp0, hp1⟩ := hp
  have hd0 : 1 ≤ (3 * n) := by omega
  have hd1 : (3 * n) ≤ 1072104 := by omega
  have p1 : r.adv n = r.mv (3 * n) := by
    have := Rs.adv_code rv n 0 hn (by omega) (by rw [ep]; omega)
    rw [ep] at this
    unfold Rs.adv
    rw [if_pos hv, ← this]
    rw [show 3 * (n - 0 * 178683) = 3 * n by omega]
  have p2 : r.advK n = cT (r.pp + (3 * n)) - cT r.pp := by
    have := Rs.advK_code rv hd n 0 hn
    unfold Rs.advK
    rw [if_pos hv, ← this]
    rw [show 3 * (n - 0 * 178683) = 3 * n by omega]
    omega
  have c0 := cT_bd r.pp hp0
  have c1 := cT_bd (r.pp + (3 * n)) (by omega)
  obtain ⟨c00, c01⟩ := c0
  obtain ⟨c10, c11⟩ := c1
  replace c01 : cT r.pp ≤ 200000 := by omega
  replace c11 : cT (r.pp + (3 * n)) ≤ 2000000 := by omega
  rw [p1, p2]
  clear p1 p2
  have hnb : decide (n < 1) = false := decide_eq_false (by omega)
  have V : Hid (∀ W : World, Calls Try.prog 26 #[.agg r.cells] W fun e w' => e = .returned (.bool true) ∧ Below W.heap.size W w') := fun W => by
    have := valid_any r W o
    rwa [hv] at this
  have PO : Hid (∀ W : World, Calls Try.prog 30 #[.agg r.cells] W fun e w' => e = .returned (.int .i64 178683) ∧ Below W.heap.size W w') := fun W => by
    have := pair_low r W
    rwa [ep] at this
  have PP : Hid _ := fun (W : World) => placeInPair_any r W rv
  have MV : Hid _ := fun (W : World) => moved_any r (3 * n) W rv hd0 (by omega)
  have C0 : Hid _ := fun (W : World) => clocksTo_low r.pp W hp0 (by omega)
  have C1 : Hid _ := fun (W : World) => clocksTo_low (r.pp + (3 * n)) W (by omega) (by omega)
  clear hv ep rv o
  generalize hm : r.mv (3 * n) = m at *
  generalize r.pp = pp at *
  generalize cT (pp + (3 * n)) = k1 at *
  generalize cT pp = k0 at *
  go_enter Try.func11, Try.ntmps11
  go_upto_region 1 with fail
  have A := At.start w r
  change Code.wp _ _ _ _ ((w.alloc (.cells r.cells 23)).alloc (.cells zeroR.cells 23))
  generalize (w.alloc (.cells r.cells 23)).alloc (.cells zeroR.cells 23) = W0 at *
  have fd : W0.cell? ⟨w.heap.size, 5, none⟩ = some (.bool r.draw) := A.blk.cell 5
  go_wp2_with (first
    | (refine wpList_load_blk rfl 23 _ rfl (w.heap.size) rfl (Rs.cells r) _ A.blk Try.underlying23 rfl (infoR' _) ?_)
    | (refine wpList_load_want (by rfl) 23 _ rfl (w.heap.size) rfl (Rs.cells r) _ A.blk Try.underlying23 rfl (infoR' _) ?_)
    | (go_at_call 26; refine (V.out _).mono ?_; rintro e Wx ⟨rfl, hbx⟩; replace fd := (hbx.cell (p := ⟨w.heap.size, 5, none⟩) A.blk.lt).trans fd; replace A := A.on hbx; clear hbx)
    | (go_at_call 30; refine (PO.out _).mono ?_; rintro e Wx ⟨rfl, hbx⟩; replace fd := (hbx.cell (p := ⟨w.heap.size, 5, none⟩) A.blk.lt).trans fd; replace A := A.on hbx; clear hbx)
    | (go_at_call 31; refine (PP.out _).mono ?_; rintro e Wx ⟨rfl, hbx⟩; replace A := A.on hbx; clear hbx)
    | (go_at_call_of 32 (Value.int .i64 pp); refine (C0.out _).mono ?_; rintro e Wx ⟨rfl, hbx⟩; replace A := A.on hbx; clear hbx)
    | (go_at_call 32; refine (C1.out _).mono ?_; rintro e Wx ⟨rfl, hbx⟩; replace A := A.on hbx; clear hbx)
    | (go_at_call 33; refine (MV.out _).mono ?_; rintro e Wx ⟨rfl, hbx⟩; replace A := A.on hbx; clear hbx)
    | (obtain ⟨rc, hr⟩ := A.res; refine wpList_store_blk rfl 23 _ _ rfl (w.heap.size + 1) rc.cells (Rs.cells m) 23 rfl rfl hr rfl (infoR' _) (Rs.cells_one _) w.heap.size w (by omega) A.bel ?_; intro W5 hr5 hb5 ho5))
  refine bodyPost_ret (v := .tuple #[.agg (Rs.cells m), .int .i64 (k1 - k0)]) (res_pair (b := w.heap.size + 1) (r := m) Try.results11 rfl rfl hr5) rfl ⟨by first | rfl | (subst hm; rfl), hb5⟩
set_option maxHeartbeats 2000000 in
theorem adv_true_far (r : Rs) (n : Int) (w : World) (o : r.Ok) (n0 : -9223372036854775808 ≤ n) (n1 : n ≤ 9223372036854775807) (hn : 1 ≤ n) (hv : r.valid = true) (hd : r.draw = true) (hR : 0 < n / 178683 - 1) :
    Calls Try.prog 11 #[.agg r.cells, .int .i64 n] w fun e w' => e = .returned (.tuple #[.agg (r.adv n).cells, .int .i64 (r.advK n)]) ∧ Below w.heap.size w w' := by
  have rv := (Rs.valid_iff r).1 hv
  have hp := Rs.pp_bd rv
  have ep : r.pair = 178683 := by unfold Rs.pair; rw [hd]; rfl
  rw [ep] at hp
  obtain ⟨hp0, hp1⟩ := hp
  have hd0 : 1 ≤ (3 * (n - (n / 178683 - 1) * 178683)) := by omega
  have hd1 : (3 * (n - (n / 178683 - 1) * 178683)) ≤ 1072104 := by omega
  have p1 : r.adv n = r.mv (3 * (n - (n / 178683 - 1) * 178683)) := by
    have := Rs.adv_code rv n (n / 178683 - 1) hn (by omega) (by rw [ep]; omega)
    rw [ep] at this
    unfold Rs.adv
    rw [if_pos hv, ← this]
  have p2 : r.advK n = (n / 178683 - 1) * 3 * 482 + cT (r.pp + (3 * (n - (n / 178683 - 1) * 178683))) - cT r.pp := by
    have := Rs.advK_code rv hd n (n / 178683 - 1) hn
    unfold Rs.advK
    rw [if_pos hv, ← this]
  have c0 := cT_bd r.pp hp0
  have c1 := cT_bd (r.pp + (3 * (n - (n / 178683 - 1) * 178683))) (by omega)
  obtain ⟨c00, c01⟩ := c0
  obtain ⟨c10, c11⟩ := c1
  replace c01 : cT r.pp ≤ 200000 := by omega
  replace c11 : cT (r.pp + (3 * (n - (n / 178683 - 1) * 178683))) ≤ 2000000 := by omega
  rw [p1, p2]
  clear p1 p2
  have hnb : decide (n < 1) = false := decide_eq_false (by omega)
  have V : Hid (∀ W : World, Calls Try.prog 26 #[.agg r.cells] W fun e w' => e = .returned (.bool true) ∧ Below W.heap.size W w') := fun W => by
    have := valid_any r W o
    rwa [hv] at this
  have PO : Hid (∀ W : World, Calls Try.prog 30 #[.agg r.cells] W fun e w' => e = .returned (.int .i64 178683) ∧ Below W.heap.size W w') := fun W => by
    have := pair_low r W
    rwa [ep] at this
  have PP : Hid _ := fun (W : World) => placeInPair_any r W rv
  have MV : Hid _ := fun (W : World) => moved_any r (3 * (n - (n / 178683 - 1) * 178683)) W rv hd0 (by omega)
  have C0 : Hid _ := fun (W : World) => clocksTo_low r.pp W hp0 (by omega)
  have C1 : Hid _ := fun (W : World) => clocksTo_low (r.pp + (3 * (n - (n / 178683 - 1) * 178683))) W (by omega) (by omega)
  clear hv ep rv o
  generalize hm : r.mv (3 * (n - (n / 178683 - 1) * 178683)) = m at *
  generalize r.pp = pp at *
  generalize cT (pp + (3 * (n - (n / 178683 - 1) * 178683))) = k1 at *
  generalize cT pp = k0 at *
  go_enter Try.func11, Try.ntmps11
  go_upto_region 1 with fail
  have A := At.start w r
  change Code.wp _ _ _ _ ((w.alloc (.cells r.cells 23)).alloc (.cells zeroR.cells 23))
  generalize (w.alloc (.cells r.cells 23)).alloc (.cells zeroR.cells 23) = W0 at *
  have fd : W0.cell? ⟨w.heap.size, 5, none⟩ = some (.bool r.draw) := A.blk.cell 5
  go_wp2_with (first
    | (refine wpList_load_blk rfl 23 _ rfl (w.heap.size) rfl (Rs.cells r) _ A.blk Try.underlying23 rfl (infoR' _) ?_)
    | (refine wpList_load_want (by rfl) 23 _ rfl (w.heap.size) rfl (Rs.cells r) _ A.blk Try.underlying23 rfl (infoR' _) ?_)
    | (go_at_call 26; refine (V.out _).mono ?_; rintro e Wx ⟨rfl, hbx⟩; replace fd := (hbx.cell (p := ⟨w.heap.size, 5, none⟩) A.blk.lt).trans fd; replace A := A.on hbx; clear hbx)
    | (go_at_call 30; refine (PO.out _).mono ?_; rintro e Wx ⟨rfl, hbx⟩; replace fd := (hbx.cell (p := ⟨w.heap.size, 5, none⟩) A.blk.lt).trans fd; replace A := A.on hbx; clear hbx)
    | (go_at_call 31; refine (PP.out _).mono ?_; rintro e Wx ⟨rfl, hbx⟩; replace A := A.on hbx; clear hbx)
    | (go_at_call_of 32 (Value.int .i64 pp); refine (C0.out _).mono ?_; rintro e Wx ⟨rfl, hbx⟩; replace A := A.on hbx; clear hbx)
    | (go_at_call 32; refine (C1.out _).mono ?_; rintro e Wx ⟨rfl, hbx⟩; replace A := A.on hbx; clear hbx)
    | (go_at_call 33; refine (MV.out _).mono ?_; rintro e Wx ⟨rfl, hbx⟩; replace A := A.on hbx; clear hbx)
    | (obtain ⟨rc, hr⟩ := A.res; refine wpList_store_blk rfl 23 _ _ rfl (w.heap.size + 1) rc.cells (Rs.cells m) 23 rfl rfl hr rfl (infoR' _) (Rs.cells_one _) w.heap.size w (by omega) A.bel ?_; intro W5 hr5 hb5 ho5))
  refine bodyPost_ret (v := .tuple #[.agg (Rs.cells m), .int .i64 ((n / 178683 - 1) * 3 * 482 + k1 - k0)]) (res_pair (b := w.heap.size + 1) (r := m) Try.results11 rfl rfl hr5) rfl ⟨by first | rfl | (subst hm; rfl), hb5⟩
set_option maxHeartbeats 2000000 in
theorem adv_false_near (r : Rs) (n : Int) (w : World) (o : r.Ok) (n0 : -9223372036854775808 ≤ n) (n1 : n ≤ 9223372036854775807) (hn : 1 ≤ n) (hv : r.valid = true) (hd : r.draw = false) (hR : n / 178684 - 1 ≤ 0) :
    Calls Try.prog 11 #[.agg r.cells, .int .i64 n] w fun e w' => e = .returned (.tuple #[.agg (r.adv n).cells, .int .i64 (r.advK n)]) ∧ Below w.heap.size w w' := by
  have rv := (Rs.valid_iff r).1 hv
  have hp := Rs.pp_bd rv
  have ep : r.pair = 178684 := by unfold Rs.pair; rw [hd]; rfl
  rw [ep] at hp
  obtain ⟨hp0, hp1⟩ := hp
  have hd0 : 1 ≤ (3 * n) := by omega
  have hd1 : (3 * n) ≤ 1072104 := by omega
  have p1 : r.adv n = r.mv (3 * n) := by
    have := Rs.adv_code rv n 0 hn (by omega) (by rw [ep]; omega)
    rw [ep] at this
    unfold Rs.adv
    rw [if_pos hv, ← this]
    rw [show 3 * (n - 0 * 178684) = 3 * n by omega]
  have p2 : r.advK n = 0 := by unfold Rs.advK; rw [if_pos hv]; exact Rs.ck_no hd _
  rw [p1, p2]
  clear p1 p2
  have hnb : decide (n < 1) = false := decide_eq_false (by omega)
  have V : Hid (∀ W : World, Calls Try.prog 26 #[.agg r.cells] W fun e w' => e = .returned (.bool true) ∧ Below W.heap.size W w') := fun W => by
    have := valid_any r W o
    rwa [hv] at this
  have PO : Hid (∀ W : World, Calls Try.prog 30 #[.agg r.cells] W fun e w' => e = .returned (.int .i64 178684) ∧ Below W.heap.size W w') := fun W => by
    have := pair_low r W
    rwa [ep] at this
  have PP : Hid _ := fun (W : World) => placeInPair_any r W rv
  have MV : Hid _ := fun (W : World) => moved_any r (3 * n) W rv hd0 (by omega)
  clear hv ep rv o
  generalize hm : r.mv (3 * n) = m at *
  generalize r.pp = pp at *
  go_enter Try.func11, Try.ntmps11
  go_upto_region 1 with fail
  have A := At.start w r
  change Code.wp _ _ _ _ ((w.alloc (.cells r.cells 23)).alloc (.cells zeroR.cells 23))
  generalize (w.alloc (.cells r.cells 23)).alloc (.cells zeroR.cells 23) = W0 at *
  have fd : W0.cell? ⟨w.heap.size, 5, none⟩ = some (.bool r.draw) := A.blk.cell 5
  go_wp2_with (first
    | (refine wpList_load_blk rfl 23 _ rfl (w.heap.size) rfl (Rs.cells r) _ A.blk Try.underlying23 rfl (infoR' _) ?_)
    | (refine wpList_load_want (by rfl) 23 _ rfl (w.heap.size) rfl (Rs.cells r) _ A.blk Try.underlying23 rfl (infoR' _) ?_)
    | (go_at_call 26; refine (V.out _).mono ?_; rintro e Wx ⟨rfl, hbx⟩; replace fd := (hbx.cell (p := ⟨w.heap.size, 5, none⟩) A.blk.lt).trans fd; replace A := A.on hbx; clear hbx)
    | (go_at_call 30; refine (PO.out _).mono ?_; rintro e Wx ⟨rfl, hbx⟩; replace fd := (hbx.cell (p := ⟨w.heap.size, 5, none⟩) A.blk.lt).trans fd; replace A := A.on hbx; clear hbx)
    | (go_at_call 31; refine (PP.out _).mono ?_; rintro e Wx ⟨rfl, hbx⟩; replace A := A.on hbx; clear hbx)
    | (go_at_call 33; refine (MV.out _).mono ?_; rintro e Wx ⟨rfl, hbx⟩; replace A := A.on hbx; clear hbx)
    | (obtain ⟨rc, hr⟩ := A.res; refine wpList_store_blk rfl 23 _ _ rfl (w.heap.size + 1) rc.cells (Rs.cells m) 23 rfl rfl hr rfl (infoR' _) (Rs.cells_one _) w.heap.size w (by omega) A.bel ?_; intro W5 hr5 hb5 ho5))
  refine bodyPost_ret (v := .tuple #[.agg (Rs.cells m), .int .i64 0]) (res_pair (b := w.heap.size + 1) (r := m) Try.results11 rfl rfl hr5) rfl ⟨by first | rfl | (subst hm; rfl), hb5⟩
set_option maxHeartbeats 2000000 in
theorem adv_false_far (r : Rs) (n : Int) (w : World) (o : r.Ok) (n0 : -9223372036854775808 ≤ n) (n1 : n ≤ 9223372036854775807) (hn : 1 ≤ n) (hv : r.valid = true) (hd : r.draw = false) (hR : 0 < n / 178684 - 1) :
    Calls Try.prog 11 #[.agg r.cells, .int .i64 n] w fun e w' => e = .returned (.tuple #[.agg (r.adv n).cells, .int .i64 (r.advK n)]) ∧ Below w.heap.size w w' := by
  have rv := (Rs.valid_iff r).1 hv
  have hp := Rs.pp_bd rv
  have ep : r.pair = 178684 := by unfold Rs.pair; rw [hd]; rfl
  rw [ep] at hp
  obtain ⟨hp0, hp1⟩ := hp
  have hd0 : 1 ≤ (3 * (n - (n / 178684 - 1) * 178684)) := by omega
  have hd1 : (3 * (n - (n / 178684 - 1) * 178684)) ≤ 1072104 := by omega
  have p1 : r.adv n = r.mv (3 * (n - (n / 178684 - 1) * 178684)) := by
    have := Rs.adv_code rv n (n / 178684 - 1) hn (by omega) (by rw [ep]; omega)
    rw [ep] at this
    unfold Rs.adv
    rw [if_pos hv, ← this]
  have p2 : r.advK n = 0 := by unfold Rs.advK; rw [if_pos hv]; exact Rs.ck_no hd _
  rw [p1, p2]
  clear p1 p2
  have hnb : decide (n < 1) = false := decide_eq_false (by omega)
  have V : Hid (∀ W : World, Calls Try.prog 26 #[.agg r.cells] W fun e w' => e = .returned (.bool true) ∧ Below W.heap.size W w') := fun W => by
    have := valid_any r W o
    rwa [hv] at this
  have PO : Hid (∀ W : World, Calls Try.prog 30 #[.agg r.cells] W fun e w' => e = .returned (.int .i64 178684) ∧ Below W.heap.size W w') := fun W => by
    have := pair_low r W
    rwa [ep] at this
  have PP : Hid _ := fun (W : World) => placeInPair_any r W rv
  have MV : Hid _ := fun (W : World) => moved_any r (3 * (n - (n / 178684 - 1) * 178684)) W rv hd0 (by omega)
  clear hv ep rv o
  generalize hm : r.mv (3 * (n - (n / 178684 - 1) * 178684)) = m at *
  generalize r.pp = pp at *
  go_enter Try.func11, Try.ntmps11
  go_upto_region 1 with fail
  have A := At.start w r
  change Code.wp _ _ _ _ ((w.alloc (.cells r.cells 23)).alloc (.cells zeroR.cells 23))
  generalize (w.alloc (.cells r.cells 23)).alloc (.cells zeroR.cells 23) = W0 at *
  have fd : W0.cell? ⟨w.heap.size, 5, none⟩ = some (.bool r.draw) := A.blk.cell 5
  go_wp2_with (first
    | (refine wpList_load_blk rfl 23 _ rfl (w.heap.size) rfl (Rs.cells r) _ A.blk Try.underlying23 rfl (infoR' _) ?_)
    | (refine wpList_load_want (by rfl) 23 _ rfl (w.heap.size) rfl (Rs.cells r) _ A.blk Try.underlying23 rfl (infoR' _) ?_)
    | (go_at_call 26; refine (V.out _).mono ?_; rintro e Wx ⟨rfl, hbx⟩; replace fd := (hbx.cell (p := ⟨w.heap.size, 5, none⟩) A.blk.lt).trans fd; replace A := A.on hbx; clear hbx)
    | (go_at_call 30; refine (PO.out _).mono ?_; rintro e Wx ⟨rfl, hbx⟩; replace fd := (hbx.cell (p := ⟨w.heap.size, 5, none⟩) A.blk.lt).trans fd; replace A := A.on hbx; clear hbx)
    | (go_at_call 31; refine (PP.out _).mono ?_; rintro e Wx ⟨rfl, hbx⟩; replace A := A.on hbx; clear hbx)
    | (go_at_call 33; refine (MV.out _).mono ?_; rintro e Wx ⟨rfl, hbx⟩; replace A := A.on hbx; clear hbx)
    | (obtain ⟨rc, hr⟩ := A.res; refine wpList_store_blk rfl 23 _ _ rfl (w.heap.size + 1) rc.cells (Rs.cells m) 23 rfl rfl hr rfl (infoR' _) (Rs.cells_one _) w.heap.size w (by omega) A.bel ?_; intro W5 hr5 hb5 ho5))
  refine bodyPost_ret (v := .tuple #[.agg (Rs.cells m), .int .i64 0]) (res_pair (b := w.heap.size + 1) (r := m) Try.results11 rfl rfl hr5) rfl ⟨by first | rfl | (subst hm; rfl), hb5⟩
end Go.Proofs.Ytlnpcbofebppcab
