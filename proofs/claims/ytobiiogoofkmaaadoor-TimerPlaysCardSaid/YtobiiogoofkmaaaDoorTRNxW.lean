/-
  The document's Next; conditions: the numbers fit their kinds.
  The document's Next, all ways; conditions: the numbers fit their kinds.
-/
import Derived.Test.YtobiiogoofkmaaaDoorTRIrq
import Derived.Test.YtobiiogoofkmaaaDoorTRAsks
import Derived.Test.YtobiiogoofkmaaaDoorTToRun
import Derived.Test.YtobiiogoofkmaaaDoorTNext
set_option linter.unusedSimpArgs false
set_option linter.unusedVariables false
namespace Go.Proofs.YtobiiogoofkmaaaDoor
open Go.RowKit Classical
theorem run_le' (c : Ck) (o : c.Ok) : c.run ≤ 16777216 := by
  have := run_bd c o; have := o.pre; unfold Ck.run; omega
set_option maxHeartbeats 1000000 in
theorem rnext_no (c : Ck) (w : World) (o : c.Ok) (hv : c.valid = false) :
    Calls Tryd.prog 16 #[.agg c.cells] w fun e w' => e = .returned (.int .i64 (4611686018427387904)) ∧ Below w.heap.size w w' := by
  have V : Hid _ := fun W => rvalid_any c W o
  rw [hv] at V
  go_enter Tryd.func16, Tryd.ntmps16
  go_upto_region 1 with fail
  have s0 : St w [(w.heap.size, c)] (w.alloc (.cells c.cells 24)) := St.start w c
  generalize w.alloc (.cells c.cells 24) = W0 at *
  go_wp2_with (first
    | (refine wpList_load_blk rfl 24 _ rfl w.heap.size rfl (Ck.cells c) _ (s0.blk w.heap.size c (by simp)) Tryd.underlying24 rfl (infoC' _) ?_)
    | (go_at_call 28; refine (V.out _).mono ?_; rintro e Wx ⟨rfl, hbx⟩; replace s0 := s0.on hbx; clear hbx))
  go_ret
  exact ⟨rfl, s0.2⟩
set_option maxHeartbeats 1000000 in
theorem rnext_now (c : Ck) (w : World) (o : c.Ok) (hv : c.valid = true) (hi : c.irq = true) :
    Calls Tryd.prog 16 #[.agg c.cells] w fun e w' => e = .returned (.int .i64 (0)) ∧ Below w.heap.size w w' := by
  have V : Hid _ := fun W => rvalid_any c W o
  rw [hv] at V
  have IH : Hid _ := fun W => rirq_any c W o
  rw [hi] at IH
  go_enter Tryd.func16, Tryd.ntmps16
  go_upto_region 1 with fail
  have s0 : St w [(w.heap.size, c)] (w.alloc (.cells c.cells 24)) := St.start w c
  generalize w.alloc (.cells c.cells 24) = W0 at *
  go_wp2_with (first
    | (refine wpList_load_blk rfl 24 _ rfl w.heap.size rfl (Ck.cells c) _ (s0.blk w.heap.size c (by simp)) Tryd.underlying24 rfl (infoC' _) ?_)
    | (go_at_call 28; refine (V.out _).mono ?_; rintro e Wx ⟨rfl, hbx⟩; replace s0 := s0.on hbx; clear hbx)
    | (go_at_call 15; refine (IH.out _).mono ?_; rintro e Wx ⟨rfl, hbx⟩; replace s0 := s0.on hbx; clear hbx))
  go_ret
  exact ⟨rfl, s0.2⟩
set_option maxHeartbeats 1000000 in
theorem rnext_t5 (c : Ck) (w : World) (o : c.Ok) (hv : c.valid = true) (hi : c.irq = false) (h5 : c.five = true) (h3 : c.ctl % 4 = 3) :
    Calls Tryd.prog 16 #[.agg c.cells] w fun e w' => e = .returned (.int .i64 (c.run)) ∧ Below w.heap.size w w' := by
  have V : Hid _ := fun W => rvalid_any c W o
  rw [hv] at V
  have IH : Hid _ := fun W => rirq_any c W o
  rw [hi] at IH
  have k0 := o.ctl.1
  have k1 := o.ctl.2
  have p0 := o.pre.1
  have p1 := o.pre.2
  have q0 := o.count.1
  have q1 := o.count.2
  have d0 := (dv_pos c.ctl).1
  have d1 := (dv_pos c.ctl).2
  have DV : Hid _ := fun W => rdiv_any c.ctl W k0 k1
  have mb := run_bd c o
  have eR : (c.count + 1) * dv c.ctl = c.count * dv c.ctl + dv c.ctl := by rw [Int.add_mul, Int.one_mul]
  have hR : c.count * dv c.ctl + dv c.ctl - c.pre = c.run := by unfold Ck.run; omega
  have x0 : 0 ≤ c.count * dv c.ctl := Int.mul_nonneg q0 (by omega)
  have x1 : c.count * dv c.ctl ≤ 16777216 := by omega
  have h3' : (c.ctl % 4 == 3) = true := by simpa using h3
  have RB := run_le' c o
  have RP : 1 ≤ c.run := Ck.run_pos o.count.1 ((Ck.valid_iff c).1 hv).pre
  clear eR mb
  generalize c.run = R at *
  generalize dv c.ctl = D at *
  have e1 := w64 (c.count * D) (by omega) (by omega)
  have e2 := w64 (c.count * D + D) (by omega) (by omega)
  have e3 := w64 (c.count * D + D - c.pre) (by omega) (by omega)
  go_enter Tryd.func16, Tryd.ntmps16
  go_upto_region 1 with fail
  have s0 : St w [(w.heap.size, c)] (w.alloc (.cells c.cells 24)) := St.start w c
  generalize w.alloc (.cells c.cells 24) = W0 at *
  go_upto_region 8 with (first
    | (refine wpList_load_blk rfl 24 _ rfl w.heap.size rfl (Ck.cells c) _ (s0.blk w.heap.size c (by simp)) Tryd.underlying24 rfl (infoC' _) ?_)
    | (go_at_call 28; refine (V.out _).mono ?_; rintro e Wx ⟨rfl, hbx⟩; replace s0 := s0.on hbx; clear hbx)
    | (go_at_call 15; refine (IH.out _).mono ?_; rintro e Wx ⟨rfl, hbx⟩; replace s0 := s0.on hbx; clear hbx))
  have g1 := (s0.blk w.heap.size c (by simp)).cell 1
  rw [show (Ck.cells c)[1]? = some (.int .u16 c.count) from rfl] at g1
  have g2 := (s0.blk w.heap.size c (by simp)).cell 2
  rw [show (Ck.cells c)[2]? = some (.int .u16 c.pre) from rfl] at g2
  have g4 := (s0.blk w.heap.size c (by simp)).cell 4
  rw [show (Ck.cells c)[4]? = some (.int .u8 c.ctl) from rfl] at g4
  have g7 := (s0.blk w.heap.size c (by simp)).cell 7
  rw [show (Ck.cells c)[7]? = some (.bool c.five) from rfl] at g7
  have g8 := (s0.blk w.heap.size c (by simp)).cell 8
  rw [show (Ck.cells c)[8]? = some (.bool c.inh) from rfl] at g8
  rw [h5] at g7
  clear h5 hi hv
  go_upto_region 9 with fail
  go_quiet ((go_at_call 30; exact Calls.quiet_of_same (DV.out _)))
  replace s0 : St w [(w.heap.size, c)] (Wx.drewN nq) := ⟨fun p hp => s0.1 p hp, below_draws s0.2 nq⟩
  go_wp2
  go_ret
  exact ⟨rfl, s0.2⟩
set_option maxHeartbeats 1000000 in
theorem rnext_ti (c : Ck) (w : World) (o : c.Ok) (hv : c.valid = true) (hi : c.irq = false) (h5 : c.five = false) (hh : c.inh = true) (h3 : c.ctl % 4 = 3) :
    Calls Tryd.prog 16 #[.agg c.cells] w fun e w' => e = .returned (.int .i64 (c.run)) ∧ Below w.heap.size w w' := by
  have V : Hid _ := fun W => rvalid_any c W o
  rw [hv] at V
  have IH : Hid _ := fun W => rirq_any c W o
  rw [hi] at IH
  have k0 := o.ctl.1
  have k1 := o.ctl.2
  have p0 := o.pre.1
  have p1 := o.pre.2
  have q0 := o.count.1
  have q1 := o.count.2
  have d0 := (dv_pos c.ctl).1
  have d1 := (dv_pos c.ctl).2
  have DV : Hid _ := fun W => rdiv_any c.ctl W k0 k1
  have mb := run_bd c o
  have eR : (c.count + 1) * dv c.ctl = c.count * dv c.ctl + dv c.ctl := by rw [Int.add_mul, Int.one_mul]
  have hR : c.count * dv c.ctl + dv c.ctl - c.pre = c.run := by unfold Ck.run; omega
  have x0 : 0 ≤ c.count * dv c.ctl := Int.mul_nonneg q0 (by omega)
  have x1 : c.count * dv c.ctl ≤ 16777216 := by omega
  have h3' : (c.ctl % 4 == 3) = true := by simpa using h3
  have RB := run_le' c o
  have RP : 1 ≤ c.run := Ck.run_pos o.count.1 ((Ck.valid_iff c).1 hv).pre
  clear eR mb
  generalize c.run = R at *
  generalize dv c.ctl = D at *
  have e1 := w64 (c.count * D) (by omega) (by omega)
  have e2 := w64 (c.count * D + D) (by omega) (by omega)
  have e3 := w64 (c.count * D + D - c.pre) (by omega) (by omega)
  go_enter Tryd.func16, Tryd.ntmps16
  go_upto_region 1 with fail
  have s0 : St w [(w.heap.size, c)] (w.alloc (.cells c.cells 24)) := St.start w c
  generalize w.alloc (.cells c.cells 24) = W0 at *
  go_upto_region 8 with (first
    | (refine wpList_load_blk rfl 24 _ rfl w.heap.size rfl (Ck.cells c) _ (s0.blk w.heap.size c (by simp)) Tryd.underlying24 rfl (infoC' _) ?_)
    | (go_at_call 28; refine (V.out _).mono ?_; rintro e Wx ⟨rfl, hbx⟩; replace s0 := s0.on hbx; clear hbx)
    | (go_at_call 15; refine (IH.out _).mono ?_; rintro e Wx ⟨rfl, hbx⟩; replace s0 := s0.on hbx; clear hbx))
  have g1 := (s0.blk w.heap.size c (by simp)).cell 1
  rw [show (Ck.cells c)[1]? = some (.int .u16 c.count) from rfl] at g1
  have g2 := (s0.blk w.heap.size c (by simp)).cell 2
  rw [show (Ck.cells c)[2]? = some (.int .u16 c.pre) from rfl] at g2
  have g4 := (s0.blk w.heap.size c (by simp)).cell 4
  rw [show (Ck.cells c)[4]? = some (.int .u8 c.ctl) from rfl] at g4
  have g7 := (s0.blk w.heap.size c (by simp)).cell 7
  rw [show (Ck.cells c)[7]? = some (.bool c.five) from rfl] at g7
  have g8 := (s0.blk w.heap.size c (by simp)).cell 8
  rw [show (Ck.cells c)[8]? = some (.bool c.inh) from rfl] at g8
  rw [h5] at g7
  rw [hh] at g8
  clear h5 hh hi hv
  go_upto_region 9 with fail
  go_quiet ((go_at_call 30; exact Calls.quiet_of_same (DV.out _)))
  replace s0 : St w [(w.heap.size, c)] (Wx.drewN nq) := ⟨fun p hp => s0.1 p hp, below_draws s0.2 nq⟩
  go_wp2
  go_ret
  exact ⟨rfl, s0.2⟩
set_option maxHeartbeats 1000000 in
theorem rnext_tsa (c : Ck) (w : World) (o : c.Ok) (hv : c.valid = true) (hi : c.irq = false) (h5 : c.five = false) (hh : c.inh = false) (h3 : c.ctl % 4 = 3) (hs : c.toF < c.run) :
    Calls Tryd.prog 16 #[.agg c.cells] w fun e w' => e = .returned (.int .i64 (c.toF)) ∧ Below w.heap.size w w' := by
  have V : Hid _ := fun W => rvalid_any c W o
  rw [hv] at V
  have IH : Hid _ := fun W => rirq_any c W o
  rw [hi] at IH
  have k0 := o.ctl.1
  have k1 := o.ctl.2
  have p0 := o.pre.1
  have p1 := o.pre.2
  have q0 := o.count.1
  have q1 := o.count.2
  have d0 := (dv_pos c.ctl).1
  have d1 := (dv_pos c.ctl).2
  have DV : Hid _ := fun W => rdiv_any c.ctl W k0 k1
  have mb := run_bd c o
  have eR : (c.count + 1) * dv c.ctl = c.count * dv c.ctl + dv c.ctl := by rw [Int.add_mul, Int.one_mul]
  have hR : c.count * dv c.ctl + dv c.ctl - c.pre = c.run := by unfold Ck.run; omega
  have x0 : 0 ≤ c.count * dv c.ctl := Int.mul_nonneg q0 (by omega)
  have x1 : c.count * dv c.ctl ≤ 16777216 := by omega
  have h3' : (c.ctl % 4 == 3) = true := by simpa using h3
  have RB := run_le' c o
  have RP : 1 ≤ c.run := Ck.run_pos o.count.1 ((Ck.valid_iff c).1 hv).pre
  clear eR mb
  generalize c.run = R at *
  generalize dv c.ctl = D at *
  have e1 := w64 (c.count * D) (by omega) (by omega)
  have e2 := w64 (c.count * D + D) (by omega) (by omega)
  have e3 := w64 (c.count * D + D - c.pre) (by omega) (by omega)
  have fr : c.frame = false := by
    unfold Ck.irq at hi
    rw [hv, Bool.true_and] at hi
    cases hq : c.frame
    · rfl
    · rw [hq] at hi; exact absurd hi (by simp)
  have AS : Hid _ := fun W => asks_ref c W o hv fr h5 hh
  have tb := toF_bd c o
  have tb0 := tb.1
  have tb1 := tb.2
  clear tb fr
  generalize c.toF = F at *
  go_enter Tryd.func16, Tryd.ntmps16
  go_upto_region 1 with fail
  have s0 : St w [(w.heap.size, c)] (w.alloc (.cells c.cells 24)) := St.start w c
  generalize w.alloc (.cells c.cells 24) = W0 at *
  go_upto_region 8 with (first
    | (refine wpList_load_blk rfl 24 _ rfl w.heap.size rfl (Ck.cells c) _ (s0.blk w.heap.size c (by simp)) Tryd.underlying24 rfl (infoC' _) ?_)
    | (go_at_call 28; refine (V.out _).mono ?_; rintro e Wx ⟨rfl, hbx⟩; replace s0 := s0.on hbx; clear hbx)
    | (go_at_call 15; refine (IH.out _).mono ?_; rintro e Wx ⟨rfl, hbx⟩; replace s0 := s0.on hbx; clear hbx))
  have g1 := (s0.blk w.heap.size c (by simp)).cell 1
  rw [show (Ck.cells c)[1]? = some (.int .u16 c.count) from rfl] at g1
  have g2 := (s0.blk w.heap.size c (by simp)).cell 2
  rw [show (Ck.cells c)[2]? = some (.int .u16 c.pre) from rfl] at g2
  have g4 := (s0.blk w.heap.size c (by simp)).cell 4
  rw [show (Ck.cells c)[4]? = some (.int .u8 c.ctl) from rfl] at g4
  have g7 := (s0.blk w.heap.size c (by simp)).cell 7
  rw [show (Ck.cells c)[7]? = some (.bool c.five) from rfl] at g7
  have g8 := (s0.blk w.heap.size c (by simp)).cell 8
  rw [show (Ck.cells c)[8]? = some (.bool c.inh) from rfl] at g8
  rw [h5] at g7
  rw [hh] at g8
  clear h5 hh hi hv
  go_upto_region 9 with fail
  go_quiet ((go_at_call 30; exact Calls.quiet_of_same (DV.out _)))
  replace s0 : St w [(w.heap.size, c)] (Wx.drewN nq) := ⟨fun p hp => s0.1 p hp, below_draws s0.2 nq⟩
  go_wp2_with (first
    | (refine wpList_load_blk rfl 24 _ rfl w.heap.size rfl (Ck.cells c) _ (s0.blk w.heap.size c (by simp)) Tryd.underlying24 rfl (infoC' _) ?_)
    | (go_at_call 31; refine (AS.out _).mono ?_; rintro e Wx ⟨rfl, hbx⟩; replace s0 := s0.on hbx; clear hbx))
  go_ret
  exact ⟨rfl, s0.2⟩
set_option maxHeartbeats 1000000 in
theorem rnext_tsb (c : Ck) (w : World) (o : c.Ok) (hv : c.valid = true) (hi : c.irq = false) (h5 : c.five = false) (hh : c.inh = false) (h3 : c.ctl % 4 = 3) (hs : ¬ c.toF < c.run) :
    Calls Tryd.prog 16 #[.agg c.cells] w fun e w' => e = .returned (.int .i64 (c.run)) ∧ Below w.heap.size w w' := by
  have V : Hid _ := fun W => rvalid_any c W o
  rw [hv] at V
  have IH : Hid _ := fun W => rirq_any c W o
  rw [hi] at IH
  have k0 := o.ctl.1
  have k1 := o.ctl.2
  have p0 := o.pre.1
  have p1 := o.pre.2
  have q0 := o.count.1
  have q1 := o.count.2
  have d0 := (dv_pos c.ctl).1
  have d1 := (dv_pos c.ctl).2
  have DV : Hid _ := fun W => rdiv_any c.ctl W k0 k1
  have mb := run_bd c o
  have eR : (c.count + 1) * dv c.ctl = c.count * dv c.ctl + dv c.ctl := by rw [Int.add_mul, Int.one_mul]
  have hR : c.count * dv c.ctl + dv c.ctl - c.pre = c.run := by unfold Ck.run; omega
  have x0 : 0 ≤ c.count * dv c.ctl := Int.mul_nonneg q0 (by omega)
  have x1 : c.count * dv c.ctl ≤ 16777216 := by omega
  have h3' : (c.ctl % 4 == 3) = true := by simpa using h3
  have RB := run_le' c o
  have RP : 1 ≤ c.run := Ck.run_pos o.count.1 ((Ck.valid_iff c).1 hv).pre
  clear eR mb
  generalize c.run = R at *
  generalize dv c.ctl = D at *
  have e1 := w64 (c.count * D) (by omega) (by omega)
  have e2 := w64 (c.count * D + D) (by omega) (by omega)
  have e3 := w64 (c.count * D + D - c.pre) (by omega) (by omega)
  have fr : c.frame = false := by
    unfold Ck.irq at hi
    rw [hv, Bool.true_and] at hi
    cases hq : c.frame
    · rfl
    · rw [hq] at hi; exact absurd hi (by simp)
  have AS : Hid _ := fun W => asks_ref c W o hv fr h5 hh
  have tb := toF_bd c o
  have tb0 := tb.1
  have tb1 := tb.2
  clear tb fr
  generalize c.toF = F at *
  go_enter Tryd.func16, Tryd.ntmps16
  go_upto_region 1 with fail
  have s0 : St w [(w.heap.size, c)] (w.alloc (.cells c.cells 24)) := St.start w c
  generalize w.alloc (.cells c.cells 24) = W0 at *
  go_upto_region 8 with (first
    | (refine wpList_load_blk rfl 24 _ rfl w.heap.size rfl (Ck.cells c) _ (s0.blk w.heap.size c (by simp)) Tryd.underlying24 rfl (infoC' _) ?_)
    | (go_at_call 28; refine (V.out _).mono ?_; rintro e Wx ⟨rfl, hbx⟩; replace s0 := s0.on hbx; clear hbx)
    | (go_at_call 15; refine (IH.out _).mono ?_; rintro e Wx ⟨rfl, hbx⟩; replace s0 := s0.on hbx; clear hbx))
  have g1 := (s0.blk w.heap.size c (by simp)).cell 1
  rw [show (Ck.cells c)[1]? = some (.int .u16 c.count) from rfl] at g1
  have g2 := (s0.blk w.heap.size c (by simp)).cell 2
  rw [show (Ck.cells c)[2]? = some (.int .u16 c.pre) from rfl] at g2
  have g4 := (s0.blk w.heap.size c (by simp)).cell 4
  rw [show (Ck.cells c)[4]? = some (.int .u8 c.ctl) from rfl] at g4
  have g7 := (s0.blk w.heap.size c (by simp)).cell 7
  rw [show (Ck.cells c)[7]? = some (.bool c.five) from rfl] at g7
  have g8 := (s0.blk w.heap.size c (by simp)).cell 8
  rw [show (Ck.cells c)[8]? = some (.bool c.inh) from rfl] at g8
  rw [h5] at g7
  rw [hh] at g8
  clear h5 hh hi hv
  go_upto_region 9 with fail
  go_quiet ((go_at_call 30; exact Calls.quiet_of_same (DV.out _)))
  replace s0 : St w [(w.heap.size, c)] (Wx.drewN nq) := ⟨fun p hp => s0.1 p hp, below_draws s0.2 nq⟩
  go_wp2_with (first
    | (refine wpList_load_blk rfl 24 _ rfl w.heap.size rfl (Ck.cells c) _ (s0.blk w.heap.size c (by simp)) Tryd.underlying24 rfl (infoC' _) ?_)
    | (go_at_call 31; refine (AS.out _).mono ?_; rintro e Wx ⟨rfl, hbx⟩; replace s0 := s0.on hbx; clear hbx))
  go_ret
  exact ⟨rfl, s0.2⟩
set_option maxHeartbeats 1000000 in
theorem rnext_n5 (c : Ck) (w : World) (o : c.Ok) (hv : c.valid = true) (hi : c.irq = false) (h5 : c.five = true) (h3 : ¬ c.ctl % 4 = 3) :
    Calls Tryd.prog 16 #[.agg c.cells] w fun e w' => e = .returned (.int .i64 (4611686018427387904)) ∧ Below w.heap.size w w' := by
  have V : Hid _ := fun W => rvalid_any c W o
  rw [hv] at V
  have IH : Hid _ := fun W => rirq_any c W o
  rw [hi] at IH
  have k0 := o.ctl.1
  have k1 := o.ctl.2
  have p0 := o.pre.1
  have p1 := o.pre.2
  have q0 := o.count.1
  have q1 := o.count.2
  have d0 := (dv_pos c.ctl).1
  have d1 := (dv_pos c.ctl).2
  have DV : Hid _ := fun W => rdiv_any c.ctl W k0 k1
  have h3' : (c.ctl % 4 == 3) = false := by simpa using h3
  go_enter Tryd.func16, Tryd.ntmps16
  go_upto_region 1 with fail
  have s0 : St w [(w.heap.size, c)] (w.alloc (.cells c.cells 24)) := St.start w c
  generalize w.alloc (.cells c.cells 24) = W0 at *
  go_upto_region 8 with (first
    | (refine wpList_load_blk rfl 24 _ rfl w.heap.size rfl (Ck.cells c) _ (s0.blk w.heap.size c (by simp)) Tryd.underlying24 rfl (infoC' _) ?_)
    | (go_at_call 28; refine (V.out _).mono ?_; rintro e Wx ⟨rfl, hbx⟩; replace s0 := s0.on hbx; clear hbx)
    | (go_at_call 15; refine (IH.out _).mono ?_; rintro e Wx ⟨rfl, hbx⟩; replace s0 := s0.on hbx; clear hbx))
  have g1 := (s0.blk w.heap.size c (by simp)).cell 1
  rw [show (Ck.cells c)[1]? = some (.int .u16 c.count) from rfl] at g1
  have g2 := (s0.blk w.heap.size c (by simp)).cell 2
  rw [show (Ck.cells c)[2]? = some (.int .u16 c.pre) from rfl] at g2
  have g4 := (s0.blk w.heap.size c (by simp)).cell 4
  rw [show (Ck.cells c)[4]? = some (.int .u8 c.ctl) from rfl] at g4
  have g7 := (s0.blk w.heap.size c (by simp)).cell 7
  rw [show (Ck.cells c)[7]? = some (.bool c.five) from rfl] at g7
  have g8 := (s0.blk w.heap.size c (by simp)).cell 8
  rw [show (Ck.cells c)[8]? = some (.bool c.inh) from rfl] at g8
  rw [h5] at g7
  clear h5 hi hv
  go_wp2
  go_ret
  exact ⟨rfl, s0.2⟩
set_option maxHeartbeats 1000000 in
theorem rnext_ni (c : Ck) (w : World) (o : c.Ok) (hv : c.valid = true) (hi : c.irq = false) (h5 : c.five = false) (hh : c.inh = true) (h3 : ¬ c.ctl % 4 = 3) :
    Calls Tryd.prog 16 #[.agg c.cells] w fun e w' => e = .returned (.int .i64 (4611686018427387904)) ∧ Below w.heap.size w w' := by
  have V : Hid _ := fun W => rvalid_any c W o
  rw [hv] at V
  have IH : Hid _ := fun W => rirq_any c W o
  rw [hi] at IH
  have k0 := o.ctl.1
  have k1 := o.ctl.2
  have p0 := o.pre.1
  have p1 := o.pre.2
  have q0 := o.count.1
  have q1 := o.count.2
  have d0 := (dv_pos c.ctl).1
  have d1 := (dv_pos c.ctl).2
  have DV : Hid _ := fun W => rdiv_any c.ctl W k0 k1
  have h3' : (c.ctl % 4 == 3) = false := by simpa using h3
  go_enter Tryd.func16, Tryd.ntmps16
  go_upto_region 1 with fail
  have s0 : St w [(w.heap.size, c)] (w.alloc (.cells c.cells 24)) := St.start w c
  generalize w.alloc (.cells c.cells 24) = W0 at *
  go_upto_region 8 with (first
    | (refine wpList_load_blk rfl 24 _ rfl w.heap.size rfl (Ck.cells c) _ (s0.blk w.heap.size c (by simp)) Tryd.underlying24 rfl (infoC' _) ?_)
    | (go_at_call 28; refine (V.out _).mono ?_; rintro e Wx ⟨rfl, hbx⟩; replace s0 := s0.on hbx; clear hbx)
    | (go_at_call 15; refine (IH.out _).mono ?_; rintro e Wx ⟨rfl, hbx⟩; replace s0 := s0.on hbx; clear hbx))
  have g1 := (s0.blk w.heap.size c (by simp)).cell 1
  rw [show (Ck.cells c)[1]? = some (.int .u16 c.count) from rfl] at g1
  have g2 := (s0.blk w.heap.size c (by simp)).cell 2
  rw [show (Ck.cells c)[2]? = some (.int .u16 c.pre) from rfl] at g2
  have g4 := (s0.blk w.heap.size c (by simp)).cell 4
  rw [show (Ck.cells c)[4]? = some (.int .u8 c.ctl) from rfl] at g4
  have g7 := (s0.blk w.heap.size c (by simp)).cell 7
  rw [show (Ck.cells c)[7]? = some (.bool c.five) from rfl] at g7
  have g8 := (s0.blk w.heap.size c (by simp)).cell 8
  rw [show (Ck.cells c)[8]? = some (.bool c.inh) from rfl] at g8
  rw [h5] at g7
  rw [hh] at g8
  clear h5 hh hi hv
  go_wp2
  go_ret
  exact ⟨rfl, s0.2⟩
set_option maxHeartbeats 1000000 in
theorem rnext_ns (c : Ck) (w : World) (o : c.Ok) (hv : c.valid = true) (hi : c.irq = false) (h5 : c.five = false) (hh : c.inh = false) (h3 : ¬ c.ctl % 4 = 3) :
    Calls Tryd.prog 16 #[.agg c.cells] w fun e w' => e = .returned (.int .i64 (c.toF)) ∧ Below w.heap.size w w' := by
  have V : Hid _ := fun W => rvalid_any c W o
  rw [hv] at V
  have IH : Hid _ := fun W => rirq_any c W o
  rw [hi] at IH
  have k0 := o.ctl.1
  have k1 := o.ctl.2
  have p0 := o.pre.1
  have p1 := o.pre.2
  have q0 := o.count.1
  have q1 := o.count.2
  have d0 := (dv_pos c.ctl).1
  have d1 := (dv_pos c.ctl).2
  have DV : Hid _ := fun W => rdiv_any c.ctl W k0 k1
  have h3' : (c.ctl % 4 == 3) = false := by simpa using h3
  have fr : c.frame = false := by
    unfold Ck.irq at hi
    rw [hv, Bool.true_and] at hi
    cases hq : c.frame
    · rfl
    · rw [hq] at hi; exact absurd hi (by simp)
  have AS : Hid _ := fun W => asks_ref c W o hv fr h5 hh
  have tb := toF_bd c o
  have tb0 := tb.1
  have tb1 := tb.2
  clear tb fr
  generalize c.toF = F at *
  go_enter Tryd.func16, Tryd.ntmps16
  go_upto_region 1 with fail
  have s0 : St w [(w.heap.size, c)] (w.alloc (.cells c.cells 24)) := St.start w c
  generalize w.alloc (.cells c.cells 24) = W0 at *
  go_upto_region 8 with (first
    | (refine wpList_load_blk rfl 24 _ rfl w.heap.size rfl (Ck.cells c) _ (s0.blk w.heap.size c (by simp)) Tryd.underlying24 rfl (infoC' _) ?_)
    | (go_at_call 28; refine (V.out _).mono ?_; rintro e Wx ⟨rfl, hbx⟩; replace s0 := s0.on hbx; clear hbx)
    | (go_at_call 15; refine (IH.out _).mono ?_; rintro e Wx ⟨rfl, hbx⟩; replace s0 := s0.on hbx; clear hbx))
  have g1 := (s0.blk w.heap.size c (by simp)).cell 1
  rw [show (Ck.cells c)[1]? = some (.int .u16 c.count) from rfl] at g1
  have g2 := (s0.blk w.heap.size c (by simp)).cell 2
  rw [show (Ck.cells c)[2]? = some (.int .u16 c.pre) from rfl] at g2
  have g4 := (s0.blk w.heap.size c (by simp)).cell 4
  rw [show (Ck.cells c)[4]? = some (.int .u8 c.ctl) from rfl] at g4
  have g7 := (s0.blk w.heap.size c (by simp)).cell 7
  rw [show (Ck.cells c)[7]? = some (.bool c.five) from rfl] at g7
  have g8 := (s0.blk w.heap.size c (by simp)).cell 8
  rw [show (Ck.cells c)[8]? = some (.bool c.inh) from rfl] at g8
  rw [h5] at g7
  rw [hh] at g8
  clear h5 hh hi hv
  go_wp2_with (first
    | (refine wpList_load_blk rfl 24 _ rfl w.heap.size rfl (Ck.cells c) _ (s0.blk w.heap.size c (by simp)) Tryd.underlying24 rfl (infoC' _) ?_)
    | (go_at_call 31; refine (AS.out _).mono ?_; rintro e Wx ⟨rfl, hbx⟩; replace s0 := s0.on hbx; clear hbx))
  go_ret
  exact ⟨rfl, s0.2⟩
end Go.Proofs.YtobiiogoofkmaaaDoor
namespace Go.Proofs.YtobiiogoofkmaaaDoor
open Go.RowKit Classical
theorem rnext_any (c : Ck) (w : World) (o : c.Ok) :
    Calls Tryd.prog 16 #[.agg c.cells] w fun e w' => e = .returned (.int .i64 c.nxt) ∧ Below w.heap.size w w' := by
  have tb := toF_bd c o
  have rb := run_le c o
  have kb := o.ctl
  cases hv : c.valid
  · rw [show c.nxt = 4611686018427387904 by unfold Ck.nxt; rw [if_pos hv]]; exact rnext_no c w o hv
  have nv : ¬ c.valid = false := by rw [hv]; decide
  cases hi : c.irq
  rotate_left
  · rw [show c.nxt = 0 by unfold Ck.nxt; rw [if_neg nv, if_pos hi]]; exact rnext_now c w o hv hi
  have ni : ¬ c.irq = true := by rw [hi]; decide
  have hc : c.ctl % 4 = 3 ↔ c.ctl % 2 = 1 ∧ c.ctl / 2 % 2 = 1 := by omega
  rcases (show c.five = false ∨ c.five = true by cases c.five <;> simp) with h5 | h5
  · rcases (show c.inh = false ∨ c.inh = true by cases c.inh <;> simp) with hh | hh
    · have hk : c.asks = true := by unfold Ck.asks; rw [h5, hh]; rfl
      by_cases h3 : c.ctl % 4 = 3
      · have e : c.nxt = min c.run c.toF := by unfold Ck.nxt Ck.nT Ck.nS; rw [if_neg nv, if_neg ni, if_pos (hc.1 h3), if_pos hk]
        by_cases hs : c.toF < c.run
        · rw [show c.nxt = c.toF by rw [e]; omega]; exact rnext_tsa c w o hv hi h5 hh h3 hs
        · rw [show c.nxt = c.run by rw [e]; omega]; exact rnext_tsb c w o hv hi h5 hh h3 hs
      · rw [show c.nxt = c.toF by unfold Ck.nxt Ck.nT Ck.nS; rw [if_neg nv, if_neg ni, if_neg (fun q => h3 (hc.2 q)), if_pos hk]; omega]; exact rnext_ns c w o hv hi h5 hh h3
    · have hk : ¬ c.asks = true := by unfold Ck.asks; rw [h5, hh]; decide
      by_cases h3 : c.ctl % 4 = 3
      · rw [show c.nxt = c.run by unfold Ck.nxt Ck.nT Ck.nS; rw [if_neg nv, if_neg ni, if_pos (hc.1 h3), if_neg hk]; omega]; exact rnext_ti c w o hv hi h5 hh h3
      · rw [show c.nxt = 4611686018427387904 by unfold Ck.nxt Ck.nT Ck.nS; rw [if_neg nv, if_neg ni, if_neg (fun q => h3 (hc.2 q)), if_neg hk]; rfl]; exact rnext_ni c w o hv hi h5 hh h3
  · have hk : ¬ c.asks = true := by unfold Ck.asks; rw [h5]; simp
    by_cases h3 : c.ctl % 4 = 3
    · rw [show c.nxt = c.run by unfold Ck.nxt Ck.nT Ck.nS; rw [if_neg nv, if_neg ni, if_pos (hc.1 h3), if_neg hk]; omega]; exact rnext_t5 c w o hv hi h5 h3
    · rw [show c.nxt = 4611686018427387904 by unfold Ck.nxt Ck.nT Ck.nS; rw [if_neg nv, if_neg ni, if_neg (fun q => h3 (hc.2 q)), if_neg hk]; rfl]; exact rnext_n5 c w o hv hi h5 h3
end Go.Proofs.YtobiiogoofkmaaaDoor
