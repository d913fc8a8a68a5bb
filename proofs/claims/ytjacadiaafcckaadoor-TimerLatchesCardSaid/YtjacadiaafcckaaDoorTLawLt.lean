/-
  The law TimerLatches returns true; conditions: the tables lie in their variables, the numbers fit their kinds.
-/
import Derived.Test.YtjacadiaafcckaaDoorTLawP
import Derived.Test.YtjacadiaafcckaaDoorTAdv
import Derived.Test.YtjacadiaafcckaaDoorTRead
set_option linter.unusedSimpArgs false
set_option linter.unusedVariables false
namespace Go.Proofs.YtjacadiaafcckaaDoor
open Go.RowKit Classical
set_option maxHeartbeats 2000000 in
theorem law_timerLatches (c : Ck) (n : Int) (w : World) (o : c.Ok) (T : Tabs w) :
    Calls Tryd.prog 7 #[.agg c.cells, .int .i64 n] w fun e w' => e = .returned (.bool true) ∧ Below w.heap.size w w' := by
  have VA : Hid _ := fun W (hW : DTab W) => valid_any c W o hW
  cases hv : c.valid
  · rw [hv] at VA
    clear hv
    go_enter Tryd.func7, Tryd.ntmps7
    go_upto_region 1 with fail
    have s0 : St w [(w.heap.size, c)] (w.alloc (.cells c.cells 24)) := St.start w c
    generalize w.alloc (.cells c.cells 24) = W0 at *
    go_wp2_with (first
      | (refine wpList_load_blk rfl 24 _ rfl w.heap.size rfl (Ck.cells c) _ (s0.blk w.heap.size c (by simp)) Tryd.underlying24 rfl (infoC' _) ?_)
      | (go_at_call_of 15 (Value.agg c.cells); refine (VA.out _ (T.d.on s0.2)).mono ?_; rintro e Wx ⟨rfl, hbx⟩; replace s0 := s0.on hbx; clear hbx)
      | (go_at_call_of 15 (Value.agg #[.int .u16 0, .int .u16 0, .int .u16 0, .int .u8 0, .int .u8 0, .bool false, .bool false, .bool false, .bool false, .bool false, .int .u16 0, .int .u8 0, .int .u8 0]); refine (vzero _ (T.d.on s0.2)).mono ?_; rintro e Wx ⟨rfl, hbx⟩; replace s0 := s0.on hbx; clear hbx))
    go_ret
    exact ⟨rfl, s0.2⟩
  · rw [hv] at VA
    obtain ⟨d, hd⟩ : ∃ d : Ck, d = { c with hold := c.count / 256 } := ⟨_, rfl⟩
    have od : d.Ok := by rw [hd]; have := o.count; exact ⟨o.latch, o.count, o.pre, ⟨by simp only; omega, by simp only; omega⟩, o.ctl, o.at_, o.wait, o.beats⟩
    have dv' : d.valid = true := by rw [hd]; exact hv
    have R1 : Hid _ := fun W (hW : DTab W) => read_any c W 16408 o hW
    rw [show c.rV 16408 = c.count % 256 by simp [Ck.rV, hv], show c.rM 16408 = 255 by simp [Ck.rM, hv], show c.rC 16408 = d by rw [hd]; simp [Ck.rC, hv]] at R1
    have eA := and_hf n
    have hA := hf_bd n
    generalize hf n = A at *
    have AD : Hid _ := fun W (hW : Tabs W) => adv_any d A W od hW (by omega)
    obtain ⟨e1, he1⟩ : ∃ e1 : Ck, e1 = d.adv A := ⟨_, rfl⟩
    have oe : e1.Ok := by rw [he1]; exact (Ck.adv_ok od A).1
    have ev : e1.valid = true := by rw [he1, (Ck.adv_ok od A).2]; exact dv'
    have eh : e1.hold = c.count / 256 := by rw [he1, Ck.adv_hold od, hd]
    rw [← he1] at AD
    have R2 : Hid _ := fun W (hW : DTab W) => read_any e1 W 16409 oe hW
    rw [show e1.rV 16409 = c.count / 256 by simp [Ck.rV, ev, eh], show e1.rM 16409 = 255 by simp [Ck.rM, ev], show e1.rC 16409 = e1 by simp [Ck.rC, ev]] at R2
    have VE : Hid _ := fun W (hW : DTab W) => valid_any e1 W oe hW
    rw [ev] at VE
    have q0 := o.count.1
    have q1 := o.count.2
    have qq : 256 * (c.count / 256) + c.count % 256 = c.count := by omega
    clear hv hd od dv' he1 oe ev eh
    go_enter Tryd.func7, Tryd.ntmps7
    go_upto_region 1 with fail
    have s0 : St w [(w.heap.size, c)] (w.alloc (.cells c.cells 24)) := St.start w c
    generalize w.alloc (.cells c.cells 24) = W0 at *
    go_upto_region 4 with (first
      | (refine wpList_load_blk rfl 24 _ rfl w.heap.size rfl (Ck.cells c) _ (s0.blk w.heap.size c (by simp)) Tryd.underlying24 rfl (infoC' _) ?_)
      | (go_at_call_of 15 (Value.agg c.cells); refine (VA.out _ (T.d.on s0.2)).mono ?_; rintro e Wx ⟨rfl, hbx⟩; replace s0 := s0.on hbx; clear hbx)
      | (go_at_call 9; refine (R1.out _ (T.d.on s0.2)).mono ?_; rintro e Wx ⟨rfl, hbx⟩; replace s0 := s0.on hbx; clear hbx)
      | (refine wpList_store_blk rfl 24 _ _ rfl _ zeroC.cells (Ck.cells d) 24 rfl rfl (Blk.new _ _ _) rfl (infoC' _) (Ck.cells_one _) w.heap.size w s0.2.size (s0.2.alloc s0.2.size _) ?_; intro Wy by1 hby hoy; replace s0 := St.more s0 by1 hby hoy; clear by1 hby hoy))
    simp only [Act.put]
    go_upto_region 5 with (first
      | (refine wpList_load_blk rfl 24 _ rfl _ rfl (Ck.cells d) _ (s0.blk _ d (by simp)) Tryd.underlying24 rfl (infoC' _) ?_)
      | (go_at_call_of 13 (Value.agg d.cells); refine (AD.out _ (T.on s0.2)).mono ?_; rintro e Wx ⟨rfl, hbx⟩; replace s0 := s0.on hbx; clear hbx)
      | (go_at_call_of 9 (Value.agg e1.cells); refine (R2.out _ (T.d.on s0.2)).mono ?_; rintro e Wx ⟨rfl, hbx⟩; replace s0 := s0.on hbx; clear hbx)
      | (refine wpList_store_blk rfl 24 _ _ rfl _ zeroC.cells (Ck.cells e1) 24 rfl rfl (Blk.new _ _ _) rfl (infoC' _) (Ck.cells_one _) w.heap.size w s0.2.size (s0.2.alloc s0.2.size _) ?_; intro Wy by1 hby hoy; replace s0 := St.more s0 by1 hby hoy; clear by1 hby hoy))
    simp only [Act.put]
    have g1 := (s0.blk w.heap.size c (by simp)).cell 1
    rw [show c.cells[1]? = some (.int .u16 c.count) from rfl] at g1
    go_wp2_with (first
      | (refine wpList_load_want (by rfl) 24 _ rfl _ rfl (Ck.cells e1) _ (s0.blk _ e1 (by simp)) Tryd.underlying24 rfl (infoC' _) ?_)
      | (go_at_call_of 15 (Value.agg e1.cells); refine (VE.out _ (T.d.on s0.2)).mono ?_; rintro e Wx ⟨rfl, hbx⟩; replace s0 := s0.on hbx; clear hbx))
    go_ret
    exact ⟨rfl, s0.2⟩
end Go.Proofs.YtjacadiaafcckaaDoor
