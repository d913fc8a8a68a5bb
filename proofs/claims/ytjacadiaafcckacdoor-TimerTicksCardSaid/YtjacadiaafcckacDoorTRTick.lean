/-
  The document's Tick; conditions: the numbers fit their kinds.
-/
import Derived.Test.YtjacadiaafcckacDoorTRTt0
import Derived.Test.YtjacadiaafcckacDoorTRTt1
import Derived.Test.YtjacadiaafcckacDoorTRTtm
import Derived.Test.YtjacadiaafcckacDoorTRTf0
import Derived.Test.YtjacadiaafcckacDoorTRTf1
import Derived.Test.YtjacadiaafcckacDoorTRTfm
set_option linter.unusedSimpArgs false
set_option linter.unusedVariables false
namespace Go.Proofs.YtjacadiaafcckacDoor
open Go.RowKit Classical
set_option maxHeartbeats 1000000 in
theorem rtick_no (c : Ck) (w : World) (o : c.Ok) (hv : c.valid = false) :
    Calls Tryd.prog 10 #[.agg c.cells] w fun e w' => e = .returned (.agg c.cells) ∧ Below w.heap.size w w' := by
  have V : Hid _ := fun W => rvalid_any c W o
  rw [hv] at V
  clear hv
  go_enter Tryd.func10, Tryd.ntmps10
  go_upto_region 1 with fail
  have A : At w ((w.alloc (.cells c.cells 24)).alloc (.cells #[.int .u16 0, .int .u16 0, .int .u16 0, .int .u8 0, .int .u8 0, .bool false, .bool false, .bool false, .bool false, .bool false, .int .u16 0, .int .u8 0, .int .u8 0] 24)) w.heap.size c := At.begin w c
  generalize (w.alloc (.cells c.cells 24)).alloc (.cells #[.int .u16 0, .int .u16 0, .int .u16 0, .int .u8 0, .int .u8 0, .bool false, .bool false, .bool false, .bool false, .bool false, .int .u16 0, .int .u8 0, .int .u8 0] 24) = W0 at *
  go_wp2_with (first
    | (refine wpList_load_blk rfl 24 _ rfl w.heap.size rfl _ _ A.blk Tryd.underlying24 rfl (infoC' _) ?_)
    | (go_at_call 6; refine (V.out _).mono ?_; rintro e Wx ⟨rfl, hbx⟩; replace A := A.on hbx; clear hbx)
    | (obtain ⟨rc, hr⟩ := A.res; refine wpList_store_blk rfl 24 _ _ rfl _ rc.cells (Ck.cells c) 24 rfl rfl hr rfl (infoC' _) (Ck.cells_one _) w.heap.size w (by omega) A.bel ?_; intro W5 hr5 hb5 ho5))
  refine bodyPost_ret (v := .agg (Ck.cells c)) (res_ck (r := w.heap.size + 1) Tryd.results10 rfl hr5) rfl ⟨rfl, hb5⟩
theorem rtick_any (c : Ck) (w : World) (o : c.Ok) :
    Calls Tryd.prog 10 #[.agg c.cells] w fun e w' => e = .returned (.agg c.tick.cells) ∧ Below w.heap.size w w' := by
  cases hv : c.valid
  · rw [show c.tick = c by unfold Ck.tick; rw [hv]; rfl]; exact rtick_no c w o hv
  have hw := o.wait
  rcases (show c.five = false ∨ c.five = true by cases c.five <;> simp) with h5 | h5
  · by_cases h0 : c.wait = 0
    · exact rtick_false_0 c w o hv h5 h0
    by_cases h1 : c.wait = 1
    · exact rtick_false_1 c w o hv h5 h1
    · exact rtick_false_m c w o hv h5 (by omega)
  · by_cases h0 : c.wait = 0
    · exact rtick_true_0 c w o hv h5 h0
    by_cases h1 : c.wait = 1
    · exact rtick_true_1 c w o hv h5 h1
    · exact rtick_true_m c w o hv h5 (by omega)
end Go.Proofs.YtjacadiaafcckacDoor
