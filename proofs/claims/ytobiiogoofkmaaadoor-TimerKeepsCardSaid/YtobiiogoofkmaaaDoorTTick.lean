/-
  The contract of Tick; conditions: the tables lie in their variables, the numbers fit their kinds.
-/
import Derived.Test.YtobiiogoofkmaaaDoorTTop0
import Derived.Test.YtobiiogoofkmaaaDoorTTickT
import Derived.Test.YtobiiogoofkmaaaDoorTTickS
set_option linter.unusedSimpArgs false
set_option linter.unusedVariables false
namespace Go.Proofs.YtobiiogoofkmaaaDoor
open Go.RowKit Classical
set_option maxHeartbeats 2000000 in
theorem tick_yes (c : Ck) (w : World) (o : c.Ok) (T : Tabs w) (hv : c.valid = true) :
    Calls Tryd.prog 8 #[.agg c.cells] w fun e w' => e = .returned (.agg (c.tickT.tickS).cells) ∧ Below w.heap.size w w' := by
  have v := (Ck.valid_iff c).1 hv
  have V : Hid _ := fun W (hW : DTab W) => valid_any c W o hW
  rw [hv] at V
  clear hv
  go_enter Tryd.func8, Tryd.ntmps8
  go_upto_region 1 with fail
  have A : At w ((w.alloc (.cells c.cells 24)).alloc (.cells zeroC.cells 24)) w.heap.size c := ⟨(Blk.new w _ _).old _, Nat.le_refl _, below_a2 _ _ _, zeroC, by have := Blk.new (w.alloc (.cells c.cells 24)) zeroC.cells 24; simpa using this⟩
  have e0 : (w.alloc (.cells c.cells 24)).alloc (.cells zeroC.cells 24) = (w.alloc (.cells c.cells 24)).alloc (.cells #[.int .u16 0, .int .u16 0, .int .u16 0, .int .u8 0, .int .u8 0, .bool false, .bool false, .bool false, .bool false, .bool false, .int .u16 0, .int .u8 0, .int .u8 0] 24) := rfl
  rw [e0] at A
  clear e0
  generalize (w.alloc (.cells c.cells 24)).alloc (.cells #[.int .u16 0, .int .u16 0, .int .u16 0, .int .u8 0, .int .u8 0, .bool false, .bool false, .bool false, .bool false, .bool false, .int .u16 0, .int .u8 0, .int .u8 0] 24) = W0 at *
  go_wp2_with (first
    | (refine wpList_load_blk rfl 24 _ rfl w.heap.size rfl _ _ A.blk Tryd.underlying24 rfl (infoC' _) ?_)
    | (refine wpList_load_want (by rfl) 24 _ rfl w.heap.size rfl _ _ A.blk Tryd.underlying24 rfl (infoC' _) ?_)
    | (go_at_call 5; refine (V.out _ (T.d.on A.bel)).mono ?_; rintro e W1 ⟨rfl, hb⟩; replace A := A.on hb; clear hb)
    | (go_at_call 21; refine (tickT_any c w _ w.heap.size o v T.d A).mono ?_; rintro e W2 ⟨rfl, A2⟩; replace A := A2; clear A2)
    | (go_at_call 22; refine (tickS_any c.tickT w _ w.heap.size (Ck.tickT_ok o v).1 (Ck.tickT_ok o v).2 T A).mono ?_; rintro e W2 ⟨rfl, A2⟩; replace A := A2; clear A2)
    | (obtain ⟨rc, hr⟩ := A.res; refine wpList_store_blk rfl 24 _ _ rfl _ rc.cells (c.tickT.tickS).cells 24 rfl rfl hr rfl (infoC' _) (Ck.cells_one _) w.heap.size w (by omega) A.bel ?_; intro W5 hr5 hb5 ho5))
  have hc5 := hr5.cell
  refine bodyPost_ret (v := .agg (c.tickT.tickS).cells) (res_ck (r := w.heap.size + 1) Tryd.results8 rfl hr5) rfl ⟨rfl, hb5⟩
set_option maxHeartbeats 2000000 in
theorem tick_no (c : Ck) (w : World) (o : c.Ok) (T : Tabs w) (hv : c.valid = false) :
    Calls Tryd.prog 8 #[.agg c.cells] w fun e w' => e = .returned (.agg (c).cells) ∧ Below w.heap.size w w' := by
  have V : Hid _ := fun W (hW : DTab W) => valid_any c W o hW
  rw [hv] at V
  clear hv
  go_enter Tryd.func8, Tryd.ntmps8
  go_upto_region 1 with fail
  have A : At w ((w.alloc (.cells c.cells 24)).alloc (.cells zeroC.cells 24)) w.heap.size c := ⟨(Blk.new w _ _).old _, Nat.le_refl _, below_a2 _ _ _, zeroC, by have := Blk.new (w.alloc (.cells c.cells 24)) zeroC.cells 24; simpa using this⟩
  have e0 : (w.alloc (.cells c.cells 24)).alloc (.cells zeroC.cells 24) = (w.alloc (.cells c.cells 24)).alloc (.cells #[.int .u16 0, .int .u16 0, .int .u16 0, .int .u8 0, .int .u8 0, .bool false, .bool false, .bool false, .bool false, .bool false, .int .u16 0, .int .u8 0, .int .u8 0] 24) := rfl
  rw [e0] at A
  clear e0
  generalize (w.alloc (.cells c.cells 24)).alloc (.cells #[.int .u16 0, .int .u16 0, .int .u16 0, .int .u8 0, .int .u8 0, .bool false, .bool false, .bool false, .bool false, .bool false, .int .u16 0, .int .u8 0, .int .u8 0] 24) = W0 at *
  go_wp2_with (first
    | (refine wpList_load_blk rfl 24 _ rfl w.heap.size rfl _ _ A.blk Tryd.underlying24 rfl (infoC' _) ?_)
    | (refine wpList_load_want (by rfl) 24 _ rfl w.heap.size rfl _ _ A.blk Tryd.underlying24 rfl (infoC' _) ?_)
    | (go_at_call 5; refine (V.out _ (T.d.on A.bel)).mono ?_; rintro e W1 ⟨rfl, hb⟩; replace A := A.on hb; clear hb)
    | (obtain ⟨rc, hr⟩ := A.res; refine wpList_store_blk rfl 24 _ _ rfl _ rc.cells (c).cells 24 rfl rfl hr rfl (infoC' _) (Ck.cells_one _) w.heap.size w (by omega) A.bel ?_; intro W5 hr5 hb5 ho5))
  have hc5 := hr5.cell
  refine bodyPost_ret (v := .agg (c).cells) (res_ck (r := w.heap.size + 1) Tryd.results8 rfl hr5) rfl ⟨rfl, hb5⟩
theorem tick_any (c : Ck) (w : World) (o : c.Ok) (T : Tabs w) :
    Calls Tryd.prog 8 #[.agg c.cells] w fun e w' => e = .returned (.agg (c.tick).cells) ∧ Below w.heap.size w w' := by
  unfold Ck.tick
  cases hv : c.valid
  · rw [if_neg (by decide)]; exact tick_no c w o T hv
  · rw [if_pos rfl]; exact tick_yes c w o T hv
end Go.Proofs.YtobiiogoofkmaaaDoor
