/-
  What Cycles of package isa answers; conditions: a byte.
-/
import Derived.Test.YtlolfmpgljpjoaaDoorIShape
set_option linter.unusedSimpArgs false
set_option linter.unusedVariables false
namespace Go.Proofs.YtlolfmpgljpjoaaDoor
open Go.RowKit
set_option maxRecDepth 100000 in
set_option maxHeartbeats 1000000 in
theorem cycles_any (k : Nat) (hk : k < 256) (cr tk : Bool) (w : World) :
    Calls Tryd.prog 11 #[.int .u8 (k : Nat), .bool cr, .bool tk] w fun e w' => e = .returned (.int .i64 ((shQ k cr tk).length : Nat)) ∧ Below w.heap.size w w' := by
  have hlen := (shp_length k hk cr tk).1
  have hsz : (runC (shQ k cr tk)).toArray.size = 9 := by simpa using runC_length hlen
  have h1 : (runC (shQ k cr tk)).toArray.all (·.oneCell') = true := all_oneCell_toArray runC_one
  have h8 := runC_n hlen
  have RC := Hid.mk1' (fun W => runOf_any k hk cr tk W)
  generalize (runC (shQ k cr tk)).toArray = L at *
  have HS := Hid.mk1' hsz
  have H1 := Hid.mk1' h1
  have H8 := Hid.mk1' h8
  clear hsz h1 h8
  go_enter Tryd.func11, Tryd.ntmps11
  go_wp2_with (first
    | (go_at_call 13; go_must (refine (rowOf_agg' k hk _).mono ?_; rintro e w1 ⟨rfl, hb1⟩))
    | (go_at_call 14; go_must (refine (RC.out _).mono ?_; rintro e w2 ⟨rfl, hb2⟩))
    | (refine wpList_store_blk rfl 46 _ _ rfl w2.heap.size Z9 L 46 rfl rfl (Blk.new w2 Z9 46) HS.out (by rw [HS.out]; exact Tryd.infoRun) H1.out w.heap.size w (Nat.le_trans hb1.size hb2.size) ((hb1.trans (hb2.mono hb1.size)).alloc (Nat.le_trans hb1.size hb2.size) _) ?_; intro w3 hB3 hb3 _; have c8 := (hB3.cell 8).trans H8.out))
  go_ret
  exact ⟨rfl, hb3⟩
end Go.Proofs.YtlolfmpgljpjoaaDoor
