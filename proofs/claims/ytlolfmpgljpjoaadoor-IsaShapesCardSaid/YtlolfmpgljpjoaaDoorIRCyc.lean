/-
  What Shape, Cycles and Decode of the document's isa answer; conditions: a byte; the letters lie in their variable.
-/
import Derived.Test.YtlolfmpgljpjoaaDoorIRShp
set_option linter.unusedSimpArgs false
set_option linter.unusedVariables false
namespace Go.Proofs.YtlolfmpgljpjoaaDoor
open Go.RowKit
set_option maxRecDepth 100000 in
set_option maxHeartbeats 2000000 in
theorem rshape_f (k : Nat) (hk : k < 256) (hkd : ¬ (kdN k = 1 ∨ kdN k = 2 ∨ kdN k = 3 ∨ kdN k = 4)) (cr tk : Bool) (w : World) (T : LTab w) :
    Calls Tryd.prog 10 #[.int .u8 (k : Nat), .bool cr, .bool tk] w fun e w' => ∃ v, e = .returned v ∧ Acs w' w.heap.size v (shQ k cr tk) ∧ Below w.heap.size w w' := by
  have RC := Hid.mk2 (rrow_agg k hk w T)
  have FC := Hid.mk2 (fun W => flow_any k hk hkd cr tk W)
  have t1 : ((kdN k : Int) != 1) = true := by simp; omega
  have t2 : ((kdN k : Int) != 2) = true := by simp; omega
  have t3 : ((kdN k : Int) != 3) = true := by simp; omega
  have t4 : ((kdN k : Int) != 4) = true := by simp; omega
  clear T hkd
  go_enter Tryd.func10, Tryd.ntmps10
  go_upto_region 2 with (go_at_call 20; go_must (refine RC.out.mono ?_; rintro e w1 ⟨rfl, hb1⟩))
  have iB : Blk (w1.alloc (.cells (InstA k) 28)) w1.heap.size (InstA k) 28 := Blk.new w1 _ _
  have hbW : Below w.heap.size w (w1.alloc (.cells (InstA k) 28)) := hb1.alloc hb1.size _
  change Code.wp _ _ _ _ (w1.alloc (.cells (InstA k) 28))
  generalize (w1.alloc (.cells (InstA k) 28)) = W at *
  generalize w1.heap.size = r at *
  have ic := iB.cell
  clear hb1 RC
  go_wp2_with (go_at_call 21; go_must (refine (FC.out _).mono ?_; rintro e w2 ⟨v0, rfl, own0, hb0⟩))
  go_ret
  exact ⟨v0, rfl, own0.lower hbW.size, hbW.trans (hb0.mono hbW.size)⟩
theorem rshape_any (k : Nat) (hk : k < 256) (cr tk : Bool) (w : World) (T : LTab w) :
    Calls Tryd.prog 10 #[.int .u8 (k : Nat), .bool cr, .bool tk] w fun e w' => ∃ v, e = .returned v ∧ Acs w' w.heap.size v (shQ k cr tk) ∧ Below w.heap.size w w' := by
  by_cases h1 : kdN k = 1
  · exact rshape_1 k hk h1 cr tk w T
  by_cases h2 : kdN k = 2
  · exact rshape_2 k hk h2 cr tk w T
  by_cases h3 : kdN k = 3
  · exact rshape_3 k hk h3 cr tk w T
  by_cases h4 : kdN k = 4
  · exact rshape_4 k hk h4 cr tk w T
  exact rshape_f k hk (by omega) cr tk w T
end Go.Proofs.YtlolfmpgljpjoaaDoor
