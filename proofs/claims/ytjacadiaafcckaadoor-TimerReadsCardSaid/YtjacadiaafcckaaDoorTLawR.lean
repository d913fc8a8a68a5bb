/-
  The law TimerReads returns true; conditions: the table of the dividers lies in its variable, the numbers fit their kinds.
-/
import Derived.Test.YtjacadiaafcckaaDoorTLaw0
import Derived.Test.YtjacadiaafcckaaDoorTRead
import Derived.Test.YtjacadiaafcckaaDoorTRRead
set_option linter.unusedSimpArgs false
set_option linter.unusedVariables false
namespace Go.Proofs.YtjacadiaafcckaaDoor
open Go.RowKit Classical
def zeroC : Ck := ⟨0, 0, 0, 0, 0, false, false, false, false, false, 0, 0, 0⟩
theorem law_timerReads (c : Ck) (a : Int) (w : World) (o : c.Ok) (T : DTab w) :
    Calls Tryd.prog 3 #[.agg c.cells, .int .u16 a] w fun e w' => e = .returned (.bool true) ∧ Below w.heap.size w w' := by
  have Eq : ∀ (w : World) (b d : Ck), (binOp .eql 24 (.agg b.cells) (.agg d.cells)).run Tryd.prog w = .ok (.bool (decide (b = d))) w := eqlC
  go_enter Tryd.func3, Tryd.ntmps3
  go_upto_region 1 with fail
  have b0 : Blk (w.alloc (.cells c.cells 24)) w.heap.size c.cells 24 := Blk.new w _ _
  have hb : Below w.heap.size w (w.alloc (.cells c.cells 24)) := (Below.refl _ _).alloc (Nat.le_refl _) _
  generalize w.alloc (.cells c.cells 24) = W0 at *
  go_upto_region 2 with (first
    | (refine wpList_load_blk rfl 24 _ rfl w.heap.size rfl c.cells _ b0 Tryd.underlying24 rfl (infoC' c) ?_)
    | (go_at_call 9; refine (read_any c _ a o (T.on hb)).mono ?_; rintro e W1 ⟨rfl, hb1⟩; replace b0 := b0.below b0.lt hb1; replace hb := hb.trans (hb1.mono hb.size); clear hb1 W0)
    | (refine wpList_store_blk rfl 24 _ _ rfl _ zeroC.cells (c.rC a).cells 24 rfl rfl (Blk.new _ _ _) rfl (infoC' _) (Ck.cells_one _) w.heap.size w hb.size (hb.alloc hb.size _) ?_; intro W2 b1 hb2 ho; replace b0 := ho _ _ _ (Nat.ne_of_lt b0.lt) (b0.old _); replace hb := hb2; clear hb2 ho))
  generalize W1.heap.size = m1 at *
  go_upto_region 3 with (first
    | (refine wpList_load_blk rfl 24 _ rfl w.heap.size rfl c.cells _ b0 Tryd.underlying24 rfl (infoC' c) ?_)
    | (go_at_call 10; refine (rread_any c _ a o).mono ?_; rintro e W3 ⟨rfl, hb1⟩; replace b0 := b0.below b0.lt hb1; replace b1 := b1.below b1.lt hb1; replace hb := hb.trans (hb1.mono hb.size); clear hb1 W2)
    | (refine wpList_store_blk rfl 24 _ _ rfl _ zeroC.cells (c.rC a).cells 24 rfl rfl (Blk.new _ _ _) rfl (infoC' _) (Ck.cells_one _) w.heap.size w hb.size (hb.alloc hb.size _) ?_; intro W4 b2 hb2 ho; replace b1 := ho _ _ _ (Nat.ne_of_lt b1.lt) (b1.old _); replace hb := hb2; clear hb2 ho b0))
  generalize W3.heap.size = m3 at *
  go_wp2_with (first
    | (refine wpList_load_want (by rfl) 24 _ rfl _ rfl (c.rC a).cells _ b1 Tryd.underlying24 rfl (infoC' _) ?_)
    | (refine wpList_load_want (by rfl) 24 _ rfl _ rfl (c.rC a).cells _ b2 Tryd.underlying24 rfl (infoC' _) ?_))
  go_ret
  exact ⟨rfl, hb⟩
end Go.Proofs.YtjacadiaafcckaaDoor
