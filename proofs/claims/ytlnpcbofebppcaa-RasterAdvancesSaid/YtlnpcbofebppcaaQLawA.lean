/-
  The law RasterAdvances returns true; conditions: the numbers fit their kinds.
-/
import Derived.Test.YtlnpcbofebppcaaQSt2
import Derived.Test.YtlnpcbofebppcaaQAdv
import Derived.Test.YtlnpcbofebppcaaQRAdv
set_option linter.unusedSimpArgs false
set_option linter.unusedVariables false
namespace Go.Proofs.Ytlnpcbofebppcaa
open Go.RowKit Classical
set_option maxHeartbeats 2000000 in
theorem law_rasterAdvances (r : Rs) (n : Int) (w : World) (o : r.Ok) (n0 : -9223372036854775808 ≤ n) (n1 : n ≤ 9223372036854775807) :
    Calls Try.prog 8 #[.agg r.cells, .int .i64 n] w fun e w' => e = .returned (.bool true) ∧ Below w.heap.size w w' := by
  have h1 : Hid _ := fun (W : World) => adv_any r n W o n0 n1
  have h2 : Hid _ := fun (W : World) => radv_any r n W o n0 n1
  clear o
  generalize r.adv n = t at *
  generalize r.advK n = tk at *
  have q_2872 : ∀ W, (binOp .eql 23 (.agg (Rs.cells t)) (.agg (Rs.cells t))).run Try.prog W = .ok (.bool true) W := fun W => eql_yes W rfl
  go_enter Try.func8, Try.ntmps8
  go_upto_region 1 with fail
  have s0 : St w [(w.heap.size, r)] (w.alloc (.cells r.cells 23)) := St.start w r
  generalize w.alloc (.cells r.cells 23) = W0 at *
  go_upto_region 2 with (first
    | (refine wpList_load_blk rfl 23 _ rfl w.heap.size rfl (Rs.cells r) _ (s0.blk w.heap.size r (by simp)) Try.underlying23 rfl (infoR' _) ?_)
    | (go_at_call 23; refine (h1.out _).mono ?_; rintro e Wx ⟨rfl, hbx⟩; replace s0 := s0.on hbx; clear hbx)
    | (refine wpList_store_blk rfl 23 _ _ rfl Wx.heap.size zeroR.cells (Rs.cells t) 23 rfl rfl (Blk.new Wx _ _) rfl (infoR' _) (Rs.cells_one _) w.heap.size w s0.2.size (s0.2.alloc s0.2.size _) ?_; intro Wy by1 hby hoy; replace s0 := St.more s0 by1 hby hoy; clear by1 hby hoy))
  generalize Wx.heap.size = m1 at *
  go_upto_region 3 with (first
    | (refine wpList_load_blk rfl 23 _ rfl w.heap.size rfl (Rs.cells r) _ (s0.blk w.heap.size r (by simp)) Try.underlying23 rfl (infoR' _) ?_)
    | (go_at_call 25; refine (h2.out _).mono ?_; rintro e Wx ⟨rfl, hbx⟩; replace s0 := s0.on hbx; clear hbx)
    | (refine wpList_store_blk rfl 23 _ _ rfl Wx.heap.size zeroR.cells (Rs.cells t) 23 rfl rfl (Blk.new Wx _ _) rfl (infoR' _) (Rs.cells_one _) w.heap.size w s0.2.size (s0.2.alloc s0.2.size _) ?_; intro Wy by1 hby hoy; replace s0 := St.more s0 by1 hby hoy; clear by1 hby hoy))
  generalize Wx.heap.size = m2 at *
  go_wp2_with (first
    | (refine wpList_load_blk rfl 23 _ rfl m1 rfl (Rs.cells t) _ (s0.blk m1 t (by simp)) Try.underlying23 rfl (infoR' _) ?_)
    | (refine wpList_load_blk rfl 23 _ rfl m2 rfl (Rs.cells t) _ (s0.blk m2 t (by simp)) Try.underlying23 rfl (infoR' _) ?_))
  go_ret
  exact ⟨rfl, s0.2⟩
end Go.Proofs.Ytlnpcbofebppcaa
