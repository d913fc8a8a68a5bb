/-
  The law RasterTouched returns true; conditions: the numbers fit their kinds.
-/
import Derived.Test.YtlnpcbofebppcaaQSt2
import Derived.Test.YtlnpcbofebppcaaQStat
import Derived.Test.YtlnpcbofebppcaaQRStat
import Derived.Test.YtlnpcbofebppcaaQPort
import Derived.Test.YtlnpcbofebppcaaQRPort
set_option linter.unusedSimpArgs false
set_option linter.unusedVariables false
namespace Go.Proofs.Ytlnpcbofebppcaa
open Go.RowKit Classical
set_option maxHeartbeats 2000000 in
theorem law_rasterTouched (r : Rs) (v : Int) (w : World) (o : r.Ok) (v0 : 0 ≤ v) (v1 : v ≤ 255) :
    Calls Try.prog 5 #[.agg r.cells, .int .u8 v] w fun e w' => e = .returned (.bool true) ∧ Below w.heap.size w w' := by
  have h1 : Hid _ := fun (W : World) => stat_any r W o
  have h2 : Hid _ := fun (W : World) => rstat_any r W o
  have h3 : Hid _ := fun (W : World) => ctrl_any r v W o v0 v1
  have h4 : Hid _ := fun (W : World) => rctrl_any r v W o v0 v1
  have h5 : Hid _ := fun (W : World) => mask_any r v W o v0 v1
  have h6 : Hid _ := fun (W : World) => rmask_any r v W o v0 v1
  clear o
  generalize r.stat = s at *
  generalize r.statV = sv at *
  generalize r.ctrl v = c at *
  generalize r.mask v = k at *
  have q_8936 : ∀ W, (binOp .eql 23 (.agg (Rs.cells s)) (.agg (Rs.cells s))).run Try.prog W = .ok (.bool true) W := fun W => eql_yes W rfl
  have q_4688 : ∀ W, (binOp .eql 23 (.agg (Rs.cells c)) (.agg (Rs.cells c))).run Try.prog W = .ok (.bool true) W := fun W => eql_yes W rfl
  have q_5441 : ∀ W, (binOp .eql 23 (.agg (Rs.cells k)) (.agg (Rs.cells k))).run Try.prog W = .ok (.bool true) W := fun W => eql_yes W rfl
  go_enter Try.func5, Try.ntmps5
  go_upto_region 1 with fail
  have s0 : St w [(w.heap.size, r)] (w.alloc (.cells r.cells 23)) := St.start w r
  generalize w.alloc (.cells r.cells 23) = W0 at *
  go_upto_region 2 with (first
    | (refine wpList_load_blk rfl 23 _ rfl w.heap.size rfl (Rs.cells r) _ (s0.blk w.heap.size r (by simp)) Try.underlying23 rfl (infoR' _) ?_)
    | (go_at_call 19; refine (h1.out _).mono ?_; rintro e Wx ⟨rfl, hbx⟩; replace s0 := s0.on hbx; clear hbx)
    | (refine wpList_store_blk rfl 23 _ _ rfl Wx.heap.size zeroR.cells (Rs.cells s) 23 rfl rfl (Blk.new Wx _ _) rfl (infoR' _) (Rs.cells_one _) w.heap.size w s0.2.size (s0.2.alloc s0.2.size _) ?_; intro Wy by1 hby hoy; replace s0 := St.more s0 by1 hby hoy; clear by1 hby hoy))
  generalize Wx.heap.size = m1 at *
  go_upto_region 3 with (first
    | (refine wpList_load_blk rfl 23 _ rfl w.heap.size rfl (Rs.cells r) _ (s0.blk w.heap.size r (by simp)) Try.underlying23 rfl (infoR' _) ?_)
    | (go_at_call 20; refine (h2.out _).mono ?_; rintro e Wx ⟨rfl, hbx⟩; replace s0 := s0.on hbx; clear hbx)
    | (refine wpList_store_blk rfl 23 _ _ rfl Wx.heap.size zeroR.cells (Rs.cells s) 23 rfl rfl (Blk.new Wx _ _) rfl (infoR' _) (Rs.cells_one _) w.heap.size w s0.2.size (s0.2.alloc s0.2.size _) ?_; intro Wy by1 hby hoy; replace s0 := St.more s0 by1 hby hoy; clear by1 hby hoy))
  generalize Wx.heap.size = m2 at *
  go_upto_region 4 with (first
    | (refine wpList_load_blk rfl 23 _ rfl w.heap.size rfl (Rs.cells r) _ (s0.blk w.heap.size r (by simp)) Try.underlying23 rfl (infoR' _) ?_)
    | (go_at_call 10; refine (h3.out _).mono ?_; rintro e Wx ⟨rfl, hbx⟩; replace s0 := s0.on hbx; clear hbx)
    | (refine wpList_store_blk rfl 23 _ _ rfl Wx.heap.size zeroR.cells (Rs.cells c) 23 rfl rfl (Blk.new Wx _ _) rfl (infoR' _) (Rs.cells_one _) w.heap.size w s0.2.size (s0.2.alloc s0.2.size _) ?_; intro Wy by1 hby hoy; replace s0 := St.more s0 by1 hby hoy; clear by1 hby hoy))
  generalize Wx.heap.size = m3 at *
  go_upto_region 5 with (first
    | (refine wpList_load_blk rfl 23 _ rfl w.heap.size rfl (Rs.cells r) _ (s0.blk w.heap.size r (by simp)) Try.underlying23 rfl (infoR' _) ?_)
    | (go_at_call 21; refine (h4.out _).mono ?_; rintro e Wx ⟨rfl, hbx⟩; replace s0 := s0.on hbx; clear hbx)
    | (refine wpList_store_blk rfl 23 _ _ rfl Wx.heap.size zeroR.cells (Rs.cells c) 23 rfl rfl (Blk.new Wx _ _) rfl (infoR' _) (Rs.cells_one _) w.heap.size w s0.2.size (s0.2.alloc s0.2.size _) ?_; intro Wy by1 hby hoy; replace s0 := St.more s0 by1 hby hoy; clear by1 hby hoy))
  generalize Wx.heap.size = m4 at *
  go_upto_region 6 with (first
    | (refine wpList_load_blk rfl 23 _ rfl w.heap.size rfl (Rs.cells r) _ (s0.blk w.heap.size r (by simp)) Try.underlying23 rfl (infoR' _) ?_)
    | (go_at_call 12; refine (h5.out _).mono ?_; rintro e Wx ⟨rfl, hbx⟩; replace s0 := s0.on hbx; clear hbx)
    | (refine wpList_store_blk rfl 23 _ _ rfl Wx.heap.size zeroR.cells (Rs.cells k) 23 rfl rfl (Blk.new Wx _ _) rfl (infoR' _) (Rs.cells_one _) w.heap.size w s0.2.size (s0.2.alloc s0.2.size _) ?_; intro Wy by1 hby hoy; replace s0 := St.more s0 by1 hby hoy; clear by1 hby hoy))
  generalize Wx.heap.size = m5 at *
  go_upto_region 7 with (first
    | (refine wpList_load_blk rfl 23 _ rfl w.heap.size rfl (Rs.cells r) _ (s0.blk w.heap.size r (by simp)) Try.underlying23 rfl (infoR' _) ?_)
    | (go_at_call 22; refine (h6.out _).mono ?_; rintro e Wx ⟨rfl, hbx⟩; replace s0 := s0.on hbx; clear hbx)
    | (refine wpList_store_blk rfl 23 _ _ rfl Wx.heap.size zeroR.cells (Rs.cells k) 23 rfl rfl (Blk.new Wx _ _) rfl (infoR' _) (Rs.cells_one _) w.heap.size w s0.2.size (s0.2.alloc s0.2.size _) ?_; intro Wy by1 hby hoy; replace s0 := St.more s0 by1 hby hoy; clear by1 hby hoy))
  generalize Wx.heap.size = m6 at *
  go_wp2_with (first
    | (refine wpList_load_want (by rfl) 23 _ rfl m1 rfl (Rs.cells s) _ (s0.blk m1 s (by simp)) Try.underlying23 rfl (infoR' _) ?_)
    | (refine wpList_load_want (by rfl) 23 _ rfl m2 rfl (Rs.cells s) _ (s0.blk m2 s (by simp)) Try.underlying23 rfl (infoR' _) ?_)
    | (refine wpList_load_want (by rfl) 23 _ rfl m3 rfl (Rs.cells c) _ (s0.blk m3 c (by simp)) Try.underlying23 rfl (infoR' _) ?_)
    | (refine wpList_load_want (by rfl) 23 _ rfl m4 rfl (Rs.cells c) _ (s0.blk m4 c (by simp)) Try.underlying23 rfl (infoR' _) ?_)
    | (refine wpList_load_want (by rfl) 23 _ rfl m5 rfl (Rs.cells k) _ (s0.blk m5 k (by simp)) Try.underlying23 rfl (infoR' _) ?_)
    | (refine wpList_load_want (by rfl) 23 _ rfl m6 rfl (Rs.cells k) _ (s0.blk m6 k (by simp)) Try.underlying23 rfl (infoR' _) ?_))
  go_ret
  exact ⟨rfl, s0.2⟩
end Go.Proofs.Ytlnpcbofebppcaa
