/-
  The law RasterDots returns true; conditions: the numbers fit their kinds.
-/
import Derived.Test.YtlnpcbofebppcaaQSt2
import Derived.Test.YtlnpcbofebppcaaQDotV
import Derived.Test.YtlnpcbofebppcaaQTick
import Derived.Test.YtlnpcbofebppcaaQRTick
import Derived.Test.YtlnpcbofebppcaaQRDotV
set_option linter.unusedSimpArgs false
set_option linter.unusedVariables false
namespace Go.Proofs.Ytlnpcbofebppcaa
open Go.RowKit Classical
set_option maxHeartbeats 2000000 in
theorem law_rasterDots (r : Rs) (w : World) (o : r.Ok) :
    Calls Try.prog 4 #[.agg r.cells] w fun e w' => e = .returned (.bool true) ∧ Below w.heap.size w w' := by
  have h1 : Hid _ := fun (W : World) => dotV_any r W o
  have h2 : Hid _ := fun (W : World) => rdotV_any r W o
  have h3 : Hid _ := fun (W : World) => tickV_any r W o
  have h4 : Hid _ := fun (W : World) => rtickV_any r W o
  have h5 : Hid _ := fun (W : World) => valid_any r W o
  have h6 : Hid _ := fun (W : World) => rvalid_any r W o
  clear o
  generalize r.dotV = d at *
  generalize r.dotC = dc at *
  generalize r.adv 1 = t at *
  generalize r.advK 1 = tk at *
  generalize r.valid = vl at *
  have q_8613 : ∀ W, (binOp .eql 23 (.agg (Rs.cells d)) (.agg (Rs.cells d))).run Try.prog W = .ok (.bool true) W := fun W => eql_yes W rfl
  have q_2872 : ∀ W, (binOp .eql 23 (.agg (Rs.cells t)) (.agg (Rs.cells t))).run Try.prog W = .ok (.bool true) W := fun W => eql_yes W rfl
  go_enter Try.func4, Try.ntmps4
  go_upto_region 1 with fail
  have s0 : St w [(w.heap.size, r)] (w.alloc (.cells r.cells 23)) := St.start w r
  generalize w.alloc (.cells r.cells 23) = W0 at *
  go_upto_region 2 with (first
    | (refine wpList_load_blk rfl 23 _ rfl w.heap.size rfl (Rs.cells r) _ (s0.blk w.heap.size r (by simp)) Try.underlying23 rfl (infoR' _) ?_)
    | (go_at_call 13; refine (h1.out _).mono ?_; rintro e Wx ⟨rfl, hbx⟩; replace s0 := s0.on hbx; clear hbx)
    | (refine wpList_store_blk rfl 23 _ _ rfl Wx.heap.size zeroR.cells (Rs.cells d) 23 rfl rfl (Blk.new Wx _ _) rfl (infoR' _) (Rs.cells_one _) w.heap.size w s0.2.size (s0.2.alloc s0.2.size _) ?_; intro Wy by1 hby hoy; replace s0 := St.more s0 by1 hby hoy; clear by1 hby hoy))
  generalize Wx.heap.size = m1 at *
  go_upto_region 3 with (first
    | (refine wpList_load_blk rfl 23 _ rfl w.heap.size rfl (Rs.cells r) _ (s0.blk w.heap.size r (by simp)) Try.underlying23 rfl (infoR' _) ?_)
    | (go_at_call 14; refine (h2.out _).mono ?_; rintro e Wx ⟨rfl, hbx⟩; replace s0 := s0.on hbx; clear hbx)
    | (refine wpList_store_blk rfl 23 _ _ rfl Wx.heap.size zeroR.cells (Rs.cells d) 23 rfl rfl (Blk.new Wx _ _) rfl (infoR' _) (Rs.cells_one _) w.heap.size w s0.2.size (s0.2.alloc s0.2.size _) ?_; intro Wy by1 hby hoy; replace s0 := St.more s0 by1 hby hoy; clear by1 hby hoy))
  generalize Wx.heap.size = m2 at *
  go_upto_region 4 with (first
    | (refine wpList_load_blk rfl 23 _ rfl w.heap.size rfl (Rs.cells r) _ (s0.blk w.heap.size r (by simp)) Try.underlying23 rfl (infoR' _) ?_)
    | (go_at_call 15; refine (h3.out _).mono ?_; rintro e Wx ⟨rfl, hbx⟩; replace s0 := s0.on hbx; clear hbx)
    | (refine wpList_store_blk rfl 23 _ _ rfl Wx.heap.size zeroR.cells (Rs.cells t) 23 rfl rfl (Blk.new Wx _ _) rfl (infoR' _) (Rs.cells_one _) w.heap.size w s0.2.size (s0.2.alloc s0.2.size _) ?_; intro Wy by1 hby hoy; replace s0 := St.more s0 by1 hby hoy; clear by1 hby hoy))
  generalize Wx.heap.size = m3 at *
  go_upto_region 5 with (first
    | (refine wpList_load_blk rfl 23 _ rfl w.heap.size rfl (Rs.cells r) _ (s0.blk w.heap.size r (by simp)) Try.underlying23 rfl (infoR' _) ?_)
    | (go_at_call 16; refine (h4.out _).mono ?_; rintro e Wx ⟨rfl, hbx⟩; replace s0 := s0.on hbx; clear hbx)
    | (refine wpList_store_blk rfl 23 _ _ rfl Wx.heap.size zeroR.cells (Rs.cells t) 23 rfl rfl (Blk.new Wx _ _) rfl (infoR' _) (Rs.cells_one _) w.heap.size w s0.2.size (s0.2.alloc s0.2.size _) ?_; intro Wy by1 hby hoy; replace s0 := St.more s0 by1 hby hoy; clear by1 hby hoy))
  generalize Wx.heap.size = m4 at *
  go_upto_region 7 with (first
    | (refine wpList_load_blk rfl 23 _ rfl w.heap.size rfl (Rs.cells r) _ (s0.blk w.heap.size r (by simp)) Try.underlying23 rfl (infoR' _) ?_)
    | (go_at_call 17; refine (h5.out _).mono ?_; rintro e Wx ⟨rfl, hbx⟩; replace s0 := s0.on hbx; clear hbx)
    | (go_at_call 18; refine (h6.out _).mono ?_; rintro e Wx ⟨rfl, hbx⟩; replace s0 := s0.on hbx; clear hbx))
  go_wp2_with (first
    | (refine wpList_load_blk rfl 23 _ rfl m1 rfl (Rs.cells d) _ (s0.blk m1 d (by simp)) Try.underlying23 rfl (infoR' _) ?_)
    | (refine wpList_load_blk rfl 23 _ rfl m2 rfl (Rs.cells d) _ (s0.blk m2 d (by simp)) Try.underlying23 rfl (infoR' _) ?_)
    | (refine wpList_load_want (by rfl) 23 _ rfl m3 rfl (Rs.cells t) _ (s0.blk m3 t (by simp)) Try.underlying23 rfl (infoR' _) ?_)
    | (refine wpList_load_want (by rfl) 23 _ rfl m4 rfl (Rs.cells t) _ (s0.blk m4 t (by simp)) Try.underlying23 rfl (infoR' _) ?_))
  go_ret
  exact ⟨rfl, s0.2⟩
end Go.Proofs.Ytlnpcbofebppcaa
