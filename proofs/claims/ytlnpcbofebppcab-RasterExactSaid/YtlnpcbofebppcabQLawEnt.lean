/-
  The law RasterExact returns true, one way of it; conditions: the numbers fit their kinds.
-/
import Derived.Test.YtlnpcbofebppcabQHand
import Derived.Test.YtlnpcbofebppcabQNear
import Derived.Test.YtlnpcbofebppcabQAdv
import Derived.Test.YtlnpcbofebppcabQExa
import Derived.Test.YtlnpcbofebppcabQNext
import Derived.Test.YtlnpcbofebppcabQLine
import Derived.Test.YtlnpcbofebppcabQAfter
import Derived.Test.YtlnpcbofebppcabQTick
import Derived.Test.YtlnpcbofebppcabQSpan2
set_option linter.unusedSimpArgs false
set_option linter.unusedVariables false
namespace Go.Proofs.Ytlnpcbofebppcab
open Go.RowKit Classical
set_option maxRecDepth 100000 in
set_option maxHeartbeats 2000000 in
theorem exact_nt (r : Rs) (k : Int) (w : World) (o : r.Ok) (k0 : -9223372036854775808 ≤ k) (k1 : k ≤ 9223372036854775807) (hn : r.nr.nmi = false) (hd : r.nr.draw = true) :
    Calls Try.prog 6 #[.agg r.cells, .int .i64 k] w fun e w' => e = .returned (.bool true) ∧ Below w.heap.size w w' := by
  have vx : r.nr.V := Rs.nr_v r
  have NR : Hid _ := fun (W : World) => near_any r W o
  clear o
  generalize r.nr = x at *
  have SK : Hid _ := fun (W : World) => span_low k 1 1073741824 W k0 k1 (by omega) (by omega) (by omega)
  obtain ⟨K0, K1⟩ := sp_bd k 1 1073741824 (by omega)
  generalize sp k 1 1073741824 = kk at *
  have nx_ : Hid _ := fun (W : World) => next_any x W vx.ok
  have A1 : Hid _ := fun (W : World) => aft_any x kk W vx.ok (by omega) (by omega)
  have A2 : Hid _ := fun (W : World) => aft_any x (1 - kk) W vx.ok (by omega) (by omega)
  have z2 : x.aftV (1 - kk) = 4611686018427387904 := by unfold Rs.aftV; rw [if_pos ((Rs.valid_iff x).2 vx), if_neg (by omega)]
  rw [z2] at A2
  clear z2
  have z1 : x.aftV kk = x.af kk := by unfold Rs.aftV; rw [if_pos ((Rs.valid_iff x).2 vx), if_pos ⟨hd, by omega, by omega⟩]
  rw [z1] at A1
  clear z1
  have t0 := Rs.af_pos vx hd kk K0
  have t1 := Rs.af_ub vx hd kk K0 K1
  obtain ⟨e1, e2⟩ := Rs.af_exact vx hd kk K0
  have C1 : Hid _ := fun (W : World) => adv_any x (x.af kk - 1) W vx.ok (by omega) (by omega)
  have vc := Rs.adv_v vx (x.af kk - 1)
  have C2 : Hid _ := fun (W : World) => tickV_any (x.adv (x.af kk - 1)) W vc.ok
  rw [e1] at C1
  rw [e2] at C2
  clear e1 e2 vc
  generalize (x.adv (x.af kk - 1)).adv 1 = cc2 at *
  generalize x.adv (x.af kk - 1) = cc at *
  generalize x.af kk = at_ at *
  have tb : decide (at_ < 1) = false := decide_eq_false (by omega)
  have tc : decide (4611686018427387904 ≤ at_) = false := decide_eq_false (by omega)
  have z3 : x.nextV = 4611686018427387904 := by unfold Rs.nextV; rw [if_pos ((Rs.valid_iff x).2 vx), hn]; rfl
  rw [z3] at nx_
  clear z3 vx
  go_enter Try.func6, Try.ntmps6
  go_upto_region 1 with fail
  have s0 : St w [(w.heap.size, r)] (w.alloc (.cells r.cells 23)) := St.start w r
  generalize w.alloc (.cells r.cells 23) = W0 at *
  go_upto_region 2 with (first
    | (refine wpList_load_blk rfl 23 _ rfl w.heap.size rfl (Rs.cells r) _ (s0.blk w.heap.size r (by simp)) Try.underlying23 rfl (infoR' _) ?_)
    | (go_at_call 8; refine (NR.out _).mono ?_; rintro e Wx ⟨rfl, hbx⟩; replace s0 := s0.on hbx; clear hbx)
    | (refine wpList_store_blk rfl 23 _ _ rfl w.heap.size _ (Rs.cells x) 23 rfl rfl (s0.blk w.heap.size _ (List.mem_cons_self ..)) rfl (infoR' _) (Rs.cells_one _) w.heap.size w (Nat.le_refl _) s0.2 ?_; intro Wy by1 hby hoy; replace s0 := St.sto s0 (by simp) by1 hby hoy; clear by1 hby hoy))
  go_upto_region 3 with (first
    | (refine wpList_load_blk rfl 23 _ rfl w.heap.size rfl (Rs.cells x) _ (s0.blk w.heap.size x (by simp)) Try.underlying23 rfl (infoR' _) ?_)
    | (go_at_call 10; refine (nx_.out _).mono ?_; rintro e Wx ⟨rfl, hbx⟩; replace s0 := s0.on hbx; clear hbx))
  have f4 : _ = some (Value.bool (x).nmi) := (s0.blk w.heap.size x (by simp)).cell 4
  rw [hn] at f4
  go_upto_region 12 with (first
    | fail)
  clear f4
  go_upto_region 13 with (first
    | (go_at_call 13; refine (SK.out _).mono ?_; rintro e Wx ⟨rfl, hbx⟩; replace s0 := s0.on hbx; clear hbx))
  go_upto_region 14 with (first
    | (refine wpList_load_blk rfl 23 _ rfl w.heap.size rfl (Rs.cells x) _ (s0.blk w.heap.size x (by simp)) Try.underlying23 rfl (infoR' _) ?_)
    | (go_at_call 16; refine (A1.out _).mono ?_; rintro e Wx ⟨rfl, hbx⟩; replace s0 := s0.on hbx; clear hbx))
  go_upto_region 15 with (first
    | (refine wpList_load_blk rfl 23 _ rfl w.heap.size rfl (Rs.cells x) _ (s0.blk w.heap.size x (by simp)) Try.underlying23 rfl (infoR' _) ?_)
    | (go_at_call 16; refine (A2.out _).mono ?_; rintro e Wx ⟨rfl, hbx⟩; replace s0 := s0.on hbx; clear hbx))
  go_upto_region 17 with (first
    | fail)
  have f5 : _ = some (Value.bool (x).draw) := (s0.blk w.heap.size x (by simp)).cell 5
  rw [hd] at f5
  go_upto_region 21 with (first
    | fail)
  clear f5
  go_upto_region 22 with (first
    | (refine wpList_load_blk rfl 23 _ rfl w.heap.size rfl (Rs.cells x) _ (s0.blk w.heap.size x (by simp)) Try.underlying23 rfl (infoR' _) ?_)
    | (go_at_call 11; refine (C1.out _).mono ?_; rintro e Wx ⟨rfl, hbx⟩; replace s0 := s0.on hbx; clear hbx)
    | (refine wpList_store_blk rfl 23 _ _ rfl Wx.heap.size zeroR.cells (Rs.cells cc) 23 rfl rfl (Blk.new Wx _ _) rfl (infoR' _) (Rs.cells_one _) w.heap.size w s0.2.size (s0.2.alloc s0.2.size _) ?_; intro Wy by1 hby hoy; replace s0 := St.more s0 by1 hby hoy; clear by1 hby hoy))
  generalize Wx.heap.size = m3 at *
  go_upto_region 23 with (first
    | (refine wpList_load_blk rfl 23 _ rfl m3 rfl (Rs.cells cc) _ (s0.blk m3 cc (by simp)) Try.underlying23 rfl (infoR' _) ?_)
    | (go_at_call 18; refine (C2.out _).mono ?_; rintro e Wx ⟨rfl, hbx⟩; replace s0 := s0.on hbx; clear hbx)
    | (refine wpList_store_blk rfl 23 _ _ rfl Wx.heap.size zeroR.cells (Rs.cells cc2) 23 rfl rfl (Blk.new Wx _ _) rfl (infoR' _) (Rs.cells_one _) w.heap.size w s0.2.size (s0.2.alloc s0.2.size _) ?_; intro Wy by1 hby hoy; replace s0 := St.more s0 by1 hby hoy; clear by1 hby hoy))
  go_wp2
  go_ret
  exact ⟨rfl, s0.2⟩
end Go.Proofs.Ytlnpcbofebppcab
