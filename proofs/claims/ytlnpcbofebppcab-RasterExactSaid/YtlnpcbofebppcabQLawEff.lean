/-
  The law RasterExact returns true, one way of it; conditions: the numbers fit their kinds.
-/
import Derived.Test.YtlnpcbofebppcabQHand
import Derived.Test.YtlnpcbofebppcabQNear
import Derived.Test.YtlnpcbofebppcabQAdv
import Derived.Test.YtlnpcbofebppcabQExa
import Derived.Test.YtlnpcbofebppcabQNext
import Derived.Test.YtlnpcbofebppcabQLine
import Derived.Test.YtlnpcbofebppcabQAfter
import Derived.Test.YtlnpcbofebppcabQTick
import Derived.Test.YtlnpcbofebppcabQSpan2
set_option linter.unusedSimpArgs false
set_option linter.unusedVariables false
namespace Go.Proofs.Ytlnpcbofebppcab
open Go.RowKit Classical
set_option maxRecDepth 100000 in
set_option maxHeartbeats 2000000 in
theorem exact_ff (r : Rs) (k : Int) (w : World) (o : r.Ok) (k0 : -9223372036854775808 ≤ k) (k1 : k ≤ 9223372036854775807) (hn : r.nr.nmi = true) (hd : r.nr.draw = false) (hv : r.nr.vbl = false) :
    Calls Try.prog 6 #[.agg r.cells, .int .i64 k] w fun e w' => e = .returned (.bool true) ∧ Below w.heap.size w w' := by
  have vx : r.nr.V := Rs.nr_v r
  have NR : Hid _ := fun (W : World) => near_any r W o
  clear o
  generalize r.nr = x at *
  have SK : Hid _ := fun (W : World) => span_low k 1 1073741824 W k0 k1 (by omega) (by omega) (by omega)
  obtain ⟨K0, K1⟩ := sp_bd k 1 1073741824 (by omega)
  generalize sp k 1 1073741824 = kk at *
  have nx_ : Hid _ := fun (W : World) => next_any x W vx.ok
  have A1 : Hid _ := fun (W : World) => aft_any x kk W vx.ok (by omega) (by omega)
  have A2 : Hid _ := fun (W : World) => aft_any x (1 - kk) W vx.ok (by omega) (by omega)
  have z2 : x.aftV (1 - kk) = 4611686018427387904 := by unfold Rs.aftV; rw [if_pos ((Rs.valid_iff x).2 vx), if_neg (by omega)]
  rw [z2] at A2
  clear z2
  have z1 : x.aftV kk = 4611686018427387904 := by unfold Rs.aftV; rw [if_pos ((Rs.valid_iff x).2 vx), if_neg (by rw [hd]; simp)]
  rw [z1] at A1
  clear z1
  rw [Rs.nextV_on vx hn] at nx_
  have lx : Hid _ := fun (W : World) => line_any x W vx.ok
  rw [Rs.nmiL_on vx hn, hv] at lx
  obtain ⟨N0, N1⟩ := Rs.nx_pos vx
  obtain ⟨s1, s2⟩ := Rs.adv_succ vx x.nx N0
  have va := Rs.adv_v vx (x.nx - 1)
  have vb := Rs.adv_v vx x.nx
  have D1 : Hid _ := fun (W : World) => adv_any x (x.nx - 1) W vx.ok (by omega) (by omega)
  have D2 : Hid _ := fun (W : World) => tickV_any (x.adv (x.nx - 1)) W va.ok
  rw [s1] at D2
  have la : Hid _ := fun (W : World) => line_any (x.adv (x.nx - 1)) W va.ok
  rw [Rs.nmiL_on va ((Rs.adv_keeps vx _).1.trans hn), Rs.nx_less vx, hv] at la
  have lb : Hid _ := fun (W : World) => line_any (x.adv x.nx) W vb.ok
  rw [Rs.nmiL_on vb ((Rs.adv_keeps vx _).1.trans hn), (Rs.adv_nx vx).1, hv] at lb
  simp only [Bool.not_true, Bool.not_false] at lb
  clear s1 s2 va vb vx
  generalize (x.adv (x.nx - 1)).advK 1 = kb at *
  generalize x.advK (x.nx - 1) = ka at *
  generalize x.adv (x.nx - 1) = a at *
  generalize x.adv x.nx = b at *
  generalize x.nx = N at *
  have nb : decide (N < 1) = false := decide_eq_false (by omega)
  have nc : decide (4611686018427387904 ≤ N) = false := decide_eq_false (by omega)
  go_enter Try.func6, Try.ntmps6
  go_upto_region 1 with fail
  have s0 : St w [(w.heap.size, r)] (w.alloc (.cells r.cells 23)) := St.start w r
  generalize w.alloc (.cells r.cells 23) = W0 at *
  go_upto_region 2 with (first
    | (refine wpList_load_blk rfl 23 _ rfl w.heap.size rfl (Rs.cells r) _ (s0.blk w.heap.size r (by simp)) Try.underlying23 rfl (infoR' _) ?_)
    | (go_at_call 8; refine (NR.out _).mono ?_; rintro e Wx ⟨rfl, hbx⟩; replace s0 := s0.on hbx; clear hbx)
    | (refine wpList_store_blk rfl 23 _ _ rfl w.heap.size _ (Rs.cells x) 23 rfl rfl (s0.blk w.heap.size _ (List.mem_cons_self ..)) rfl (infoR' _) (Rs.cells_one _) w.heap.size w (Nat.le_refl _) s0.2 ?_; intro Wy by1 hby hoy; replace s0 := St.sto s0 (by simp) by1 hby hoy; clear by1 hby hoy))
  go_upto_region 3 with (first
    | (refine wpList_load_blk rfl 23 _ rfl w.heap.size rfl (Rs.cells x) _ (s0.blk w.heap.size x (by simp)) Try.underlying23 rfl (infoR' _) ?_)
    | (go_at_call 10; refine (nx_.out _).mono ?_; rintro e Wx ⟨rfl, hbx⟩; replace s0 := s0.on hbx; clear hbx))
  have f4 : _ = some (Value.bool (x).nmi) := (s0.blk w.heap.size x (by simp)).cell 4
  rw [hn] at f4
  go_upto_region 8 with (first
    | fail)
  clear f4
  go_upto_region 9 with (first
    | (refine wpList_load_blk rfl 23 _ rfl w.heap.size rfl (Rs.cells x) _ (s0.blk w.heap.size x (by simp)) Try.underlying23 rfl (infoR' _) ?_)
    | (go_at_call 11; refine (D1.out _).mono ?_; rintro e Wx ⟨rfl, hbx⟩; replace s0 := s0.on hbx; clear hbx)
    | (refine wpList_store_blk rfl 23 _ _ rfl Wx.heap.size zeroR.cells (Rs.cells a) 23 rfl rfl (Blk.new Wx _ _) rfl (infoR' _) (Rs.cells_one _) w.heap.size w s0.2.size (s0.2.alloc s0.2.size _) ?_; intro Wy by1 hby hoy; replace s0 := St.more s0 by1 hby hoy; clear by1 hby hoy))
  generalize Wx.heap.size = m1 at *
  go_upto_region 10 with (first
    | (refine wpList_load_blk rfl 23 _ rfl m1 rfl (Rs.cells a) _ (s0.blk m1 a (by simp)) Try.underlying23 rfl (infoR' _) ?_)
    | (go_at_call 18; refine (D2.out _).mono ?_; rintro e Wx ⟨rfl, hbx⟩; replace s0 := s0.on hbx; clear hbx)
    | (refine wpList_store_blk rfl 23 _ _ rfl Wx.heap.size zeroR.cells (Rs.cells b) 23 rfl rfl (Blk.new Wx _ _) rfl (infoR' _) (Rs.cells_one _) w.heap.size w s0.2.size (s0.2.alloc s0.2.size _) ?_; intro Wy by1 hby hoy; replace s0 := St.more s0 by1 hby hoy; clear by1 hby hoy))
  generalize Wx.heap.size = m2 at *
  refine wp_region_held (S := St w [(m2, b), (m1, a), (w.heap.size, x)]) (by kernel_rfl) ?_
  refine takeH (i := 0) (v := .agg (Rs.cells a).toList.toArray) ⟨#[.agg (Rs.cells r), .int .i64 k, .pointer (some ⟨w.heap.size, 0, none⟩), undef, .bool false, .int .i64 N, .pointer (some ⟨m1, 0, none⟩), .int .i64 ka, .pointer (some ⟨m2, 0, none⟩), .int .i64 kb, undef, undef, undef, undef, undef, undef, .agg (Rs.cells r), .agg (Rs.cells x), .agg (Rs.cells x), .int .i64 N, .pointer (some ⟨w.heap.size, 4, none⟩), .bool true, .bool false, .bool false, undef, undef, .bool false, .pointer (some ⟨w.heap.size, 4, none⟩), .bool true, .int .i64 N, .bool false, .bool false, .int .i64 N, .bool false, .bool false, .tuple #[.agg (Rs.cells a), .int .i64 ka], .agg (Rs.cells x), .int .i64 N, .int .i64 (N - 1), .tuple #[.agg (Rs.cells a), .int .i64 ka], .agg (Rs.cells a), .int .i64 ka, .tuple #[.agg (Rs.cells b), .int .i64 kb], .agg (Rs.cells a), .tuple #[.agg (Rs.cells b), .int .i64 kb], .agg (Rs.cells b), .int .i64 kb, .agg (Rs.cells a), undef, undef, undef, undef, undef, undef, undef, undef, undef, undef, undef, undef, undef, undef, undef, undef, undef, undef, undef, undef, undef, undef, undef, undef, undef, undef, undef, undef, undef, undef, undef, undef, undef, undef, undef, undef, undef, undef, undef, undef, undef, undef, undef, undef, undef, undef, undef, undef, undef, undef, undef, undef, undef], []⟩ rfl (by kernel_rfl) (by kernel_rfl) (by kernel_rfl) (fun _ _ _ h => h) (yieldsIf_load_mid (by kernel_rfl) 23 (.tmp 6) rfl m1 0 (by kernel_rfl) (Rs.cells a).toList _ (fun v hv => Blk.range' (hv.blk m1 a (by simp))) Try.underlying23 rfl (by rw [Array.length_toList]; exact infoR' a)) s0.drew (by kernel_rfl) ?_
  refine takeH (i := 2) (v := .agg (Rs.cells x).toList.toArray) ⟨#[.agg (Rs.cells r), .int .i64 k, .pointer (some ⟨w.heap.size, 0, none⟩), undef, .bool false, .int .i64 N, .pointer (some ⟨m1, 0, none⟩), .int .i64 ka, .pointer (some ⟨m2, 0, none⟩), .int .i64 kb, undef, undef, undef, undef, undef, undef, .agg (Rs.cells r), .agg (Rs.cells x), .agg (Rs.cells x), .int .i64 N, .pointer (some ⟨w.heap.size, 4, none⟩), .bool true, .bool false, .bool false, undef, undef, .bool false, .pointer (some ⟨w.heap.size, 4, none⟩), .bool true, .int .i64 N, .bool false, .bool false, .int .i64 N, .bool false, .bool false, .tuple #[.agg (Rs.cells a), .int .i64 ka], .agg (Rs.cells x), .int .i64 N, .int .i64 (N - 1), .tuple #[.agg (Rs.cells a), .int .i64 ka], .agg (Rs.cells a), .int .i64 ka, .tuple #[.agg (Rs.cells b), .int .i64 kb], .agg (Rs.cells a), .tuple #[.agg (Rs.cells b), .int .i64 kb], .agg (Rs.cells b), .int .i64 kb, .agg (Rs.cells a), undef, .agg (Rs.cells x), undef, undef, undef, undef, undef, undef, undef, undef, undef, undef, undef, undef, undef, undef, undef, undef, undef, undef, undef, undef, undef, undef, undef, undef, undef, undef, undef, undef, undef, undef, undef, undef, undef, undef, undef, undef, undef, undef, undef, undef, undef, undef, undef, undef, undef, undef, undef, undef, undef, undef, undef], []⟩ rfl (by kernel_rfl) (by kernel_rfl) (by kernel_rfl) (fun _ _ _ h => h) (yieldsIf_load_mid (by kernel_rfl) 23 (.tmp 2) rfl w.heap.size 0 (by kernel_rfl) (Rs.cells x).toList _ (fun v hv => Blk.range' (hv.blk w.heap.size x (by simp))) Try.underlying23 rfl (by rw [Array.length_toList]; exact infoR' x)) s0.drew (by kernel_rfl) ?_
  refine wpAnyH_all (rs := [1]) (by kernel_rfl) (by simp) ?_
  intro i hi
  obtain rfl : i = 1 := by simpa using hi
  refine wpOp_contract (f := 9) rfl (by kernel_rfl) (by kernel_rfl) (la.out _) ⟨#[.agg (Rs.cells r), .int .i64 k, .pointer (some ⟨w.heap.size, 0, none⟩), undef, .bool false, .int .i64 N, .pointer (some ⟨m1, 0, none⟩), .int .i64 ka, .pointer (some ⟨m2, 0, none⟩), .int .i64 kb, undef, undef, undef, undef, undef, undef, .agg (Rs.cells r), .agg (Rs.cells x), .agg (Rs.cells x), .int .i64 N, .pointer (some ⟨w.heap.size, 4, none⟩), .bool true, .bool false, .bool false, undef, undef, .bool false, .pointer (some ⟨w.heap.size, 4, none⟩), .bool true, .int .i64 N, .bool false, .bool false, .int .i64 N, .bool false, .bool false, .tuple #[.agg (Rs.cells a), .int .i64 ka], .agg (Rs.cells x), .int .i64 N, .int .i64 (N - 1), .tuple #[.agg (Rs.cells a), .int .i64 ka], .agg (Rs.cells a), .int .i64 ka, .tuple #[.agg (Rs.cells b), .int .i64 kb], .agg (Rs.cells a), .tuple #[.agg (Rs.cells b), .int .i64 kb], .agg (Rs.cells b), .int .i64 kb, .agg (Rs.cells a), .bool false, .agg (Rs.cells x), undef, undef, undef, undef, undef, undef, undef, undef, undef, undef, undef, undef, undef, undef, undef, undef, undef, undef, undef, undef, undef, undef, undef, undef, undef, undef, undef, undef, undef, undef, undef, undef, undef, undef, undef, undef, undef, undef, undef, undef, undef, undef, undef, undef, undef, undef, undef, undef, undef, undef, undef], []⟩ (by kernel_rfl) ?_
  intro V1 hbq
  have s1 := s0.drew.on hbq
  clear hbq
  clear hi
  refine ⟨s1, ?_⟩
  refine wpAnyH_all (rs := [3]) (by kernel_rfl) (by simp) ?_
  intro i hi
  obtain rfl : i = 3 := by simpa using hi
  refine wpOp_contract (f := 9) rfl (by kernel_rfl) (by kernel_rfl) (lx.out _) ⟨#[.agg (Rs.cells r), .int .i64 k, .pointer (some ⟨w.heap.size, 0, none⟩), undef, .bool false, .int .i64 N, .pointer (some ⟨m1, 0, none⟩), .int .i64 ka, .pointer (some ⟨m2, 0, none⟩), .int .i64 kb, undef, undef, undef, undef, undef, undef, .agg (Rs.cells r), .agg (Rs.cells x), .agg (Rs.cells x), .int .i64 N, .pointer (some ⟨w.heap.size, 4, none⟩), .bool true, .bool false, .bool false, undef, undef, .bool false, .pointer (some ⟨w.heap.size, 4, none⟩), .bool true, .int .i64 N, .bool false, .bool false, .int .i64 N, .bool false, .bool false, .tuple #[.agg (Rs.cells a), .int .i64 ka], .agg (Rs.cells x), .int .i64 N, .int .i64 (N - 1), .tuple #[.agg (Rs.cells a), .int .i64 ka], .agg (Rs.cells a), .int .i64 ka, .tuple #[.agg (Rs.cells b), .int .i64 kb], .agg (Rs.cells a), .tuple #[.agg (Rs.cells b), .int .i64 kb], .agg (Rs.cells b), .int .i64 kb, .agg (Rs.cells a), .bool false, .agg (Rs.cells x), .bool false, undef, undef, undef, undef, undef, undef, undef, undef, undef, undef, undef, undef, undef, undef, undef, undef, undef, undef, undef, undef, undef, undef, undef, undef, undef, undef, undef, undef, undef, undef, undef, undef, undef, undef, undef, undef, undef, undef, undef, undef, undef, undef, undef, undef, undef, undef, undef, undef, undef, undef], []⟩ (by kernel_rfl) ?_
  intro V2 hbq
  have s2 := s1.on hbq
  clear hbq
  clear hi
  refine ⟨s2, ?_⟩
  refine takeH (i := 4) (v := .bool false) ⟨#[.agg (Rs.cells r), .int .i64 k, .pointer (some ⟨w.heap.size, 0, none⟩), undef, .bool false, .int .i64 N, .pointer (some ⟨m1, 0, none⟩), .int .i64 ka, .pointer (some ⟨m2, 0, none⟩), .int .i64 kb, undef, undef, undef, undef, undef, undef, .agg (Rs.cells r), .agg (Rs.cells x), .agg (Rs.cells x), .int .i64 N, .pointer (some ⟨w.heap.size, 4, none⟩), .bool true, .bool false, .bool false, undef, undef, .bool false, .pointer (some ⟨w.heap.size, 4, none⟩), .bool true, .int .i64 N, .bool false, .bool false, .int .i64 N, .bool false, .bool false, .tuple #[.agg (Rs.cells a), .int .i64 ka], .agg (Rs.cells x), .int .i64 N, .int .i64 (N - 1), .tuple #[.agg (Rs.cells a), .int .i64 ka], .agg (Rs.cells a), .int .i64 ka, .tuple #[.agg (Rs.cells b), .int .i64 kb], .agg (Rs.cells a), .tuple #[.agg (Rs.cells b), .int .i64 kb], .agg (Rs.cells b), .int .i64 kb, .agg (Rs.cells a), .bool false, .agg (Rs.cells x), .bool false, .bool false, undef, undef, undef, undef, undef, undef, undef, undef, undef, undef, undef, undef, undef, undef, undef, undef, undef, undef, undef, undef, undef, undef, undef, undef, undef, undef, undef, undef, undef, undef, undef, undef, undef, undef, undef, undef, undef, undef, undef, undef, undef, undef, undef, undef, undef, undef, undef, undef, undef], []⟩ rfl (by kernel_rfl) (by kernel_rfl) (by kernel_rfl) (fun _ _ _ h => h) (.inl ⟨by kernel_rfl, fun _ _ => by kernel_rfl⟩) s2 (by kernel_rfl) ?_
  refine takeH (i := 5) (v := .bool false) ⟨#[.agg (Rs.cells r), .int .i64 k, .pointer (some ⟨w.heap.size, 0, none⟩), undef, .bool false, .int .i64 N, .pointer (some ⟨m1, 0, none⟩), .int .i64 ka, .pointer (some ⟨m2, 0, none⟩), .int .i64 kb, undef, undef, undef, undef, undef, undef, .agg (Rs.cells r), .agg (Rs.cells x), .agg (Rs.cells x), .int .i64 N, .pointer (some ⟨w.heap.size, 4, none⟩), .bool true, .bool false, .bool false, undef, undef, .bool false, .pointer (some ⟨w.heap.size, 4, none⟩), .bool true, .int .i64 N, .bool false, .bool false, .int .i64 N, .bool false, .bool false, .tuple #[.agg (Rs.cells a), .int .i64 ka], .agg (Rs.cells x), .int .i64 N, .int .i64 (N - 1), .tuple #[.agg (Rs.cells a), .int .i64 ka], .agg (Rs.cells a), .int .i64 ka, .tuple #[.agg (Rs.cells b), .int .i64 kb], .agg (Rs.cells a), .tuple #[.agg (Rs.cells b), .int .i64 kb], .agg (Rs.cells b), .int .i64 kb, .agg (Rs.cells a), .bool false, .agg (Rs.cells x), .bool false, .bool false, .bool false, undef, undef, undef, undef, undef, undef, undef, undef, undef, undef, undef, undef, undef, undef, undef, undef, undef, undef, undef, undef, undef, undef, undef, undef, undef, undef, undef, undef, undef, undef, undef, undef, undef, undef, undef, undef, undef, undef, undef, undef, undef, undef, undef, undef, undef, undef, undef, undef], []⟩ rfl (by kernel_rfl) (by kernel_rfl) (by kernel_rfl) (fun _ _ _ h => h) (.inl ⟨by kernel_rfl, fun _ _ => by kernel_rfl⟩) s2 (by kernel_rfl) ?_
  refine takeH (i := 6) (v := .agg (Rs.cells b).toList.toArray) ⟨#[.agg (Rs.cells r), .int .i64 k, .pointer (some ⟨w.heap.size, 0, none⟩), undef, .bool false, .int .i64 N, .pointer (some ⟨m1, 0, none⟩), .int .i64 ka, .pointer (some ⟨m2, 0, none⟩), .int .i64 kb, undef, undef, undef, undef, undef, undef, .agg (Rs.cells r), .agg (Rs.cells x), .agg (Rs.cells x), .int .i64 N, .pointer (some ⟨w.heap.size, 4, none⟩), .bool true, .bool false, .bool false, undef, undef, .bool false, .pointer (some ⟨w.heap.size, 4, none⟩), .bool true, .int .i64 N, .bool false, .bool false, .int .i64 N, .bool false, .bool false, .tuple #[.agg (Rs.cells a), .int .i64 ka], .agg (Rs.cells x), .int .i64 N, .int .i64 (N - 1), .tuple #[.agg (Rs.cells a), .int .i64 ka], .agg (Rs.cells a), .int .i64 ka, .tuple #[.agg (Rs.cells b), .int .i64 kb], .agg (Rs.cells a), .tuple #[.agg (Rs.cells b), .int .i64 kb], .agg (Rs.cells b), .int .i64 kb, .agg (Rs.cells a), .bool false, .agg (Rs.cells x), .bool false, .bool false, .bool false, .agg (Rs.cells b), undef, undef, undef, undef, undef, undef, undef, undef, undef, undef, undef, undef, undef, undef, undef, undef, undef, undef, undef, undef, undef, undef, undef, undef, undef, undef, undef, undef, undef, undef, undef, undef, undef, undef, undef, undef, undef, undef, undef, undef, undef, undef, undef, undef, undef, undef, undef], []⟩ rfl (by kernel_rfl) (by kernel_rfl) (by kernel_rfl) (fun _ _ _ h => h) (yieldsIf_load_mid (by kernel_rfl) 23 (.tmp 8) rfl m2 0 (by kernel_rfl) (Rs.cells b).toList _ (fun v hv => Blk.range' (hv.blk m2 b (by simp))) Try.underlying23 rfl (by rw [Array.length_toList]; exact infoR' b)) s2 (by kernel_rfl) ?_
  refine takeH (i := 8) (v := .agg (Rs.cells x).toList.toArray) ⟨#[.agg (Rs.cells r), .int .i64 k, .pointer (some ⟨w.heap.size, 0, none⟩), undef, .bool false, .int .i64 N, .pointer (some ⟨m1, 0, none⟩), .int .i64 ka, .pointer (some ⟨m2, 0, none⟩), .int .i64 kb, undef, undef, undef, undef, undef, undef, .agg (Rs.cells r), .agg (Rs.cells x), .agg (Rs.cells x), .int .i64 N, .pointer (some ⟨w.heap.size, 4, none⟩), .bool true, .bool false, .bool false, undef, undef, .bool false, .pointer (some ⟨w.heap.size, 4, none⟩), .bool true, .int .i64 N, .bool false, .bool false, .int .i64 N, .bool false, .bool false, .tuple #[.agg (Rs.cells a), .int .i64 ka], .agg (Rs.cells x), .int .i64 N, .int .i64 (N - 1), .tuple #[.agg (Rs.cells a), .int .i64 ka], .agg (Rs.cells a), .int .i64 ka, .tuple #[.agg (Rs.cells b), .int .i64 kb], .agg (Rs.cells a), .tuple #[.agg (Rs.cells b), .int .i64 kb], .agg (Rs.cells b), .int .i64 kb, .agg (Rs.cells a), .bool false, .agg (Rs.cells x), .bool false, .bool false, .bool false, .agg (Rs.cells b), undef, .agg (Rs.cells x), undef, undef, undef, undef, undef, undef, undef, undef, undef, undef, undef, undef, undef, undef, undef, undef, undef, undef, undef, undef, undef, undef, undef, undef, undef, undef, undef, undef, undef, undef, undef, undef, undef, undef, undef, undef, undef, undef, undef, undef, undef, undef, undef, undef, undef], []⟩ rfl (by kernel_rfl) (by kernel_rfl) (by kernel_rfl) (fun _ _ _ h => h) (yieldsIf_load_mid (by kernel_rfl) 23 (.tmp 2) rfl w.heap.size 0 (by kernel_rfl) (Rs.cells x).toList _ (fun v hv => Blk.range' (hv.blk w.heap.size x (by simp))) Try.underlying23 rfl (by rw [Array.length_toList]; exact infoR' x)) s2 (by kernel_rfl) ?_
  refine wpAnyH_all (rs := [7]) (by kernel_rfl) (by simp) ?_
  intro i hi
  obtain rfl : i = 7 := by simpa using hi
  refine wpOp_contract (f := 9) rfl (by kernel_rfl) (by kernel_rfl) (lb.out _) ⟨#[.agg (Rs.cells r), .int .i64 k, .pointer (some ⟨w.heap.size, 0, none⟩), undef, .bool false, .int .i64 N, .pointer (some ⟨m1, 0, none⟩), .int .i64 ka, .pointer (some ⟨m2, 0, none⟩), .int .i64 kb, undef, undef, undef, undef, undef, undef, .agg (Rs.cells r), .agg (Rs.cells x), .agg (Rs.cells x), .int .i64 N, .pointer (some ⟨w.heap.size, 4, none⟩), .bool true, .bool false, .bool false, undef, undef, .bool false, .pointer (some ⟨w.heap.size, 4, none⟩), .bool true, .int .i64 N, .bool false, .bool false, .int .i64 N, .bool false, .bool false, .tuple #[.agg (Rs.cells a), .int .i64 ka], .agg (Rs.cells x), .int .i64 N, .int .i64 (N - 1), .tuple #[.agg (Rs.cells a), .int .i64 ka], .agg (Rs.cells a), .int .i64 ka, .tuple #[.agg (Rs.cells b), .int .i64 kb], .agg (Rs.cells a), .tuple #[.agg (Rs.cells b), .int .i64 kb], .agg (Rs.cells b), .int .i64 kb, .agg (Rs.cells a), .bool false, .agg (Rs.cells x), .bool false, .bool false, .bool false, .agg (Rs.cells b), .bool true, .agg (Rs.cells x), undef, undef, undef, undef, undef, undef, undef, undef, undef, undef, undef, undef, undef, undef, undef, undef, undef, undef, undef, undef, undef, undef, undef, undef, undef, undef, undef, undef, undef, undef, undef, undef, undef, undef, undef, undef, undef, undef, undef, undef, undef, undef, undef, undef, undef], []⟩ (by kernel_rfl) ?_
  intro V3 hbq
  have s3 := s2.on hbq
  clear hbq
  clear hi
  refine ⟨s3, ?_⟩
  refine wpAnyH_all (rs := [9]) (by kernel_rfl) (by simp) ?_
  intro i hi
  obtain rfl : i = 9 := by simpa using hi
  refine wpOp_contract (f := 9) rfl (by kernel_rfl) (by kernel_rfl) (lx.out _) ⟨#[.agg (Rs.cells r), .int .i64 k, .pointer (some ⟨w.heap.size, 0, none⟩), undef, .bool false, .int .i64 N, .pointer (some ⟨m1, 0, none⟩), .int .i64 ka, .pointer (some ⟨m2, 0, none⟩), .int .i64 kb, undef, undef, undef, undef, undef, undef, .agg (Rs.cells r), .agg (Rs.cells x), .agg (Rs.cells x), .int .i64 N, .pointer (some ⟨w.heap.size, 4, none⟩), .bool true, .bool false, .bool false, undef, undef, .bool false, .pointer (some ⟨w.heap.size, 4, none⟩), .bool true, .int .i64 N, .bool false, .bool false, .int .i64 N, .bool false, .bool false, .tuple #[.agg (Rs.cells a), .int .i64 ka], .agg (Rs.cells x), .int .i64 N, .int .i64 (N - 1), .tuple #[.agg (Rs.cells a), .int .i64 ka], .agg (Rs.cells a), .int .i64 ka, .tuple #[.agg (Rs.cells b), .int .i64 kb], .agg (Rs.cells a), .tuple #[.agg (Rs.cells b), .int .i64 kb], .agg (Rs.cells b), .int .i64 kb, .agg (Rs.cells a), .bool false, .agg (Rs.cells x), .bool false, .bool false, .bool false, .agg (Rs.cells b), .bool true, .agg (Rs.cells x), .bool false, undef, undef, undef, undef, undef, undef, undef, undef, undef, undef, undef, undef, undef, undef, undef, undef, undef, undef, undef, undef, undef, undef, undef, undef, undef, undef, undef, undef, undef, undef, undef, undef, undef, undef, undef, undef, undef, undef, undef, undef, undef, undef, undef, undef], []⟩ (by kernel_rfl) ?_
  intro V4 hbq
  have s4 := s3.on hbq
  clear hbq
  clear hi
  refine ⟨s4, ?_⟩
  refine takeH (i := 10) (v := .bool false) ⟨#[.agg (Rs.cells r), .int .i64 k, .pointer (some ⟨w.heap.size, 0, none⟩), undef, .bool false, .int .i64 N, .pointer (some ⟨m1, 0, none⟩), .int .i64 ka, .pointer (some ⟨m2, 0, none⟩), .int .i64 kb, undef, undef, undef, undef, undef, undef, .agg (Rs.cells r), .agg (Rs.cells x), .agg (Rs.cells x), .int .i64 N, .pointer (some ⟨w.heap.size, 4, none⟩), .bool true, .bool false, .bool false, undef, undef, .bool false, .pointer (some ⟨w.heap.size, 4, none⟩), .bool true, .int .i64 N, .bool false, .bool false, .int .i64 N, .bool false, .bool false, .tuple #[.agg (Rs.cells a), .int .i64 ka], .agg (Rs.cells x), .int .i64 N, .int .i64 (N - 1), .tuple #[.agg (Rs.cells a), .int .i64 ka], .agg (Rs.cells a), .int .i64 ka, .tuple #[.agg (Rs.cells b), .int .i64 kb], .agg (Rs.cells a), .tuple #[.agg (Rs.cells b), .int .i64 kb], .agg (Rs.cells b), .int .i64 kb, .agg (Rs.cells a), .bool false, .agg (Rs.cells x), .bool false, .bool false, .bool false, .agg (Rs.cells b), .bool true, .agg (Rs.cells x), .bool false, .bool false, undef, undef, undef, undef, undef, undef, undef, undef, undef, undef, undef, undef, undef, undef, undef, undef, undef, undef, undef, undef, undef, undef, undef, undef, undef, undef, undef, undef, undef, undef, undef, undef, undef, undef, undef, undef, undef, undef, undef, undef, undef, undef, undef], []⟩ rfl (by kernel_rfl) (by kernel_rfl) (by kernel_rfl) (fun _ _ _ h => h) (.inl ⟨by kernel_rfl, fun _ _ => by kernel_rfl⟩) s4 (by kernel_rfl) ?_
  refine takeH (i := 11) (v := .bool false) ⟨#[.agg (Rs.cells r), .int .i64 k, .pointer (some ⟨w.heap.size, 0, none⟩), undef, .bool false, .int .i64 N, .pointer (some ⟨m1, 0, none⟩), .int .i64 ka, .pointer (some ⟨m2, 0, none⟩), .int .i64 kb, undef, undef, undef, undef, undef, undef, .agg (Rs.cells r), .agg (Rs.cells x), .agg (Rs.cells x), .int .i64 N, .pointer (some ⟨w.heap.size, 4, none⟩), .bool true, .bool false, .bool false, undef, undef, .bool false, .pointer (some ⟨w.heap.size, 4, none⟩), .bool true, .int .i64 N, .bool false, .bool false, .int .i64 N, .bool false, .bool false, .tuple #[.agg (Rs.cells a), .int .i64 ka], .agg (Rs.cells x), .int .i64 N, .int .i64 (N - 1), .tuple #[.agg (Rs.cells a), .int .i64 ka], .agg (Rs.cells a), .int .i64 ka, .tuple #[.agg (Rs.cells b), .int .i64 kb], .agg (Rs.cells a), .tuple #[.agg (Rs.cells b), .int .i64 kb], .agg (Rs.cells b), .int .i64 kb, .agg (Rs.cells a), .bool false, .agg (Rs.cells x), .bool false, .bool false, .bool false, .agg (Rs.cells b), .bool true, .agg (Rs.cells x), .bool false, .bool false, .bool false, undef, undef, undef, undef, undef, undef, undef, undef, undef, undef, undef, undef, undef, undef, undef, undef, undef, undef, undef, undef, undef, undef, undef, undef, undef, undef, undef, undef, undef, undef, undef, undef, undef, undef, undef, undef, undef, undef, undef, undef, undef, undef], []⟩ rfl (by kernel_rfl) (by kernel_rfl) (by kernel_rfl) (fun _ _ _ h => h) (.inl ⟨by kernel_rfl, fun _ _ => by kernel_rfl⟩) s4 (by kernel_rfl) ?_
  refine wpAnyH_done (by kernel_rfl) ?_ _
  replace s0 := s4
  dsimp only
  clear s1 s2 s3
  try clear s4
  go_upto_region 12 with (first
    | fail)
  go_upto_region 13 with (first
    | (go_at_call 13; refine (SK.out _).mono ?_; rintro e Wx ⟨rfl, hbx⟩; replace s0 := s0.on hbx; clear hbx))
  go_upto_region 14 with (first
    | (refine wpList_load_blk rfl 23 _ rfl w.heap.size rfl (Rs.cells x) _ (s0.blk w.heap.size x (by simp)) Try.underlying23 rfl (infoR' _) ?_)
    | (go_at_call 16; refine (A1.out _).mono ?_; rintro e Wx ⟨rfl, hbx⟩; replace s0 := s0.on hbx; clear hbx))
  go_upto_region 15 with (first
    | (refine wpList_load_blk rfl 23 _ rfl w.heap.size rfl (Rs.cells x) _ (s0.blk w.heap.size x (by simp)) Try.underlying23 rfl (infoR' _) ?_)
    | (go_at_call 16; refine (A2.out _).mono ?_; rintro e Wx ⟨rfl, hbx⟩; replace s0 := s0.on hbx; clear hbx))
  go_upto_region 17 with (first
    | fail)
  have f5 : _ = some (Value.bool (x).draw) := (s0.blk w.heap.size x (by simp)).cell 5
  rw [hd] at f5
  go_wp2
  go_ret
  exact ⟨rfl, s0.2⟩
end Go.Proofs.Ytlnpcbofebppcab
