/-
  The law RasterRace returns true; conditions: the numbers fit their kinds.
-/
import Derived.Test.YtlnpcbofebppcabQHand2
import Derived.Test.YtlnpcbofebppcabQNear
import Derived.Test.YtlnpcbofebppcabQAdv
import Derived.Test.YtlnpcbofebppcabQRac
import Derived.Test.YtlnpcbofebppcabQNext
import Derived.Test.YtlnpcbofebppcabQLine
import Derived.Test.YtlnpcbofebppcabQStat
import Derived.Test.YtlnpcbofebppcabQSpan2
import Derived.Test.YtlnpcbofebppcabQTog
set_option linter.unusedSimpArgs false
set_option linter.unusedVariables false
namespace Go.Proofs.Ytlnpcbofebppcab
open Go.RowKit Classical
set_option maxRecDepth 100000 in
set_option maxHeartbeats 2000000 in
theorem law_rasterRace (r : Rs) (n : Int) (w : World) (o : r.Ok) (n0 : -9223372036854775808 ≤ n) (n1 : n ≤ 9223372036854775807) :
    Calls Try.prog 4 #[.agg r.cells, .int .i64 n] w fun e w' => e = .returned (.bool true) ∧ Below w.heap.size w w' := by
  have h0 := Rs.nr_v r
  have NR : Hid _ := fun (W : World) => near_any r W o
  clear o h0
  generalize r.nr = x0 at *
  obtain ⟨x, hxe⟩ : ∃ x : Rs, x = { x0 with line := 241, dot := 0, vbl := false, nmi := true, hold := false } := ⟨_, rfl⟩
  have x1 : x.line = 241 := by rw [hxe]
  have x2 : x.dot = 0 := by rw [hxe]
  have x3 : x.vbl = false := by rw [hxe]
  have x4 : x.nmi = true := by rw [hxe]
  have x5 : x.hold = false := by rw [hxe]
  have vx : x.V := ⟨by omega, by omega, by omega, by omega, fun h => absurd h (by rw [x3]; decide), fun h => absurd h (by rw [x5]; decide)⟩
  obtain ⟨s, hse⟩ : ∃ s : Rs, s = { x with hold := true } := ⟨_, rfl⟩
  have y1 : s.line = 241 := by rw [hse]; exact x1
  have y2 : s.dot = 0 := by rw [hse]; exact x2
  have y3 : s.vbl = false := by rw [hse]; exact x3
  have y4 : s.nmi = true := by rw [hse]; exact x4
  have y5 : s.hold = true := by rw [hse]
  have vs : s.V := ⟨by omega, by omega, by omega, by omega, fun h => absurd h (by rw [y3]; decide), fun h => by omega⟩
  obtain ⟨st1, st2⟩ := Rs.stat_of vx
  rw [x3] at st2
  have st3 : x.stat = s := by rw [st1, hse, x5, decide_eq_true (show x.line * 341 + x.dot = 82181 by omega)]; rw [Rs.mk.injEq]; exact ⟨rfl, rfl, rfl, x3.symm, rfl, rfl, rfl⟩
  have ST1 : Hid _ := fun (W : World) => stat_any x W vx.ok
  rw [st3, st2] at ST1
  simp only [if_false, reduceCtorEq] at ST1
  have SA : Hid _ := fun (W : World) => span_low n 0 29700 W n0 n1 (by omega) (by omega) (by omega)
  obtain ⟨A0, A1⟩ := sp_bd n 0 29700 (by omega)
  have SB : Hid _ := fun (W : World) => span_low n 1 2270 W n0 n1 (by omega) (by omega) (by omega)
  obtain ⟨B0, B1⟩ := sp_bd n 1 2270 (by omega)
  generalize sp n 0 29700 = na at *
  generalize sp n 1 2270 = nb_ at *
  have va := Rs.adv_v vs na
  have av := Rs.held_adv vs y1 y2 y3 y5 na A0 A1
  have AA : Hid _ := fun (W : World) => adv_any s na W vs.ok (by omega) (by omega)
  have la : Hid _ := fun (W : World) => line_any (s.adv na) W va.ok
  rw [Rs.line_of va, av] at la
  simp only [Bool.false_and] at la
  have NS : Hid _ := fun (W : World) => next_any s W vs.ok
  rw [Rs.nextV_on vs y4, Rs.held_nx vs y1 y2 y3 y5] at NS
  have vb := Rs.adv_v vx nb_
  obtain ⟨b1, b2, b3⟩ := Rs.free_adv vx x1 x2 x5 nb_ B0 B1
  have b4 := (Rs.adv_keeps vx nb_).1.trans x4
  have AB : Hid _ := fun (W : World) => adv_any x nb_ W vx.ok (by omega) (by omega)
  generalize s.advK na = ka at *
  generalize s.adv na = a at *
  generalize x.advK nb_ = kb at *
  generalize x.adv nb_ = b at *
  have lb : Hid _ := fun (W : World) => line_any b W vb.ok
  rw [Rs.line_of vb, b1, b4] at lb
  simp only [Bool.and_self] at lb
  obtain ⟨c, hce⟩ : ∃ c : Rs, c = { b with vbl := false } := ⟨_, rfl⟩
  have c1 : c.vbl = false := by rw [hce]
  have c2 : c.hold = false := by rw [hce]; exact b2
  have c3 : c.line * 341 + c.dot ≠ 82181 := by rw [hce]; exact b3
  have vc : c.V := ⟨by rw [hce]; exact vb.l0, by rw [hce]; exact vb.l1, by rw [hce]; exact vb.d0, by rw [hce]; exact vb.d1, fun h => absurd h (by rw [c1]; decide), fun h => absurd h (by rw [c2]; decide)⟩
  obtain ⟨u1, u2⟩ := Rs.stat_of vb
  rw [b1] at u2
  have u3 : b.stat = c := by rw [u1, hce, b2, decide_eq_false b3]; first | rfl | (rw [Rs.mk.injEq]; exact ⟨rfl, rfl, rfl, rfl, rfl, rfl, rfl⟩)
  have ST2 : Hid _ := fun (W : World) => stat_any b W vb.ok
  rw [u3, u2] at ST2
  simp only [if_true] at ST2
  obtain ⟨z1, z2⟩ := Rs.stat_of vc
  rw [c1] at z2
  have z3 : c.stat = c := by rw [z1, c2, decide_eq_false c3]; rw [Rs.ext_iff]; exact ⟨rfl, rfl, rfl, c1.symm, rfl, rfl, c2.symm⟩
  have ST3 : Hid _ := fun (W : World) => stat_any c W vc.ok
  rw [z3, z2] at ST3
  simp only [if_false, reduceCtorEq] at ST3
  have lc : Hid _ := fun (W : World) => line_any c W vc.ok
  rw [Rs.line_of vc, c1] at lc
  simp only [Bool.false_and] at lc
  have hxH : Hid (x = { x0 with line := 241, dot := 0, vbl := false, nmi := true, hold := false }) := hxe
  have hcH : Hid (c = { b with vbl := false }) := hce
  have avH : Hid (a.vbl = false) := av
  clear x1 x2 x3 x4 x5 y1 y2 y3 y4 y5 vx vs va vb vc st1 st2 st3 u1 u2 u3 z1 z2 z3 b1 b2 b3 b4 c1 c2 c3 hxe hse hce av A0 A1 B0 B1
  go_enter Try.func4, Try.ntmps4
  go_upto_region 1 with fail
  have s0 : St w [(w.heap.size, r)] (w.alloc (.cells r.cells 23)) := St.start w r
  generalize w.alloc (.cells r.cells 23) = W0 at *
  go_upto_region 2 with (first
    | (refine wpList_load_blk rfl 23 _ rfl w.heap.size rfl (Rs.cells r) _ (s0.blk w.heap.size r (by simp)) Try.underlying23 rfl (infoR' _) ?_)
    | (go_at_call 8; refine (NR.out _).mono ?_; rintro e Wx ⟨rfl, hbx⟩; replace s0 := s0.on hbx; clear hbx)
    | (refine wpList_store_blk rfl 23 _ _ rfl w.heap.size _ (Rs.cells x0) 23 rfl rfl (s0.blk w.heap.size _ (List.mem_cons_self ..)) rfl (infoR' _) (Rs.cells_one _) w.heap.size w (Nat.le_refl _) s0.2 ?_; intro Wy by1 hby hoy; replace s0 := St.sto s0 (by simp) by1 hby hoy; clear by1 hby hoy))
  have f0 : _ = some (Value.int .i64 (x0).line) := (s0.blk w.heap.size x0 (by simp)).cell 0
  have f1 : _ = some (Value.int .i64 (x0).dot) := (s0.blk w.heap.size x0 (by simp)).cell 1
  have f2 : _ = some (Value.bool (x0).odd) := (s0.blk w.heap.size x0 (by simp)).cell 2
  have f3 : _ = some (Value.bool (x0).vbl) := (s0.blk w.heap.size x0 (by simp)).cell 3
  have f4 : _ = some (Value.bool (x0).nmi) := (s0.blk w.heap.size x0 (by simp)).cell 4
  have f5 : _ = some (Value.bool (x0).draw) := (s0.blk w.heap.size x0 (by simp)).cell 5
  have f6 : _ = some (Value.bool (x0).hold) := (s0.blk w.heap.size x0 (by simp)).cell 6
  have ff := (s0.blk w.heap.size x0 (by simp)).free
  have sH : Hid (St _ _ _) := s0
  clear s0
  go_upto_region 3 with fail
  have s0 := ((((sH.out.fld (d := { x0 with line := 241 }) (by simp) (Nat.le_refl _) 0 (.int .i64 241) rfl).fld (d := { x0 with line := 241, dot := 0 }) (by simp) (Nat.le_refl _) 1 (.int .i64 0) rfl).fld (d := { x0 with line := 241, dot := 0, vbl := false }) (by simp) (Nat.le_refl _) 3 (.bool false) rfl).fld (d := { x0 with line := 241, dot := 0, vbl := false, hold := false }) (by simp) (Nat.le_refl _) 6 (.bool false) rfl).fld (d := { x0 with line := 241, dot := 0, vbl := false, nmi := true, hold := false }) (by simp) (Nat.le_refl _) 4 (.bool true) rfl
  clear sH f0 f1 f2 f3 f4 f5 f6 ff
  rw [← hxH.out] at s0
  generalize World.setCell (World.setCell (World.setCell (World.setCell (World.setCell _ _ _) _ _) _ _) _ _) _ _ = Wf at *
  go_upto_region 4 with (first
    | (refine wpList_load_blk rfl 23 _ rfl w.heap.size rfl (Rs.cells x) _ (s0.blk w.heap.size x (by simp)) Try.underlying23 rfl (infoR' _) ?_)
    | (go_at_call 12; refine (ST1.out _).mono ?_; rintro e Wx ⟨rfl, hbx⟩; replace s0 := s0.on hbx; clear hbx)
    | (refine wpList_store_blk rfl 23 _ _ rfl Wx.heap.size zeroR.cells (Rs.cells s) 23 rfl rfl (Blk.new Wx _ _) rfl (infoR' _) (Rs.cells_one _) w.heap.size w s0.2.size (s0.2.alloc s0.2.size _) ?_; intro Wy by1 hby hoy; replace s0 := St.more s0 by1 hby hoy; clear by1 hby hoy))
  generalize Wx.heap.size = m1 at *
  try simp only [Act.put]
  try dsimp only
  go_cut [7] (fun q wx => ∃ m : Nat, q = .pointer (some ⟨m, 0, none⟩) ∧ St w ((m, a) :: [(m1, s), (w.heap.size, x)]) wx)
  case first =>
    have t0 := s0.drew
    refine wp_region_held (S := St w [(m1, s), (w.heap.size, x)]) (by kernel_rfl) ?_
    refine takeH (i := 0) (v := .agg (Rs.cells s).toList.toArray) ⟨#[.agg (Rs.cells r), .int .i64 n, .pointer (some ⟨w.heap.size, 0, none⟩), undef, .bool false, .int .u8 0, .pointer (some ⟨m1, 0, none⟩), undef, undef, undef, undef, undef, undef, undef, undef, undef, .agg (Rs.cells r), .agg (Rs.cells x0), .pointer (some ⟨w.heap.size, 0, none⟩), .pointer (some ⟨w.heap.size, 1, none⟩), .pointer (some ⟨w.heap.size, 3, none⟩), .pointer (some ⟨w.heap.size, 6, none⟩), .pointer (some ⟨w.heap.size, 4, none⟩), .tuple #[.int .u8 0, .agg (Rs.cells s)], .agg (Rs.cells x), .tuple #[.int .u8 0, .agg (Rs.cells s)], .int .u8 0, .agg (Rs.cells s), undef, .agg (Rs.cells s), undef, undef, undef, undef, undef, undef, undef, undef, undef, undef, undef, undef, undef, undef, undef, undef, undef, undef, undef, undef, undef, undef, undef, undef, undef, undef, undef, undef, undef, undef, undef, undef, undef, undef, undef, undef, undef, undef, undef, undef, undef, undef, undef, undef, undef, undef, undef, undef, undef, undef, undef, undef, undef, undef, undef, undef, undef, undef, undef, undef, undef, undef], []⟩ rfl (by kernel_rfl) (by kernel_rfl) (by kernel_rfl) (fun _ _ _ h => h) (yieldsIf_load_mid (by kernel_rfl) 23 (.tmp 6) rfl m1 0 (by kernel_rfl) (Rs.cells s).toList _ (fun v hv => Blk.range' (St.blk hv m1 s (by simp))) Try.underlying23 rfl (by rw [Array.length_toList]; exact infoR' s)) t0 (by kernel_rfl) ?_
    refine takeH (i := 1) (v := .int .i64 n) ⟨#[.agg (Rs.cells r), .int .i64 n, .pointer (some ⟨w.heap.size, 0, none⟩), undef, .bool false, .int .u8 0, .pointer (some ⟨m1, 0, none⟩), undef, undef, undef, undef, undef, undef, undef, undef, undef, .agg (Rs.cells r), .agg (Rs.cells x0), .pointer (some ⟨w.heap.size, 0, none⟩), .pointer (some ⟨w.heap.size, 1, none⟩), .pointer (some ⟨w.heap.size, 3, none⟩), .pointer (some ⟨w.heap.size, 6, none⟩), .pointer (some ⟨w.heap.size, 4, none⟩), .tuple #[.int .u8 0, .agg (Rs.cells s)], .agg (Rs.cells x), .tuple #[.int .u8 0, .agg (Rs.cells s)], .int .u8 0, .agg (Rs.cells s), undef, .agg (Rs.cells s), .int .i64 n, undef, undef, undef, undef, undef, undef, undef, undef, undef, undef, undef, undef, undef, undef, undef, undef, undef, undef, undef, undef, undef, undef, undef, undef, undef, undef, undef, undef, undef, undef, undef, undef, undef, undef, undef, undef, undef, undef, undef, undef, undef, undef, undef, undef, undef, undef, undef, undef, undef, undef, undef, undef, undef, undef, undef, undef, undef, undef, undef, undef, undef], []⟩ rfl (by kernel_rfl) (by kernel_rfl) (by kernel_rfl) (fun _ _ _ h => h) (.inl ⟨by kernel_rfl, fun _ _ => by kernel_rfl⟩) t0 (by kernel_rfl) ?_
    refine wpAnyH_all (rs := [2, 7]) (by kernel_rfl) (by simp) ?_
    intro i hi
    rcases two_of hi with rfl | rfl
    · clear hi
      refine wpOp_contract (f := 13) rfl (by kernel_rfl) (by kernel_rfl) (SA.out _) ⟨#[.agg (Rs.cells r), .int .i64 n, .pointer (some ⟨w.heap.size, 0, none⟩), undef, .bool false, .int .u8 0, .pointer (some ⟨m1, 0, none⟩), undef, undef, undef, undef, undef, undef, undef, undef, undef, .agg (Rs.cells r), .agg (Rs.cells x0), .pointer (some ⟨w.heap.size, 0, none⟩), .pointer (some ⟨w.heap.size, 1, none⟩), .pointer (some ⟨w.heap.size, 3, none⟩), .pointer (some ⟨w.heap.size, 6, none⟩), .pointer (some ⟨w.heap.size, 4, none⟩), .tuple #[.int .u8 0, .agg (Rs.cells s)], .agg (Rs.cells x), .tuple #[.int .u8 0, .agg (Rs.cells s)], .int .u8 0, .agg (Rs.cells s), undef, .agg (Rs.cells s), .int .i64 n, .int .i64 na, undef, undef, undef, undef, undef, undef, undef, undef, undef, undef, undef, undef, undef, undef, undef, undef, undef, undef, undef, undef, undef, undef, undef, undef, undef, undef, undef, undef, undef, undef, undef, undef, undef, undef, undef, undef, undef, undef, undef, undef, undef, undef, undef, undef, undef, undef, undef, undef, undef, undef, undef, undef, undef, undef, undef, undef, undef, undef, undef, undef], []⟩ (by kernel_rfl) ?_
      intro V1 hbq
      have t1 := t0.on hbq
      clear hbq
      refine ⟨t1, ?_⟩
      refine wpAnyH_all (rs := [3, 7]) (by kernel_rfl) (by simp) ?_
      intro i hi
      rcases two_of hi with rfl | rfl
      · clear hi
        refine wpOp_contract (f := 11) rfl (by kernel_rfl) (by kernel_rfl) (AA.out _) ⟨#[.agg (Rs.cells r), .int .i64 n, .pointer (some ⟨w.heap.size, 0, none⟩), undef, .bool false, .int .u8 0, .pointer (some ⟨m1, 0, none⟩), undef, undef, undef, undef, undef, undef, undef, undef, undef, .agg (Rs.cells r), .agg (Rs.cells x0), .pointer (some ⟨w.heap.size, 0, none⟩), .pointer (some ⟨w.heap.size, 1, none⟩), .pointer (some ⟨w.heap.size, 3, none⟩), .pointer (some ⟨w.heap.size, 6, none⟩), .pointer (some ⟨w.heap.size, 4, none⟩), .tuple #[.int .u8 0, .agg (Rs.cells s)], .agg (Rs.cells x), .tuple #[.int .u8 0, .agg (Rs.cells s)], .int .u8 0, .agg (Rs.cells s), undef, .agg (Rs.cells s), .int .i64 n, .int .i64 na, .tuple #[.agg (Rs.cells a), .int .i64 ka], undef, undef, undef, undef, undef, undef, undef, undef, undef, undef, undef, undef, undef, undef, undef, undef, undef, undef, undef, undef, undef, undef, undef, undef, undef, undef, undef, undef, undef, undef, undef, undef, undef, undef, undef, undef, undef, undef, undef, undef, undef, undef, undef, undef, undef, undef, undef, undef, undef, undef, undef, undef, undef, undef, undef, undef, undef, undef, undef], []⟩ (by kernel_rfl) ?_
        intro V2 hbq
        have t2 := t1.on hbq
        clear hbq
        refine ⟨t2, ?_⟩
        refine takeH (i := 4) (v := .tuple #[.agg (Rs.cells a), .int .i64 ka]) ⟨#[.agg (Rs.cells r), .int .i64 n, .pointer (some ⟨w.heap.size, 0, none⟩), undef, .bool false, .int .u8 0, .pointer (some ⟨m1, 0, none⟩), undef, undef, undef, undef, undef, undef, undef, undef, undef, .agg (Rs.cells r), .agg (Rs.cells x0), .pointer (some ⟨w.heap.size, 0, none⟩), .pointer (some ⟨w.heap.size, 1, none⟩), .pointer (some ⟨w.heap.size, 3, none⟩), .pointer (some ⟨w.heap.size, 6, none⟩), .pointer (some ⟨w.heap.size, 4, none⟩), .tuple #[.int .u8 0, .agg (Rs.cells s)], .agg (Rs.cells x), .tuple #[.int .u8 0, .agg (Rs.cells s)], .int .u8 0, .agg (Rs.cells s), .tuple #[.agg (Rs.cells a), .int .i64 ka], .agg (Rs.cells s), .int .i64 n, .int .i64 na, .tuple #[.agg (Rs.cells a), .int .i64 ka], undef, undef, undef, undef, undef, undef, undef, undef, undef, undef, undef, undef, undef, undef, undef, undef, undef, undef, undef, undef, undef, undef, undef, undef, undef, undef, undef, undef, undef, undef, undef, undef, undef, undef, undef, undef, undef, undef, undef, undef, undef, undef, undef, undef, undef, undef, undef, undef, undef, undef, undef, undef, undef, undef, undef, undef, undef, undef, undef], []⟩ rfl (by kernel_rfl) (by kernel_rfl) (by kernel_rfl) (fun _ _ _ h => h) (.inl ⟨by kernel_rfl, fun _ _ => by kernel_rfl⟩) t2 (by kernel_rfl) ?_
        refine takeH (i := 5) (v := .agg (Rs.cells a)) ⟨#[.agg (Rs.cells r), .int .i64 n, .pointer (some ⟨w.heap.size, 0, none⟩), undef, .bool false, .int .u8 0, .pointer (some ⟨m1, 0, none⟩), undef, undef, undef, undef, undef, undef, undef, undef, undef, .agg (Rs.cells r), .agg (Rs.cells x0), .pointer (some ⟨w.heap.size, 0, none⟩), .pointer (some ⟨w.heap.size, 1, none⟩), .pointer (some ⟨w.heap.size, 3, none⟩), .pointer (some ⟨w.heap.size, 6, none⟩), .pointer (some ⟨w.heap.size, 4, none⟩), .tuple #[.int .u8 0, .agg (Rs.cells s)], .agg (Rs.cells x), .tuple #[.int .u8 0, .agg (Rs.cells s)], .int .u8 0, .agg (Rs.cells s), .tuple #[.agg (Rs.cells a), .int .i64 ka], .agg (Rs.cells s), .int .i64 n, .int .i64 na, .tuple #[.agg (Rs.cells a), .int .i64 ka], .agg (Rs.cells a), undef, undef, undef, undef, undef, undef, undef, undef, undef, undef, undef, undef, undef, undef, undef, undef, undef, undef, undef, undef, undef, undef, undef, undef, undef, undef, undef, undef, undef, undef, undef, undef, undef, undef, undef, undef, undef, undef, undef, undef, undef, undef, undef, undef, undef, undef, undef, undef, undef, undef, undef, undef, undef, undef, undef, undef, undef, undef], []⟩ rfl (by kernel_rfl) (by kernel_rfl) (by kernel_rfl) (fun _ _ _ h => h) (.inl ⟨by kernel_rfl, fun _ _ => by kernel_rfl⟩) t2 (by kernel_rfl) ?_
        refine takeH (i := 6) (v := .int .i64 ka) ⟨#[.agg (Rs.cells r), .int .i64 n, .pointer (some ⟨w.heap.size, 0, none⟩), undef, .bool false, .int .u8 0, .pointer (some ⟨m1, 0, none⟩), undef, undef, undef, undef, undef, undef, undef, undef, undef, .agg (Rs.cells r), .agg (Rs.cells x0), .pointer (some ⟨w.heap.size, 0, none⟩), .pointer (some ⟨w.heap.size, 1, none⟩), .pointer (some ⟨w.heap.size, 3, none⟩), .pointer (some ⟨w.heap.size, 6, none⟩), .pointer (some ⟨w.heap.size, 4, none⟩), .tuple #[.int .u8 0, .agg (Rs.cells s)], .agg (Rs.cells x), .tuple #[.int .u8 0, .agg (Rs.cells s)], .int .u8 0, .agg (Rs.cells s), .tuple #[.agg (Rs.cells a), .int .i64 ka], .agg (Rs.cells s), .int .i64 n, .int .i64 na, .tuple #[.agg (Rs.cells a), .int .i64 ka], .agg (Rs.cells a), .int .i64 ka, undef, undef, undef, undef, undef, undef, undef, undef, undef, undef, undef, undef, undef, undef, undef, undef, undef, undef, undef, undef, undef, undef, undef, undef, undef, undef, undef, undef, undef, undef, undef, undef, undef, undef, undef, undef, undef, undef, undef, undef, undef, undef, undef, undef, undef, undef, undef, undef, undef, undef, undef, undef, undef, undef, undef, undef, undef], []⟩ rfl (by kernel_rfl) (by kernel_rfl) (by kernel_rfl) (fun _ _ _ h => h) (.inl ⟨by kernel_rfl, fun _ _ => by kernel_rfl⟩) t2 (by kernel_rfl) ?_
        refine wpAnyH_all (rs := [7]) (by kernel_rfl) (by simp) ?_
        intro i hi
        obtain rfl : i = 7 := by simpa using hi
        clear hi
        refine alloc_at t2 rfl (by kernel_rfl) rfl ?_
        intro nb V3 t3 be hnb hle
        refine ⟨t3, ?_⟩
        refine wpAnyH_all (rs := [8]) (by kernel_rfl) (by simp) ?_
        intro i hi
        obtain rfl : i = 8 := by simpa using hi
        clear hi
        refine store_at t3 be hnb hle rfl (by kernel_rfl) (.tmp 7) (.tmp 33) rfl a (by kernel_rfl) (by kernel_rfl) ?_
        intro V9 t9
        refine ⟨t9.sub (fun p hp => List.mem_cons_of_mem _ hp), ?_⟩
        refine takeH (i := 9) (v := .int .i64 ka) ⟨#[.agg (Rs.cells r), .int .i64 n, .pointer (some ⟨w.heap.size, 0, none⟩), undef, .bool false, .int .u8 0, .pointer (some ⟨m1, 0, none⟩), .pointer (some ⟨nb, 0, none⟩), .int .i64 ka, undef, undef, undef, undef, undef, undef, undef, .agg (Rs.cells r), .agg (Rs.cells x0), .pointer (some ⟨w.heap.size, 0, none⟩), .pointer (some ⟨w.heap.size, 1, none⟩), .pointer (some ⟨w.heap.size, 3, none⟩), .pointer (some ⟨w.heap.size, 6, none⟩), .pointer (some ⟨w.heap.size, 4, none⟩), .tuple #[.int .u8 0, .agg (Rs.cells s)], .agg (Rs.cells x), .tuple #[.int .u8 0, .agg (Rs.cells s)], .int .u8 0, .agg (Rs.cells s), .tuple #[.agg (Rs.cells a), .int .i64 ka], .agg (Rs.cells s), .int .i64 n, .int .i64 na, .tuple #[.agg (Rs.cells a), .int .i64 ka], .agg (Rs.cells a), .int .i64 ka, undef, undef, undef, undef, undef, undef, undef, undef, undef, undef, undef, undef, undef, undef, undef, undef, undef, undef, undef, undef, undef, undef, undef, undef, undef, undef, undef, undef, undef, undef, undef, undef, undef, undef, undef, undef, undef, undef, undef, undef, undef, undef, undef, undef, undef, undef, undef, undef, undef, undef, undef, undef, undef, undef, undef, undef, undef], []⟩ rfl (by kernel_rfl) (by kernel_rfl) (by kernel_rfl) (fun _ _ _ h => h) (.inl ⟨by kernel_rfl, fun _ _ => by kernel_rfl⟩) (t9.sub (fun p hp => List.mem_cons_of_mem _ hp)) (by kernel_rfl) ?_
        refine wpAnyH_done (by kernel_rfl) ?_ _
        try dsimp only
        go_wp2
        go_meet
        exact ⟨nb, rfl, t9⟩
      · clear hi
        refine alloc_at t1 rfl (by kernel_rfl) rfl ?_
        intro nb V4 t2 be hnb hle
        refine ⟨t2, ?_⟩
        refine wpAnyH_all (rs := [3]) (by kernel_rfl) (by simp) ?_
        intro i hi
        obtain rfl : i = 3 := by simpa using hi
        clear hi
        refine wpOp_contract (f := 11) rfl (by kernel_rfl) (by kernel_rfl) (AA.out _) ⟨#[.agg (Rs.cells r), .int .i64 n, .pointer (some ⟨w.heap.size, 0, none⟩), undef, .bool false, .int .u8 0, .pointer (some ⟨m1, 0, none⟩), .pointer (some ⟨nb, 0, none⟩), undef, undef, undef, undef, undef, undef, undef, undef, .agg (Rs.cells r), .agg (Rs.cells x0), .pointer (some ⟨w.heap.size, 0, none⟩), .pointer (some ⟨w.heap.size, 1, none⟩), .pointer (some ⟨w.heap.size, 3, none⟩), .pointer (some ⟨w.heap.size, 6, none⟩), .pointer (some ⟨w.heap.size, 4, none⟩), .tuple #[.int .u8 0, .agg (Rs.cells s)], .agg (Rs.cells x), .tuple #[.int .u8 0, .agg (Rs.cells s)], .int .u8 0, .agg (Rs.cells s), undef, .agg (Rs.cells s), .int .i64 n, .int .i64 na, .tuple #[.agg (Rs.cells a), .int .i64 ka], undef, undef, undef, undef, undef, undef, undef, undef, undef, undef, undef, undef, undef, undef, undef, undef, undef, undef, undef, undef, undef, undef, undef, undef, undef, undef, undef, undef, undef, undef, undef, undef, undef, undef, undef, undef, undef, undef, undef, undef, undef, undef, undef, undef, undef, undef, undef, undef, undef, undef, undef, undef, undef, undef, undef, undef, undef, undef, undef], []⟩ (by kernel_rfl) ?_
        intro V5 hbq
        have t3 := t2.on hbq
        replace be := be.below be.lt hbq
        clear hbq
        refine ⟨t3, ?_⟩
        refine takeH (i := 4) (v := .tuple #[.agg (Rs.cells a), .int .i64 ka]) ⟨#[.agg (Rs.cells r), .int .i64 n, .pointer (some ⟨w.heap.size, 0, none⟩), undef, .bool false, .int .u8 0, .pointer (some ⟨m1, 0, none⟩), .pointer (some ⟨nb, 0, none⟩), undef, undef, undef, undef, undef, undef, undef, undef, .agg (Rs.cells r), .agg (Rs.cells x0), .pointer (some ⟨w.heap.size, 0, none⟩), .pointer (some ⟨w.heap.size, 1, none⟩), .pointer (some ⟨w.heap.size, 3, none⟩), .pointer (some ⟨w.heap.size, 6, none⟩), .pointer (some ⟨w.heap.size, 4, none⟩), .tuple #[.int .u8 0, .agg (Rs.cells s)], .agg (Rs.cells x), .tuple #[.int .u8 0, .agg (Rs.cells s)], .int .u8 0, .agg (Rs.cells s), .tuple #[.agg (Rs.cells a), .int .i64 ka], .agg (Rs.cells s), .int .i64 n, .int .i64 na, .tuple #[.agg (Rs.cells a), .int .i64 ka], undef, undef, undef, undef, undef, undef, undef, undef, undef, undef, undef, undef, undef, undef, undef, undef, undef, undef, undef, undef, undef, undef, undef, undef, undef, undef, undef, undef, undef, undef, undef, undef, undef, undef, undef, undef, undef, undef, undef, undef, undef, undef, undef, undef, undef, undef, undef, undef, undef, undef, undef, undef, undef, undef, undef, undef, undef, undef, undef], []⟩ rfl (by kernel_rfl) (by kernel_rfl) (by kernel_rfl) (fun _ _ _ h => h) (.inl ⟨by kernel_rfl, fun _ _ => by kernel_rfl⟩) t3 (by kernel_rfl) ?_
        refine takeH (i := 5) (v := .agg (Rs.cells a)) ⟨#[.agg (Rs.cells r), .int .i64 n, .pointer (some ⟨w.heap.size, 0, none⟩), undef, .bool false, .int .u8 0, .pointer (some ⟨m1, 0, none⟩), .pointer (some ⟨nb, 0, none⟩), undef, undef, undef, undef, undef, undef, undef, undef, .agg (Rs.cells r), .agg (Rs.cells x0), .pointer (some ⟨w.heap.size, 0, none⟩), .pointer (some ⟨w.heap.size, 1, none⟩), .pointer (some ⟨w.heap.size, 3, none⟩), .pointer (some ⟨w.heap.size, 6, none⟩), .pointer (some ⟨w.heap.size, 4, none⟩), .tuple #[.int .u8 0, .agg (Rs.cells s)], .agg (Rs.cells x), .tuple #[.int .u8 0, .agg (Rs.cells s)], .int .u8 0, .agg (Rs.cells s), .tuple #[.agg (Rs.cells a), .int .i64 ka], .agg (Rs.cells s), .int .i64 n, .int .i64 na, .tuple #[.agg (Rs.cells a), .int .i64 ka], .agg (Rs.cells a), undef, undef, undef, undef, undef, undef, undef, undef, undef, undef, undef, undef, undef, undef, undef, undef, undef, undef, undef, undef, undef, undef, undef, undef, undef, undef, undef, undef, undef, undef, undef, undef, undef, undef, undef, undef, undef, undef, undef, undef, undef, undef, undef, undef, undef, undef, undef, undef, undef, undef, undef, undef, undef, undef, undef, undef, undef, undef], []⟩ rfl (by kernel_rfl) (by kernel_rfl) (by kernel_rfl) (fun _ _ _ h => h) (.inl ⟨by kernel_rfl, fun _ _ => by kernel_rfl⟩) t3 (by kernel_rfl) ?_
        refine takeH (i := 6) (v := .int .i64 ka) ⟨#[.agg (Rs.cells r), .int .i64 n, .pointer (some ⟨w.heap.size, 0, none⟩), undef, .bool false, .int .u8 0, .pointer (some ⟨m1, 0, none⟩), .pointer (some ⟨nb, 0, none⟩), undef, undef, undef, undef, undef, undef, undef, undef, .agg (Rs.cells r), .agg (Rs.cells x0), .pointer (some ⟨w.heap.size, 0, none⟩), .pointer (some ⟨w.heap.size, 1, none⟩), .pointer (some ⟨w.heap.size, 3, none⟩), .pointer (some ⟨w.heap.size, 6, none⟩), .pointer (some ⟨w.heap.size, 4, none⟩), .tuple #[.int .u8 0, .agg (Rs.cells s)], .agg (Rs.cells x), .tuple #[.int .u8 0, .agg (Rs.cells s)], .int .u8 0, .agg (Rs.cells s), .tuple #[.agg (Rs.cells a), .int .i64 ka], .agg (Rs.cells s), .int .i64 n, .int .i64 na, .tuple #[.agg (Rs.cells a), .int .i64 ka], .agg (Rs.cells a), .int .i64 ka, undef, undef, undef, undef, undef, undef, undef, undef, undef, undef, undef, undef, undef, undef, undef, undef, undef, undef, undef, undef, undef, undef, undef, undef, undef, undef, undef, undef, undef, undef, undef, undef, undef, undef, undef, undef, undef, undef, undef, undef, undef, undef, undef, undef, undef, undef, undef, undef, undef, undef, undef, undef, undef, undef, undef, undef, undef], []⟩ rfl (by kernel_rfl) (by kernel_rfl) (by kernel_rfl) (fun _ _ _ h => h) (.inl ⟨by kernel_rfl, fun _ _ => by kernel_rfl⟩) t3 (by kernel_rfl) ?_
        refine wpAnyH_all (rs := [8]) (by kernel_rfl) (by simp) ?_
        intro i hi
        obtain rfl : i = 8 := by simpa using hi
        clear hi
        refine store_at t3 be hnb hle rfl (by kernel_rfl) (.tmp 7) (.tmp 33) rfl a (by kernel_rfl) (by kernel_rfl) ?_
        intro V9 t9
        refine ⟨t9.sub (fun p hp => List.mem_cons_of_mem _ hp), ?_⟩
        refine takeH (i := 9) (v := .int .i64 ka) ⟨#[.agg (Rs.cells r), .int .i64 n, .pointer (some ⟨w.heap.size, 0, none⟩), undef, .bool false, .int .u8 0, .pointer (some ⟨m1, 0, none⟩), .pointer (some ⟨nb, 0, none⟩), .int .i64 ka, undef, undef, undef, undef, undef, undef, undef, .agg (Rs.cells r), .agg (Rs.cells x0), .pointer (some ⟨w.heap.size, 0, none⟩), .pointer (some ⟨w.heap.size, 1, none⟩), .pointer (some ⟨w.heap.size, 3, none⟩), .pointer (some ⟨w.heap.size, 6, none⟩), .pointer (some ⟨w.heap.size, 4, none⟩), .tuple #[.int .u8 0, .agg (Rs.cells s)], .agg (Rs.cells x), .tuple #[.int .u8 0, .agg (Rs.cells s)], .int .u8 0, .agg (Rs.cells s), .tuple #[.agg (Rs.cells a), .int .i64 ka], .agg (Rs.cells s), .int .i64 n, .int .i64 na, .tuple #[.agg (Rs.cells a), .int .i64 ka], .agg (Rs.cells a), .int .i64 ka, undef, undef, undef, undef, undef, undef, undef, undef, undef, undef, undef, undef, undef, undef, undef, undef, undef, undef, undef, undef, undef, undef, undef, undef, undef, undef, undef, undef, undef, undef, undef, undef, undef, undef, undef, undef, undef, undef, undef, undef, undef, undef, undef, undef, undef, undef, undef, undef, undef, undef, undef, undef, undef, undef, undef, undef, undef], []⟩ rfl (by kernel_rfl) (by kernel_rfl) (by kernel_rfl) (fun _ _ _ h => h) (.inl ⟨by kernel_rfl, fun _ _ => by kernel_rfl⟩) (t9.sub (fun p hp => List.mem_cons_of_mem _ hp)) (by kernel_rfl) ?_
        refine wpAnyH_done (by kernel_rfl) ?_ _
        try dsimp only
        go_wp2
        go_meet
        exact ⟨nb, rfl, t9⟩
    · clear hi
      refine alloc_at t0 rfl (by kernel_rfl) rfl ?_
      intro nb V6 t1 be hnb hle
      refine ⟨t1, ?_⟩
      refine wpAnyH_all (rs := [2]) (by kernel_rfl) (by simp) ?_
      intro i hi
      obtain rfl : i = 2 := by simpa using hi
      clear hi
      refine wpOp_contract (f := 13) rfl (by kernel_rfl) (by kernel_rfl) (SA.out _) ⟨#[.agg (Rs.cells r), .int .i64 n, .pointer (some ⟨w.heap.size, 0, none⟩), undef, .bool false, .int .u8 0, .pointer (some ⟨m1, 0, none⟩), .pointer (some ⟨nb, 0, none⟩), undef, undef, undef, undef, undef, undef, undef, undef, .agg (Rs.cells r), .agg (Rs.cells x0), .pointer (some ⟨w.heap.size, 0, none⟩), .pointer (some ⟨w.heap.size, 1, none⟩), .pointer (some ⟨w.heap.size, 3, none⟩), .pointer (some ⟨w.heap.size, 6, none⟩), .pointer (some ⟨w.heap.size, 4, none⟩), .tuple #[.int .u8 0, .agg (Rs.cells s)], .agg (Rs.cells x), .tuple #[.int .u8 0, .agg (Rs.cells s)], .int .u8 0, .agg (Rs.cells s), undef, .agg (Rs.cells s), .int .i64 n, .int .i64 na, undef, undef, undef, undef, undef, undef, undef, undef, undef, undef, undef, undef, undef, undef, undef, undef, undef, undef, undef, undef, undef, undef, undef, undef, undef, undef, undef, undef, undef, undef, undef, undef, undef, undef, undef, undef, undef, undef, undef, undef, undef, undef, undef, undef, undef, undef, undef, undef, undef, undef, undef, undef, undef, undef, undef, undef, undef, undef, undef, undef], []⟩ (by kernel_rfl) ?_
      intro V7 hbq
      have t2 := t1.on hbq
      replace be := be.below be.lt hbq
      clear hbq
      refine ⟨t2, ?_⟩
      refine wpAnyH_all (rs := [3]) (by kernel_rfl) (by simp) ?_
      intro i hi
      obtain rfl : i = 3 := by simpa using hi
      clear hi
      refine wpOp_contract (f := 11) rfl (by kernel_rfl) (by kernel_rfl) (AA.out _) ⟨#[.agg (Rs.cells r), .int .i64 n, .pointer (some ⟨w.heap.size, 0, none⟩), undef, .bool false, .int .u8 0, .pointer (some ⟨m1, 0, none⟩), .pointer (some ⟨nb, 0, none⟩), undef, undef, undef, undef, undef, undef, undef, undef, .agg (Rs.cells r), .agg (Rs.cells x0), .pointer (some ⟨w.heap.size, 0, none⟩), .pointer (some ⟨w.heap.size, 1, none⟩), .pointer (some ⟨w.heap.size, 3, none⟩), .pointer (some ⟨w.heap.size, 6, none⟩), .pointer (some ⟨w.heap.size, 4, none⟩), .tuple #[.int .u8 0, .agg (Rs.cells s)], .agg (Rs.cells x), .tuple #[.int .u8 0, .agg (Rs.cells s)], .int .u8 0, .agg (Rs.cells s), undef, .agg (Rs.cells s), .int .i64 n, .int .i64 na, .tuple #[.agg (Rs.cells a), .int .i64 ka], undef, undef, undef, undef, undef, undef, undef, undef, undef, undef, undef, undef, undef, undef, undef, undef, undef, undef, undef, undef, undef, undef, undef, undef, undef, undef, undef, undef, undef, undef, undef, undef, undef, undef, undef, undef, undef, undef, undef, undef, undef, undef, undef, undef, undef, undef, undef, undef, undef, undef, undef, undef, undef, undef, undef, undef, undef, undef, undef], []⟩ (by kernel_rfl) ?_
      intro V8 hbq
      have t3 := t2.on hbq
      replace be := be.below be.lt hbq
      clear hbq
      refine ⟨t3, ?_⟩
      refine takeH (i := 4) (v := .tuple #[.agg (Rs.cells a), .int .i64 ka]) ⟨#[.agg (Rs.cells r), .int .i64 n, .pointer (some ⟨w.heap.size, 0, none⟩), undef, .bool false, .int .u8 0, .pointer (some ⟨m1, 0, none⟩), .pointer (some ⟨nb, 0, none⟩), undef, undef, undef, undef, undef, undef, undef, undef, .agg (Rs.cells r), .agg (Rs.cells x0), .pointer (some ⟨w.heap.size, 0, none⟩), .pointer (some ⟨w.heap.size, 1, none⟩), .pointer (some ⟨w.heap.size, 3, none⟩), .pointer (some ⟨w.heap.size, 6, none⟩), .pointer (some ⟨w.heap.size, 4, none⟩), .tuple #[.int .u8 0, .agg (Rs.cells s)], .agg (Rs.cells x), .tuple #[.int .u8 0, .agg (Rs.cells s)], .int .u8 0, .agg (Rs.cells s), .tuple #[.agg (Rs.cells a), .int .i64 ka], .agg (Rs.cells s), .int .i64 n, .int .i64 na, .tuple #[.agg (Rs.cells a), .int .i64 ka], undef, undef, undef, undef, undef, undef, undef, undef, undef, undef, undef, undef, undef, undef, undef, undef, undef, undef, undef, undef, undef, undef, undef, undef, undef, undef, undef, undef, undef, undef, undef, undef, undef, undef, undef, undef, undef, undef, undef, undef, undef, undef, undef, undef, undef, undef, undef, undef, undef, undef, undef, undef, undef, undef, undef, undef, undef, undef, undef], []⟩ rfl (by kernel_rfl) (by kernel_rfl) (by kernel_rfl) (fun _ _ _ h => h) (.inl ⟨by kernel_rfl, fun _ _ => by kernel_rfl⟩) t3 (by kernel_rfl) ?_
      refine takeH (i := 5) (v := .agg (Rs.cells a)) ⟨#[.agg (Rs.cells r), .int .i64 n, .pointer (some ⟨w.heap.size, 0, none⟩), undef, .bool false, .int .u8 0, .pointer (some ⟨m1, 0, none⟩), .pointer (some ⟨nb, 0, none⟩), undef, undef, undef, undef, undef, undef, undef, undef, .agg (Rs.cells r), .agg (Rs.cells x0), .pointer (some ⟨w.heap.size, 0, none⟩), .pointer (some ⟨w.heap.size, 1, none⟩), .pointer (some ⟨w.heap.size, 3, none⟩), .pointer (some ⟨w.heap.size, 6, none⟩), .pointer (some ⟨w.heap.size, 4, none⟩), .tuple #[.int .u8 0, .agg (Rs.cells s)], .agg (Rs.cells x), .tuple #[.int .u8 0, .agg (Rs.cells s)], .int .u8 0, .agg (Rs.cells s), .tuple #[.agg (Rs.cells a), .int .i64 ka], .agg (Rs.cells s), .int .i64 n, .int .i64 na, .tuple #[.agg (Rs.cells a), .int .i64 ka], .agg (Rs.cells a), undef, undef, undef, undef, undef, undef, undef, undef, undef, undef, undef, undef, undef, undef, undef, undef, undef, undef, undef, undef, undef, undef, undef, undef, undef, undef, undef, undef, undef, undef, undef, undef, undef, undef, undef, undef, undef, undef, undef, undef, undef, undef, undef, undef, undef, undef, undef, undef, undef, undef, undef, undef, undef, undef, undef, undef, undef, undef], []⟩ rfl (by kernel_rfl) (by kernel_rfl) (by kernel_rfl) (fun _ _ _ h => h) (.inl ⟨by kernel_rfl, fun _ _ => by kernel_rfl⟩) t3 (by kernel_rfl) ?_
      refine takeH (i := 6) (v := .int .i64 ka) ⟨#[.agg (Rs.cells r), .int .i64 n, .pointer (some ⟨w.heap.size, 0, none⟩), undef, .bool false, .int .u8 0, .pointer (some ⟨m1, 0, none⟩), .pointer (some ⟨nb, 0, none⟩), undef, undef, undef, undef, undef, undef, undef, undef, .agg (Rs.cells r), .agg (Rs.cells x0), .pointer (some ⟨w.heap.size, 0, none⟩), .pointer (some ⟨w.heap.size, 1, none⟩), .pointer (some ⟨w.heap.size, 3, none⟩), .pointer (some ⟨w.heap.size, 6, none⟩), .pointer (some ⟨w.heap.size, 4, none⟩), .tuple #[.int .u8 0, .agg (Rs.cells s)], .agg (Rs.cells x), .tuple #[.int .u8 0, .agg (Rs.cells s)], .int .u8 0, .agg (Rs.cells s), .tuple #[.agg (Rs.cells a), .int .i64 ka], .agg (Rs.cells s), .int .i64 n, .int .i64 na, .tuple #[.agg (Rs.cells a), .int .i64 ka], .agg (Rs.cells a), .int .i64 ka, undef, undef, undef, undef, undef, undef, undef, undef, undef, undef, undef, undef, undef, undef, undef, undef, undef, undef, undef, undef, undef, undef, undef, undef, undef, undef, undef, undef, undef, undef, undef, undef, undef, undef, undef, undef, undef, undef, undef, undef, undef, undef, undef, undef, undef, undef, undef, undef, undef, undef, undef, undef, undef, undef, undef, undef, undef], []⟩ rfl (by kernel_rfl) (by kernel_rfl) (by kernel_rfl) (fun _ _ _ h => h) (.inl ⟨by kernel_rfl, fun _ _ => by kernel_rfl⟩) t3 (by kernel_rfl) ?_
      refine wpAnyH_all (rs := [8]) (by kernel_rfl) (by simp) ?_
      intro i hi
      obtain rfl : i = 8 := by simpa using hi
      clear hi
      refine store_at t3 be hnb hle rfl (by kernel_rfl) (.tmp 7) (.tmp 33) rfl a (by kernel_rfl) (by kernel_rfl) ?_
      intro V9 t9
      refine ⟨t9.sub (fun p hp => List.mem_cons_of_mem _ hp), ?_⟩
      refine takeH (i := 9) (v := .int .i64 ka) ⟨#[.agg (Rs.cells r), .int .i64 n, .pointer (some ⟨w.heap.size, 0, none⟩), undef, .bool false, .int .u8 0, .pointer (some ⟨m1, 0, none⟩), .pointer (some ⟨nb, 0, none⟩), .int .i64 ka, undef, undef, undef, undef, undef, undef, undef, .agg (Rs.cells r), .agg (Rs.cells x0), .pointer (some ⟨w.heap.size, 0, none⟩), .pointer (some ⟨w.heap.size, 1, none⟩), .pointer (some ⟨w.heap.size, 3, none⟩), .pointer (some ⟨w.heap.size, 6, none⟩), .pointer (some ⟨w.heap.size, 4, none⟩), .tuple #[.int .u8 0, .agg (Rs.cells s)], .agg (Rs.cells x), .tuple #[.int .u8 0, .agg (Rs.cells s)], .int .u8 0, .agg (Rs.cells s), .tuple #[.agg (Rs.cells a), .int .i64 ka], .agg (Rs.cells s), .int .i64 n, .int .i64 na, .tuple #[.agg (Rs.cells a), .int .i64 ka], .agg (Rs.cells a), .int .i64 ka, undef, undef, undef, undef, undef, undef, undef, undef, undef, undef, undef, undef, undef, undef, undef, undef, undef, undef, undef, undef, undef, undef, undef, undef, undef, undef, undef, undef, undef, undef, undef, undef, undef, undef, undef, undef, undef, undef, undef, undef, undef, undef, undef, undef, undef, undef, undef, undef, undef, undef, undef, undef, undef, undef, undef, undef, undef], []⟩ rfl (by kernel_rfl) (by kernel_rfl) (by kernel_rfl) (fun _ _ _ h => h) (.inl ⟨by kernel_rfl, fun _ _ => by kernel_rfl⟩) (t9.sub (fun p hp => List.mem_cons_of_mem _ hp)) (by kernel_rfl) ?_
      refine wpAnyH_done (by kernel_rfl) ?_ _
      try dsimp only
      go_wp2
      go_meet
      exact ⟨nb, rfl, t9⟩
  case rest =>
    obtain ⟨m2, rfl, s0'⟩ := hcut
    clear s0
    have s0 := s0'
    clear s0'
    go_upto_region 5 with (first
      | fail)
    refine wp_region_lit ?_
    refine pl_val (v := .int .u8 0) (by kernel_rfl) (by kernel_rfl) ⟨#[.agg (Rs.cells r), .int .i64 n, .pointer (some ⟨w.heap.size, 0, none⟩), undef, .bool false, .int .u8 0, .pointer (some ⟨m1, 0, none⟩), .pointer (some ⟨m2, 0, none⟩), u8, undef, undef, undef, undef, undef, undef, undef, u16, u17, u18, u19, u20, u21, u22, u23, u24, u25, u26, u27, u28, u29, u30, u31, u32, u33, u34, .int .u8 0, u36, u37, u38, u39, u40, u41, u42, u43, u44, u45, u46, u47, u48, u49, u50, u51, u52, u53, u54, u55, u56, u57, u58, u59, u60, u61, u62, u63, u64, u65, u66, u67, u68, u69, u70, u71, u72, u73, u74, u75, u76, u77, u78, u79, u80, u81, u82, u83, u84, u85, u86, u87, u88, u89, u90, u91], []⟩ (by kernel_rfl) ?_
    refine pl_val (v := .bool false) (by kernel_rfl) (by kernel_rfl) ⟨#[.agg (Rs.cells r), .int .i64 n, .pointer (some ⟨w.heap.size, 0, none⟩), undef, .bool false, .int .u8 0, .pointer (some ⟨m1, 0, none⟩), .pointer (some ⟨m2, 0, none⟩), u8, undef, undef, undef, undef, undef, undef, undef, u16, u17, u18, u19, u20, u21, u22, u23, u24, u25, u26, u27, u28, u29, u30, u31, u32, u33, u34, .int .u8 0, .bool false, u37, u38, u39, u40, u41, u42, u43, u44, u45, u46, u47, u48, u49, u50, u51, u52, u53, u54, u55, u56, u57, u58, u59, u60, u61, u62, u63, u64, u65, u66, u67, u68, u69, u70, u71, u72, u73, u74, u75, u76, u77, u78, u79, u80, u81, u82, u83, u84, u85, u86, u87, u88, u89, u90, u91], []⟩ (by kernel_rfl) ?_
    refine pl_val (v := .bool false) (by kernel_rfl) (by kernel_rfl) ⟨#[.agg (Rs.cells r), .int .i64 n, .pointer (some ⟨w.heap.size, 0, none⟩), undef, .bool false, .int .u8 0, .pointer (some ⟨m1, 0, none⟩), .pointer (some ⟨m2, 0, none⟩), u8, undef, undef, undef, undef, undef, undef, undef, u16, u17, u18, u19, u20, u21, u22, u23, u24, u25, u26, u27, u28, u29, u30, u31, u32, u33, u34, .int .u8 0, .bool false, .bool false, u38, u39, u40, u41, u42, u43, u44, u45, u46, u47, u48, u49, u50, u51, u52, u53, u54, u55, u56, u57, u58, u59, u60, u61, u62, u63, u64, u65, u66, u67, u68, u69, u70, u71, u72, u73, u74, u75, u76, u77, u78, u79, u80, u81, u82, u83, u84, u85, u86, u87, u88, u89, u90, u91], []⟩ (by kernel_rfl) ?_
    refine pl_val (v := .pointer (some ⟨m2, 3, none⟩)) (by kernel_rfl) (by kernel_rfl) ⟨#[.agg (Rs.cells r), .int .i64 n, .pointer (some ⟨w.heap.size, 0, none⟩), undef, .bool false, .int .u8 0, .pointer (some ⟨m1, 0, none⟩), .pointer (some ⟨m2, 0, none⟩), u8, undef, undef, undef, undef, undef, undef, undef, u16, u17, u18, u19, u20, u21, u22, u23, u24, u25, u26, u27, u28, u29, u30, u31, u32, u33, u34, .int .u8 0, .bool false, .bool false, .pointer (some ⟨m2, 3, none⟩), u39, u40, u41, u42, u43, u44, u45, u46, u47, u48, u49, u50, u51, u52, u53, u54, u55, u56, u57, u58, u59, u60, u61, u62, u63, u64, u65, u66, u67, u68, u69, u70, u71, u72, u73, u74, u75, u76, u77, u78, u79, u80, u81, u82, u83, u84, u85, u86, u87, u88, u89, u90, u91], []⟩ (by kernel_rfl) ?_
    refine pl_fld (v := .bool false) (by kernel_rfl) m2 3 (fun w c => by go_simp) (((s0.blk m2 a (by simp)).cell 3).trans (congrArg some (congrArg Value.bool avH.out))) ⟨#[.agg (Rs.cells r), .int .i64 n, .pointer (some ⟨w.heap.size, 0, none⟩), undef, .bool false, .int .u8 0, .pointer (some ⟨m1, 0, none⟩), .pointer (some ⟨m2, 0, none⟩), u8, undef, undef, undef, undef, undef, undef, undef, u16, u17, u18, u19, u20, u21, u22, u23, u24, u25, u26, u27, u28, u29, u30, u31, u32, u33, u34, .int .u8 0, .bool false, .bool false, .pointer (some ⟨m2, 3, none⟩), .bool false, u40, u41, u42, u43, u44, u45, u46, u47, u48, u49, u50, u51, u52, u53, u54, u55, u56, u57, u58, u59, u60, u61, u62, u63, u64, u65, u66, u67, u68, u69, u70, u71, u72, u73, u74, u75, u76, u77, u78, u79, u80, u81, u82, u83, u84, u85, u86, u87, u88, u89, u90, u91], []⟩ (by kernel_rfl) ?_
    refine pl_val (v := .bool false) (by kernel_rfl) (by kernel_rfl) ⟨#[.agg (Rs.cells r), .int .i64 n, .pointer (some ⟨w.heap.size, 0, none⟩), undef, .bool false, .int .u8 0, .pointer (some ⟨m1, 0, none⟩), .pointer (some ⟨m2, 0, none⟩), u8, undef, undef, undef, undef, undef, undef, undef, u16, u17, u18, u19, u20, u21, u22, u23, u24, u25, u26, u27, u28, u29, u30, u31, u32, u33, u34, .int .u8 0, .bool false, .bool false, .pointer (some ⟨m2, 3, none⟩), .bool false, .bool false, u41, u42, u43, u44, u45, u46, u47, u48, u49, u50, u51, u52, u53, u54, u55, u56, u57, u58, u59, u60, u61, u62, u63, u64, u65, u66, u67, u68, u69, u70, u71, u72, u73, u74, u75, u76, u77, u78, u79, u80, u81, u82, u83, u84, u85, u86, u87, u88, u89, u90, u91], []⟩ (by kernel_rfl) ?_
    refine pl_val (v := .bool false) (by kernel_rfl) (by kernel_rfl) ⟨#[.agg (Rs.cells r), .int .i64 n, .pointer (some ⟨w.heap.size, 0, none⟩), undef, .bool false, .int .u8 0, .pointer (some ⟨m1, 0, none⟩), .pointer (some ⟨m2, 0, none⟩), u8, undef, undef, undef, undef, undef, undef, undef, u16, u17, u18, u19, u20, u21, u22, u23, u24, u25, u26, u27, u28, u29, u30, u31, u32, u33, u34, .int .u8 0, .bool false, .bool false, .pointer (some ⟨m2, 3, none⟩), .bool false, .bool false, .bool false, u42, u43, u44, u45, u46, u47, u48, u49, u50, u51, u52, u53, u54, u55, u56, u57, u58, u59, u60, u61, u62, u63, u64, u65, u66, u67, u68, u69, u70, u71, u72, u73, u74, u75, u76, u77, u78, u79, u80, u81, u82, u83, u84, u85, u86, u87, u88, u89, u90, u91], []⟩ (by kernel_rfl) ?_
    refine pl_load (by kernel_rfl) (.tmp 7) rfl m2 (by kernel_rfl) a (s0.blk m2 a (by simp)) ⟨#[.agg (Rs.cells r), .int .i64 n, .pointer (some ⟨w.heap.size, 0, none⟩), undef, .bool false, .int .u8 0, .pointer (some ⟨m1, 0, none⟩), .pointer (some ⟨m2, 0, none⟩), u8, undef, undef, undef, undef, undef, undef, undef, u16, u17, u18, u19, u20, u21, u22, u23, u24, u25, u26, u27, u28, u29, u30, u31, u32, u33, u34, .int .u8 0, .bool false, .bool false, .pointer (some ⟨m2, 3, none⟩), .bool false, .bool false, .bool false, .agg (Rs.cells a), u43, u44, u45, u46, u47, u48, u49, u50, u51, u52, u53, u54, u55, u56, u57, u58, u59, u60, u61, u62, u63, u64, u65, u66, u67, u68, u69, u70, u71, u72, u73, u74, u75, u76, u77, u78, u79, u80, u81, u82, u83, u84, u85, u86, u87, u88, u89, u90, u91], []⟩ (by kernel_rfl) ?_
    refine pl_call (f := 9) (v := .bool false) (by kernel_rfl) (by kernel_rfl) (la.out _) ⟨#[.agg (Rs.cells r), .int .i64 n, .pointer (some ⟨w.heap.size, 0, none⟩), undef, .bool false, .int .u8 0, .pointer (some ⟨m1, 0, none⟩), .pointer (some ⟨m2, 0, none⟩), u8, undef, undef, undef, undef, undef, undef, undef, u16, u17, u18, u19, u20, u21, u22, u23, u24, u25, u26, u27, u28, u29, u30, u31, u32, u33, u34, .int .u8 0, .bool false, .bool false, .pointer (some ⟨m2, 3, none⟩), .bool false, .bool false, .bool false, .agg (Rs.cells a), .bool false, u44, u45, u46, u47, u48, u49, u50, u51, u52, u53, u54, u55, u56, u57, u58, u59, u60, u61, u62, u63, u64, u65, u66, u67, u68, u69, u70, u71, u72, u73, u74, u75, u76, u77, u78, u79, u80, u81, u82, u83, u84, u85, u86, u87, u88, u89, u90, u91], []⟩ (by kernel_rfl) ?_
    intro Wx hbx
    replace s0 := s0.on hbx
    clear hbx
    refine pl_val (v := .bool false) (by kernel_rfl) (by kernel_rfl) ⟨#[.agg (Rs.cells r), .int .i64 n, .pointer (some ⟨w.heap.size, 0, none⟩), undef, .bool false, .int .u8 0, .pointer (some ⟨m1, 0, none⟩), .pointer (some ⟨m2, 0, none⟩), u8, undef, undef, undef, undef, undef, undef, undef, u16, u17, u18, u19, u20, u21, u22, u23, u24, u25, u26, u27, u28, u29, u30, u31, u32, u33, u34, .int .u8 0, .bool false, .bool false, .pointer (some ⟨m2, 3, none⟩), .bool false, .bool false, .bool false, .agg (Rs.cells a), .bool false, .bool false, u45, u46, u47, u48, u49, u50, u51, u52, u53, u54, u55, u56, u57, u58, u59, u60, u61, u62, u63, u64, u65, u66, u67, u68, u69, u70, u71, u72, u73, u74, u75, u76, u77, u78, u79, u80, u81, u82, u83, u84, u85, u86, u87, u88, u89, u90, u91], []⟩ (by kernel_rfl) ?_
    refine pl_end rfl ?_
    dsimp only
    go_upto_region 7 with (first
      | fail)
    go_upto_region 8 with (first
      | (refine wpList_load_blk rfl 23 _ rfl m1 rfl (Rs.cells s) _ (s0.blk m1 s (by simp)) Try.underlying23 rfl (infoR' _) ?_)
      | (go_at_call 10; refine (NS.out _).mono ?_; rintro e Wx ⟨rfl, hbx⟩; replace s0 := s0.on hbx; clear hbx))
    go_upto_region 10 with (first
      | fail)
    try simp only [Act.put]
    try dsimp only
    go_cut [10] (fun q wx => ∃ m : Nat, q = .pointer (some ⟨m, 0, none⟩) ∧ w.heap.size ≤ m ∧ St w ((m, b) :: [(m2, a), (m1, s), (w.heap.size, x)]) wx)
    case first =>
      have t0 := s0.drew
      refine wp_region_held (S := St w [(m2, a), (m1, s), (w.heap.size, x)]) (by kernel_rfl) ?_
      refine takeH (i := 0) (v := .agg (Rs.cells x).toList.toArray) ⟨#[.agg (Rs.cells r), .int .i64 n, .pointer (some ⟨w.heap.size, 0, none⟩), undef, .bool false, .int .u8 0, .pointer (some ⟨m1, 0, none⟩), .pointer (some ⟨m2, 0, none⟩), u8, .int .i64 29781, undef, undef, undef, undef, undef, undef, u16, u17, u18, u19, u20, u21, u22, u23, u24, u25, u26, u27, u28, u29, u30, u31, u32, u33, u34, .int .u8 0, .bool false, .bool false, .pointer (some ⟨m2, 3, none⟩), .bool false, .bool false, .bool false, .agg (Rs.cells a), .bool false, .bool false, .agg (Rs.cells s), .int .i64 29781, .int .i64 29781, .bool true, .bool true, .int .i64 29781, .bool false, .bool false, u53, .agg (Rs.cells x), u55, u56, u57, u58, u59, u60, u61, u62, u63, u64, u65, u66, u67, u68, u69, u70, u71, u72, u73, u74, u75, u76, u77, u78, u79, u80, u81, u82, u83, u84, u85, u86, u87, u88, u89, u90, u91], []⟩ rfl (by kernel_rfl) (by kernel_rfl) (by kernel_rfl) (fun _ _ _ h => h) (yieldsIf_load_mid (by kernel_rfl) 23 (.tmp 2) rfl w.heap.size 0 (by kernel_rfl) (Rs.cells x).toList _ (fun v hv => Blk.range' (St.blk hv w.heap.size x (by simp))) Try.underlying23 rfl (by rw [Array.length_toList]; exact infoR' x)) t0 (by kernel_rfl) ?_
      refine takeH (i := 1) (v := .int .i64 n) ⟨#[.agg (Rs.cells r), .int .i64 n, .pointer (some ⟨w.heap.size, 0, none⟩), undef, .bool false, .int .u8 0, .pointer (some ⟨m1, 0, none⟩), .pointer (some ⟨m2, 0, none⟩), u8, .int .i64 29781, undef, undef, undef, undef, undef, undef, u16, u17, u18, u19, u20, u21, u22, u23, u24, u25, u26, u27, u28, u29, u30, u31, u32, u33, u34, .int .u8 0, .bool false, .bool false, .pointer (some ⟨m2, 3, none⟩), .bool false, .bool false, .bool false, .agg (Rs.cells a), .bool false, .bool false, .agg (Rs.cells s), .int .i64 29781, .int .i64 29781, .bool true, .bool true, .int .i64 29781, .bool false, .bool false, u53, .agg (Rs.cells x), .int .i64 n, u56, u57, u58, u59, u60, u61, u62, u63, u64, u65, u66, u67, u68, u69, u70, u71, u72, u73, u74, u75, u76, u77, u78, u79, u80, u81, u82, u83, u84, u85, u86, u87, u88, u89, u90, u91], []⟩ rfl (by kernel_rfl) (by kernel_rfl) (by kernel_rfl) (fun _ _ _ h => h) (.inl ⟨by kernel_rfl, fun _ _ => by kernel_rfl⟩) t0 (by kernel_rfl) ?_
      refine wpAnyH_all (rs := [2, 7]) (by kernel_rfl) (by simp) ?_
      intro i hi
      rcases two_of hi with rfl | rfl
      · clear hi
        refine wpOp_contract (f := 13) rfl (by kernel_rfl) (by kernel_rfl) (SB.out _) ⟨#[.agg (Rs.cells r), .int .i64 n, .pointer (some ⟨w.heap.size, 0, none⟩), undef, .bool false, .int .u8 0, .pointer (some ⟨m1, 0, none⟩), .pointer (some ⟨m2, 0, none⟩), u8, .int .i64 29781, undef, undef, undef, undef, undef, undef, u16, u17, u18, u19, u20, u21, u22, u23, u24, u25, u26, u27, u28, u29, u30, u31, u32, u33, u34, .int .u8 0, .bool false, .bool false, .pointer (some ⟨m2, 3, none⟩), .bool false, .bool false, .bool false, .agg (Rs.cells a), .bool false, .bool false, .agg (Rs.cells s), .int .i64 29781, .int .i64 29781, .bool true, .bool true, .int .i64 29781, .bool false, .bool false, u53, .agg (Rs.cells x), .int .i64 n, .int .i64 nb_, u57, u58, u59, u60, u61, u62, u63, u64, u65, u66, u67, u68, u69, u70, u71, u72, u73, u74, u75, u76, u77, u78, u79, u80, u81, u82, u83, u84, u85, u86, u87, u88, u89, u90, u91], []⟩ (by kernel_rfl) ?_
        intro V1 hbq
        have t1 := t0.on hbq
        clear hbq
        refine ⟨t1, ?_⟩
        refine wpAnyH_all (rs := [3, 7]) (by kernel_rfl) (by simp) ?_
        intro i hi
        rcases two_of hi with rfl | rfl
        · clear hi
          refine wpOp_contract (f := 11) rfl (by kernel_rfl) (by kernel_rfl) (AB.out _) ⟨#[.agg (Rs.cells r), .int .i64 n, .pointer (some ⟨w.heap.size, 0, none⟩), undef, .bool false, .int .u8 0, .pointer (some ⟨m1, 0, none⟩), .pointer (some ⟨m2, 0, none⟩), u8, .int .i64 29781, undef, undef, undef, undef, undef, undef, u16, u17, u18, u19, u20, u21, u22, u23, u24, u25, u26, u27, u28, u29, u30, u31, u32, u33, u34, .int .u8 0, .bool false, .bool false, .pointer (some ⟨m2, 3, none⟩), .bool false, .bool false, .bool false, .agg (Rs.cells a), .bool false, .bool false, .agg (Rs.cells s), .int .i64 29781, .int .i64 29781, .bool true, .bool true, .int .i64 29781, .bool false, .bool false, u53, .agg (Rs.cells x), .int .i64 n, .int .i64 nb_, .tuple #[.agg (Rs.cells b), .int .i64 kb], u58, u59, u60, u61, u62, u63, u64, u65, u66, u67, u68, u69, u70, u71, u72, u73, u74, u75, u76, u77, u78, u79, u80, u81, u82, u83, u84, u85, u86, u87, u88, u89, u90, u91], []⟩ (by kernel_rfl) ?_
          intro V2 hbq
          have t2 := t1.on hbq
          clear hbq
          refine ⟨t2, ?_⟩
          refine takeH (i := 4) (v := .tuple #[.agg (Rs.cells b), .int .i64 kb]) ⟨#[.agg (Rs.cells r), .int .i64 n, .pointer (some ⟨w.heap.size, 0, none⟩), undef, .bool false, .int .u8 0, .pointer (some ⟨m1, 0, none⟩), .pointer (some ⟨m2, 0, none⟩), u8, .int .i64 29781, undef, undef, undef, undef, undef, undef, u16, u17, u18, u19, u20, u21, u22, u23, u24, u25, u26, u27, u28, u29, u30, u31, u32, u33, u34, .int .u8 0, .bool false, .bool false, .pointer (some ⟨m2, 3, none⟩), .bool false, .bool false, .bool false, .agg (Rs.cells a), .bool false, .bool false, .agg (Rs.cells s), .int .i64 29781, .int .i64 29781, .bool true, .bool true, .int .i64 29781, .bool false, .bool false, .tuple #[.agg (Rs.cells b), .int .i64 kb], .agg (Rs.cells x), .int .i64 n, .int .i64 nb_, .tuple #[.agg (Rs.cells b), .int .i64 kb], u58, u59, u60, u61, u62, u63, u64, u65, u66, u67, u68, u69, u70, u71, u72, u73, u74, u75, u76, u77, u78, u79, u80, u81, u82, u83, u84, u85, u86, u87, u88, u89, u90, u91], []⟩ rfl (by kernel_rfl) (by kernel_rfl) (by kernel_rfl) (fun _ _ _ h => h) (.inl ⟨by kernel_rfl, fun _ _ => by kernel_rfl⟩) t2 (by kernel_rfl) ?_
          refine takeH (i := 5) (v := .agg (Rs.cells b)) ⟨#[.agg (Rs.cells r), .int .i64 n, .pointer (some ⟨w.heap.size, 0, none⟩), undef, .bool false, .int .u8 0, .pointer (some ⟨m1, 0, none⟩), .pointer (some ⟨m2, 0, none⟩), u8, .int .i64 29781, undef, undef, undef, undef, undef, undef, u16, u17, u18, u19, u20, u21, u22, u23, u24, u25, u26, u27, u28, u29, u30, u31, u32, u33, u34, .int .u8 0, .bool false, .bool false, .pointer (some ⟨m2, 3, none⟩), .bool false, .bool false, .bool false, .agg (Rs.cells a), .bool false, .bool false, .agg (Rs.cells s), .int .i64 29781, .int .i64 29781, .bool true, .bool true, .int .i64 29781, .bool false, .bool false, .tuple #[.agg (Rs.cells b), .int .i64 kb], .agg (Rs.cells x), .int .i64 n, .int .i64 nb_, .tuple #[.agg (Rs.cells b), .int .i64 kb], .agg (Rs.cells b), u59, u60, u61, u62, u63, u64, u65, u66, u67, u68, u69, u70, u71, u72, u73, u74, u75, u76, u77, u78, u79, u80, u81, u82, u83, u84, u85, u86, u87, u88, u89, u90, u91], []⟩ rfl (by kernel_rfl) (by kernel_rfl) (by kernel_rfl) (fun _ _ _ h => h) (.inl ⟨by kernel_rfl, fun _ _ => by kernel_rfl⟩) t2 (by kernel_rfl) ?_
          refine takeH (i := 6) (v := .int .i64 kb) ⟨#[.agg (Rs.cells r), .int .i64 n, .pointer (some ⟨w.heap.size, 0, none⟩), undef, .bool false, .int .u8 0, .pointer (some ⟨m1, 0, none⟩), .pointer (some ⟨m2, 0, none⟩), u8, .int .i64 29781, undef, undef, undef, undef, undef, undef, u16, u17, u18, u19, u20, u21, u22, u23, u24, u25, u26, u27, u28, u29, u30, u31, u32, u33, u34, .int .u8 0, .bool false, .bool false, .pointer (some ⟨m2, 3, none⟩), .bool false, .bool false, .bool false, .agg (Rs.cells a), .bool false, .bool false, .agg (Rs.cells s), .int .i64 29781, .int .i64 29781, .bool true, .bool true, .int .i64 29781, .bool false, .bool false, .tuple #[.agg (Rs.cells b), .int .i64 kb], .agg (Rs.cells x), .int .i64 n, .int .i64 nb_, .tuple #[.agg (Rs.cells b), .int .i64 kb], .agg (Rs.cells b), .int .i64 kb, u60, u61, u62, u63, u64, u65, u66, u67, u68, u69, u70, u71, u72, u73, u74, u75, u76, u77, u78, u79, u80, u81, u82, u83, u84, u85, u86, u87, u88, u89, u90, u91], []⟩ rfl (by kernel_rfl) (by kernel_rfl) (by kernel_rfl) (fun _ _ _ h => h) (.inl ⟨by kernel_rfl, fun _ _ => by kernel_rfl⟩) t2 (by kernel_rfl) ?_
          refine wpAnyH_all (rs := [7]) (by kernel_rfl) (by simp) ?_
          intro i hi
          obtain rfl : i = 7 := by simpa using hi
          clear hi
          refine alloc_at t2 rfl (by kernel_rfl) rfl ?_
          intro nb V3 t3 be hnb hle
          refine ⟨t3, ?_⟩
          refine wpAnyH_all (rs := [8]) (by kernel_rfl) (by simp) ?_
          intro i hi
          obtain rfl : i = 8 := by simpa using hi
          clear hi
          refine store_at t3 be hnb hle rfl (by kernel_rfl) (.tmp 10) (.tmp 58) rfl b (by kernel_rfl) (by kernel_rfl) ?_
          intro V9 t9
          refine ⟨t9.sub (fun p hp => List.mem_cons_of_mem _ hp), ?_⟩
          refine takeH (i := 9) (v := .int .i64 kb) ⟨#[.agg (Rs.cells r), .int .i64 n, .pointer (some ⟨w.heap.size, 0, none⟩), undef, .bool false, .int .u8 0, .pointer (some ⟨m1, 0, none⟩), .pointer (some ⟨m2, 0, none⟩), u8, .int .i64 29781, .pointer (some ⟨nb, 0, none⟩), .int .i64 kb, undef, undef, undef, undef, u16, u17, u18, u19, u20, u21, u22, u23, u24, u25, u26, u27, u28, u29, u30, u31, u32, u33, u34, .int .u8 0, .bool false, .bool false, .pointer (some ⟨m2, 3, none⟩), .bool false, .bool false, .bool false, .agg (Rs.cells a), .bool false, .bool false, .agg (Rs.cells s), .int .i64 29781, .int .i64 29781, .bool true, .bool true, .int .i64 29781, .bool false, .bool false, .tuple #[.agg (Rs.cells b), .int .i64 kb], .agg (Rs.cells x), .int .i64 n, .int .i64 nb_, .tuple #[.agg (Rs.cells b), .int .i64 kb], .agg (Rs.cells b), .int .i64 kb, u60, u61, u62, u63, u64, u65, u66, u67, u68, u69, u70, u71, u72, u73, u74, u75, u76, u77, u78, u79, u80, u81, u82, u83, u84, u85, u86, u87, u88, u89, u90, u91], []⟩ rfl (by kernel_rfl) (by kernel_rfl) (by kernel_rfl) (fun _ _ _ h => h) (.inl ⟨by kernel_rfl, fun _ _ => by kernel_rfl⟩) (t9.sub (fun p hp => List.mem_cons_of_mem _ hp)) (by kernel_rfl) ?_
          refine wpAnyH_done (by kernel_rfl) ?_ _
          try dsimp only
          go_wp2
          go_meet
          exact ⟨nb, rfl, hle, t9⟩
        · clear hi
          refine alloc_at t1 rfl (by kernel_rfl) rfl ?_
          intro nb V4 t2 be hnb hle
          refine ⟨t2, ?_⟩
          refine wpAnyH_all (rs := [3]) (by kernel_rfl) (by simp) ?_
          intro i hi
          obtain rfl : i = 3 := by simpa using hi
          clear hi
          refine wpOp_contract (f := 11) rfl (by kernel_rfl) (by kernel_rfl) (AB.out _) ⟨#[.agg (Rs.cells r), .int .i64 n, .pointer (some ⟨w.heap.size, 0, none⟩), undef, .bool false, .int .u8 0, .pointer (some ⟨m1, 0, none⟩), .pointer (some ⟨m2, 0, none⟩), u8, .int .i64 29781, .pointer (some ⟨nb, 0, none⟩), undef, undef, undef, undef, undef, u16, u17, u18, u19, u20, u21, u22, u23, u24, u25, u26, u27, u28, u29, u30, u31, u32, u33, u34, .int .u8 0, .bool false, .bool false, .pointer (some ⟨m2, 3, none⟩), .bool false, .bool false, .bool false, .agg (Rs.cells a), .bool false, .bool false, .agg (Rs.cells s), .int .i64 29781, .int .i64 29781, .bool true, .bool true, .int .i64 29781, .bool false, .bool false, u53, .agg (Rs.cells x), .int .i64 n, .int .i64 nb_, .tuple #[.agg (Rs.cells b), .int .i64 kb], u58, u59, u60, u61, u62, u63, u64, u65, u66, u67, u68, u69, u70, u71, u72, u73, u74, u75, u76, u77, u78, u79, u80, u81, u82, u83, u84, u85, u86, u87, u88, u89, u90, u91], []⟩ (by kernel_rfl) ?_
          intro V5 hbq
          have t3 := t2.on hbq
          replace be := be.below be.lt hbq
          clear hbq
          refine ⟨t3, ?_⟩
          refine takeH (i := 4) (v := .tuple #[.agg (Rs.cells b), .int .i64 kb]) ⟨#[.agg (Rs.cells r), .int .i64 n, .pointer (some ⟨w.heap.size, 0, none⟩), undef, .bool false, .int .u8 0, .pointer (some ⟨m1, 0, none⟩), .pointer (some ⟨m2, 0, none⟩), u8, .int .i64 29781, .pointer (some ⟨nb, 0, none⟩), undef, undef, undef, undef, undef, u16, u17, u18, u19, u20, u21, u22, u23, u24, u25, u26, u27, u28, u29, u30, u31, u32, u33, u34, .int .u8 0, .bool false, .bool false, .pointer (some ⟨m2, 3, none⟩), .bool false, .bool false, .bool false, .agg (Rs.cells a), .bool false, .bool false, .agg (Rs.cells s), .int .i64 29781, .int .i64 29781, .bool true, .bool true, .int .i64 29781, .bool false, .bool false, .tuple #[.agg (Rs.cells b), .int .i64 kb], .agg (Rs.cells x), .int .i64 n, .int .i64 nb_, .tuple #[.agg (Rs.cells b), .int .i64 kb], u58, u59, u60, u61, u62, u63, u64, u65, u66, u67, u68, u69, u70, u71, u72, u73, u74, u75, u76, u77, u78, u79, u80, u81, u82, u83, u84, u85, u86, u87, u88, u89, u90, u91], []⟩ rfl (by kernel_rfl) (by kernel_rfl) (by kernel_rfl) (fun _ _ _ h => h) (.inl ⟨by kernel_rfl, fun _ _ => by kernel_rfl⟩) t3 (by kernel_rfl) ?_
          refine takeH (i := 5) (v := .agg (Rs.cells b)) ⟨#[.agg (Rs.cells r), .int .i64 n, .pointer (some ⟨w.heap.size, 0, none⟩), undef, .bool false, .int .u8 0, .pointer (some ⟨m1, 0, none⟩), .pointer (some ⟨m2, 0, none⟩), u8, .int .i64 29781, .pointer (some ⟨nb, 0, none⟩), undef, undef, undef, undef, undef, u16, u17, u18, u19, u20, u21, u22, u23, u24, u25, u26, u27, u28, u29, u30, u31, u32, u33, u34, .int .u8 0, .bool false, .bool false, .pointer (some ⟨m2, 3, none⟩), .bool false, .bool false, .bool false, .agg (Rs.cells a), .bool false, .bool false, .agg (Rs.cells s), .int .i64 29781, .int .i64 29781, .bool true, .bool true, .int .i64 29781, .bool false, .bool false, .tuple #[.agg (Rs.cells b), .int .i64 kb], .agg (Rs.cells x), .int .i64 n, .int .i64 nb_, .tuple #[.agg (Rs.cells b), .int .i64 kb], .agg (Rs.cells b), u59, u60, u61, u62, u63, u64, u65, u66, u67, u68, u69, u70, u71, u72, u73, u74, u75, u76, u77, u78, u79, u80, u81, u82, u83, u84, u85, u86, u87, u88, u89, u90, u91], []⟩ rfl (by kernel_rfl) (by kernel_rfl) (by kernel_rfl) (fun _ _ _ h => h) (.inl ⟨by kernel_rfl, fun _ _ => by kernel_rfl⟩) t3 (by kernel_rfl) ?_
          refine takeH (i := 6) (v := .int .i64 kb) ⟨#[.agg (Rs.cells r), .int .i64 n, .pointer (some ⟨w.heap.size, 0, none⟩), undef, .bool false, .int .u8 0, .pointer (some ⟨m1, 0, none⟩), .pointer (some ⟨m2, 0, none⟩), u8, .int .i64 29781, .pointer (some ⟨nb, 0, none⟩), undef, undef, undef, undef, undef, u16, u17, u18, u19, u20, u21, u22, u23, u24, u25, u26, u27, u28, u29, u30, u31, u32, u33, u34, .int .u8 0, .bool false, .bool false, .pointer (some ⟨m2, 3, none⟩), .bool false, .bool false, .bool false, .agg (Rs.cells a), .bool false, .bool false, .agg (Rs.cells s), .int .i64 29781, .int .i64 29781, .bool true, .bool true, .int .i64 29781, .bool false, .bool false, .tuple #[.agg (Rs.cells b), .int .i64 kb], .agg (Rs.cells x), .int .i64 n, .int .i64 nb_, .tuple #[.agg (Rs.cells b), .int .i64 kb], .agg (Rs.cells b), .int .i64 kb, u60, u61, u62, u63, u64, u65, u66, u67, u68, u69, u70, u71, u72, u73, u74, u75, u76, u77, u78, u79, u80, u81, u82, u83, u84, u85, u86, u87, u88, u89, u90, u91], []⟩ rfl (by kernel_rfl) (by kernel_rfl) (by kernel_rfl) (fun _ _ _ h => h) (.inl ⟨by kernel_rfl, fun _ _ => by kernel_rfl⟩) t3 (by kernel_rfl) ?_
          refine wpAnyH_all (rs := [8]) (by kernel_rfl) (by simp) ?_
          intro i hi
          obtain rfl : i = 8 := by simpa using hi
          clear hi
          refine store_at t3 be hnb hle rfl (by kernel_rfl) (.tmp 10) (.tmp 58) rfl b (by kernel_rfl) (by kernel_rfl) ?_
          intro V9 t9
          refine ⟨t9.sub (fun p hp => List.mem_cons_of_mem _ hp), ?_⟩
          refine takeH (i := 9) (v := .int .i64 kb) ⟨#[.agg (Rs.cells r), .int .i64 n, .pointer (some ⟨w.heap.size, 0, none⟩), undef, .bool false, .int .u8 0, .pointer (some ⟨m1, 0, none⟩), .pointer (some ⟨m2, 0, none⟩), u8, .int .i64 29781, .pointer (some ⟨nb, 0, none⟩), .int .i64 kb, undef, undef, undef, undef, u16, u17, u18, u19, u20, u21, u22, u23, u24, u25, u26, u27, u28, u29, u30, u31, u32, u33, u34, .int .u8 0, .bool false, .bool false, .pointer (some ⟨m2, 3, none⟩), .bool false, .bool false, .bool false, .agg (Rs.cells a), .bool false, .bool false, .agg (Rs.cells s), .int .i64 29781, .int .i64 29781, .bool true, .bool true, .int .i64 29781, .bool false, .bool false, .tuple #[.agg (Rs.cells b), .int .i64 kb], .agg (Rs.cells x), .int .i64 n, .int .i64 nb_, .tuple #[.agg (Rs.cells b), .int .i64 kb], .agg (Rs.cells b), .int .i64 kb, u60, u61, u62, u63, u64, u65, u66, u67, u68, u69, u70, u71, u72, u73, u74, u75, u76, u77, u78, u79, u80, u81, u82, u83, u84, u85, u86, u87, u88, u89, u90, u91], []⟩ rfl (by kernel_rfl) (by kernel_rfl) (by kernel_rfl) (fun _ _ _ h => h) (.inl ⟨by kernel_rfl, fun _ _ => by kernel_rfl⟩) (t9.sub (fun p hp => List.mem_cons_of_mem _ hp)) (by kernel_rfl) ?_
          refine wpAnyH_done (by kernel_rfl) ?_ _
          try dsimp only
          go_wp2
          go_meet
          exact ⟨nb, rfl, hle, t9⟩
      · clear hi
        refine alloc_at t0 rfl (by kernel_rfl) rfl ?_
        intro nb V6 t1 be hnb hle
        refine ⟨t1, ?_⟩
        refine wpAnyH_all (rs := [2]) (by kernel_rfl) (by simp) ?_
        intro i hi
        obtain rfl : i = 2 := by simpa using hi
        clear hi
        refine wpOp_contract (f := 13) rfl (by kernel_rfl) (by kernel_rfl) (SB.out _) ⟨#[.agg (Rs.cells r), .int .i64 n, .pointer (some ⟨w.heap.size, 0, none⟩), undef, .bool false, .int .u8 0, .pointer (some ⟨m1, 0, none⟩), .pointer (some ⟨m2, 0, none⟩), u8, .int .i64 29781, .pointer (some ⟨nb, 0, none⟩), undef, undef, undef, undef, undef, u16, u17, u18, u19, u20, u21, u22, u23, u24, u25, u26, u27, u28, u29, u30, u31, u32, u33, u34, .int .u8 0, .bool false, .bool false, .pointer (some ⟨m2, 3, none⟩), .bool false, .bool false, .bool false, .agg (Rs.cells a), .bool false, .bool false, .agg (Rs.cells s), .int .i64 29781, .int .i64 29781, .bool true, .bool true, .int .i64 29781, .bool false, .bool false, u53, .agg (Rs.cells x), .int .i64 n, .int .i64 nb_, u57, u58, u59, u60, u61, u62, u63, u64, u65, u66, u67, u68, u69, u70, u71, u72, u73, u74, u75, u76, u77, u78, u79, u80, u81, u82, u83, u84, u85, u86, u87, u88, u89, u90, u91], []⟩ (by kernel_rfl) ?_
        intro V7 hbq
        have t2 := t1.on hbq
        replace be := be.below be.lt hbq
        clear hbq
        refine ⟨t2, ?_⟩
        refine wpAnyH_all (rs := [3]) (by kernel_rfl) (by simp) ?_
        intro i hi
        obtain rfl : i = 3 := by simpa using hi
        clear hi
        refine wpOp_contract (f := 11) rfl (by kernel_rfl) (by kernel_rfl) (AB.out _) ⟨#[.agg (Rs.cells r), .int .i64 n, .pointer (some ⟨w.heap.size, 0, none⟩), undef, .bool false, .int .u8 0, .pointer (some ⟨m1, 0, none⟩), .pointer (some ⟨m2, 0, none⟩), u8, .int .i64 29781, .pointer (some ⟨nb, 0, none⟩), undef, undef, undef, undef, undef, u16, u17, u18, u19, u20, u21, u22, u23, u24, u25, u26, u27, u28, u29, u30, u31, u32, u33, u34, .int .u8 0, .bool false, .bool false, .pointer (some ⟨m2, 3, none⟩), .bool false, .bool false, .bool false, .agg (Rs.cells a), .bool false, .bool false, .agg (Rs.cells s), .int .i64 29781, .int .i64 29781, .bool true, .bool true, .int .i64 29781, .bool false, .bool false, u53, .agg (Rs.cells x), .int .i64 n, .int .i64 nb_, .tuple #[.agg (Rs.cells b), .int .i64 kb], u58, u59, u60, u61, u62, u63, u64, u65, u66, u67, u68, u69, u70, u71, u72, u73, u74, u75, u76, u77, u78, u79, u80, u81, u82, u83, u84, u85, u86, u87, u88, u89, u90, u91], []⟩ (by kernel_rfl) ?_
        intro V8 hbq
        have t3 := t2.on hbq
        replace be := be.below be.lt hbq
        clear hbq
        refine ⟨t3, ?_⟩
        refine takeH (i := 4) (v := .tuple #[.agg (Rs.cells b), .int .i64 kb]) ⟨#[.agg (Rs.cells r), .int .i64 n, .pointer (some ⟨w.heap.size, 0, none⟩), undef, .bool false, .int .u8 0, .pointer (some ⟨m1, 0, none⟩), .pointer (some ⟨m2, 0, none⟩), u8, .int .i64 29781, .pointer (some ⟨nb, 0, none⟩), undef, undef, undef, undef, undef, u16, u17, u18, u19, u20, u21, u22, u23, u24, u25, u26, u27, u28, u29, u30, u31, u32, u33, u34, .int .u8 0, .bool false, .bool false, .pointer (some ⟨m2, 3, none⟩), .bool false, .bool false, .bool false, .agg (Rs.cells a), .bool false, .bool false, .agg (Rs.cells s), .int .i64 29781, .int .i64 29781, .bool true, .bool true, .int .i64 29781, .bool false, .bool false, .tuple #[.agg (Rs.cells b), .int .i64 kb], .agg (Rs.cells x), .int .i64 n, .int .i64 nb_, .tuple #[.agg (Rs.cells b), .int .i64 kb], u58, u59, u60, u61, u62, u63, u64, u65, u66, u67, u68, u69, u70, u71, u72, u73, u74, u75, u76, u77, u78, u79, u80, u81, u82, u83, u84, u85, u86, u87, u88, u89, u90, u91], []⟩ rfl (by kernel_rfl) (by kernel_rfl) (by kernel_rfl) (fun _ _ _ h => h) (.inl ⟨by kernel_rfl, fun _ _ => by kernel_rfl⟩) t3 (by kernel_rfl) ?_
        refine takeH (i := 5) (v := .agg (Rs.cells b)) ⟨#[.agg (Rs.cells r), .int .i64 n, .pointer (some ⟨w.heap.size, 0, none⟩), undef, .bool false, .int .u8 0, .pointer (some ⟨m1, 0, none⟩), .pointer (some ⟨m2, 0, none⟩), u8, .int .i64 29781, .pointer (some ⟨nb, 0, none⟩), undef, undef, undef, undef, undef, u16, u17, u18, u19, u20, u21, u22, u23, u24, u25, u26, u27, u28, u29, u30, u31, u32, u33, u34, .int .u8 0, .bool false, .bool false, .pointer (some ⟨m2, 3, none⟩), .bool false, .bool false, .bool false, .agg (Rs.cells a), .bool false, .bool false, .agg (Rs.cells s), .int .i64 29781, .int .i64 29781, .bool true, .bool true, .int .i64 29781, .bool false, .bool false, .tuple #[.agg (Rs.cells b), .int .i64 kb], .agg (Rs.cells x), .int .i64 n, .int .i64 nb_, .tuple #[.agg (Rs.cells b), .int .i64 kb], .agg (Rs.cells b), u59, u60, u61, u62, u63, u64, u65, u66, u67, u68, u69, u70, u71, u72, u73, u74, u75, u76, u77, u78, u79, u80, u81, u82, u83, u84, u85, u86, u87, u88, u89, u90, u91], []⟩ rfl (by kernel_rfl) (by kernel_rfl) (by kernel_rfl) (fun _ _ _ h => h) (.inl ⟨by kernel_rfl, fun _ _ => by kernel_rfl⟩) t3 (by kernel_rfl) ?_
        refine takeH (i := 6) (v := .int .i64 kb) ⟨#[.agg (Rs.cells r), .int .i64 n, .pointer (some ⟨w.heap.size, 0, none⟩), undef, .bool false, .int .u8 0, .pointer (some ⟨m1, 0, none⟩), .pointer (some ⟨m2, 0, none⟩), u8, .int .i64 29781, .pointer (some ⟨nb, 0, none⟩), undef, undef, undef, undef, undef, u16, u17, u18, u19, u20, u21, u22, u23, u24, u25, u26, u27, u28, u29, u30, u31, u32, u33, u34, .int .u8 0, .bool false, .bool false, .pointer (some ⟨m2, 3, none⟩), .bool false, .bool false, .bool false, .agg (Rs.cells a), .bool false, .bool false, .agg (Rs.cells s), .int .i64 29781, .int .i64 29781, .bool true, .bool true, .int .i64 29781, .bool false, .bool false, .tuple #[.agg (Rs.cells b), .int .i64 kb], .agg (Rs.cells x), .int .i64 n, .int .i64 nb_, .tuple #[.agg (Rs.cells b), .int .i64 kb], .agg (Rs.cells b), .int .i64 kb, u60, u61, u62, u63, u64, u65, u66, u67, u68, u69, u70, u71, u72, u73, u74, u75, u76, u77, u78, u79, u80, u81, u82, u83, u84, u85, u86, u87, u88, u89, u90, u91], []⟩ rfl (by kernel_rfl) (by kernel_rfl) (by kernel_rfl) (fun _ _ _ h => h) (.inl ⟨by kernel_rfl, fun _ _ => by kernel_rfl⟩) t3 (by kernel_rfl) ?_
        refine wpAnyH_all (rs := [8]) (by kernel_rfl) (by simp) ?_
        intro i hi
        obtain rfl : i = 8 := by simpa using hi
        clear hi
        refine store_at t3 be hnb hle rfl (by kernel_rfl) (.tmp 10) (.tmp 58) rfl b (by kernel_rfl) (by kernel_rfl) ?_
        intro V9 t9
        refine ⟨t9.sub (fun p hp => List.mem_cons_of_mem _ hp), ?_⟩
        refine takeH (i := 9) (v := .int .i64 kb) ⟨#[.agg (Rs.cells r), .int .i64 n, .pointer (some ⟨w.heap.size, 0, none⟩), undef, .bool false, .int .u8 0, .pointer (some ⟨m1, 0, none⟩), .pointer (some ⟨m2, 0, none⟩), u8, .int .i64 29781, .pointer (some ⟨nb, 0, none⟩), .int .i64 kb, undef, undef, undef, undef, u16, u17, u18, u19, u20, u21, u22, u23, u24, u25, u26, u27, u28, u29, u30, u31, u32, u33, u34, .int .u8 0, .bool false, .bool false, .pointer (some ⟨m2, 3, none⟩), .bool false, .bool false, .bool false, .agg (Rs.cells a), .bool false, .bool false, .agg (Rs.cells s), .int .i64 29781, .int .i64 29781, .bool true, .bool true, .int .i64 29781, .bool false, .bool false, .tuple #[.agg (Rs.cells b), .int .i64 kb], .agg (Rs.cells x), .int .i64 n, .int .i64 nb_, .tuple #[.agg (Rs.cells b), .int .i64 kb], .agg (Rs.cells b), .int .i64 kb, u60, u61, u62, u63, u64, u65, u66, u67, u68, u69, u70, u71, u72, u73, u74, u75, u76, u77, u78, u79, u80, u81, u82, u83, u84, u85, u86, u87, u88, u89, u90, u91], []⟩ rfl (by kernel_rfl) (by kernel_rfl) (by kernel_rfl) (fun _ _ _ h => h) (.inl ⟨by kernel_rfl, fun _ _ => by kernel_rfl⟩) (t9.sub (fun p hp => List.mem_cons_of_mem _ hp)) (by kernel_rfl) ?_
        refine wpAnyH_done (by kernel_rfl) ?_ _
        try dsimp only
        go_wp2
        go_meet
        exact ⟨nb, rfl, hle, t9⟩
    case rest =>
      obtain ⟨m3, rfl, hl3, s0'⟩ := hcut
      clear s0
      have s0 := s0'
      clear s0'
      go_upto_region 13 with (first
        | (refine wpList_load_blk rfl 23 _ rfl m3 rfl (Rs.cells b) _ (s0.blk m3 b (by simp)) Try.underlying23 rfl (infoR' _) ?_)
        | (go_at_call 9; refine (lb.out _).mono ?_; rintro e Wx ⟨rfl, hbx⟩; replace s0 := s0.on hbx; clear hbx))
      go_upto_region 14 with (first
        | (refine wpList_load_blk rfl 23 _ rfl m3 rfl (Rs.cells b) _ (s0.blk m3 b (by simp)) Try.underlying23 rfl (infoR' _) ?_)
        | (go_at_call 12; refine (ST2.out _).mono ?_; rintro e Wx ⟨rfl, hbx⟩; replace s0 := s0.on hbx; clear hbx)
        | (refine wpList_store_blk rfl 23 _ _ rfl Wx.heap.size zeroR.cells (Rs.cells c) 23 rfl rfl (Blk.new Wx _ _) rfl (infoR' _) (Rs.cells_one _) w.heap.size w s0.2.size (s0.2.alloc s0.2.size _) ?_; intro Wy by1 hby hoy; have h34 : m3 < Wx.heap.size := (s0.blk m3 b (by simp)).lt; replace s0 := St.more s0 by1 hby hoy; clear by1 hby hoy))
      generalize Wx.heap.size = m4 at *
      go_upto_region 15 with (first
        | (refine wpList_load_blk rfl 23 _ rfl m4 rfl (Rs.cells c) _ (s0.blk m4 c (by simp)) Try.underlying23 rfl (infoR' _) ?_)
        | (go_at_call 12; refine (ST3.out _).mono ?_; rintro e Wx ⟨rfl, hbx⟩; replace s0 := s0.on hbx; clear hbx)
        | (refine wpList_store_blk rfl 23 _ _ rfl Wx.heap.size zeroR.cells (Rs.cells c) 23 rfl rfl (Blk.new Wx _ _) rfl (infoR' _) (Rs.cells_one _) w.heap.size w s0.2.size (s0.2.alloc s0.2.size _) ?_; intro Wy by1 hby hoy; replace s0 := St.more s0 by1 hby hoy; clear by1 hby hoy))
      generalize Wx.heap.size = m5 at *
      refine wp_region_lit ?_
      refine pl_val (v := .int .u8 128) (by kernel_rfl) (by kernel_rfl) ⟨#[.agg (Rs.cells r), .int .i64 n, .pointer (some ⟨w.heap.size, 0, none⟩), undef, .bool false, .int .u8 0, .pointer (some ⟨m1, 0, none⟩), .pointer (some ⟨m2, 0, none⟩), u8, .int .i64 29781, .pointer (some ⟨m3, 0, none⟩), u11, .int .u8 128, .pointer (some ⟨m4, 0, none⟩), .int .u8 0, .pointer (some ⟨m5, 0, none⟩), u16, u17, u18, u19, u20, u21, u22, u23, u24, u25, u26, u27, u28, u29, u30, u31, u32, u33, u34, u35, u36, u37, u38, u39, u40, u41, u42, u43, u44, u45, u46, u47, u48, u49, u50, u51, u52, u53, u54, u55, u56, u57, u58, u59, .agg (Rs.cells b), .bool true, .bool false, .tuple #[.int .u8 128, .agg (Rs.cells c)], .agg (Rs.cells b), .tuple #[.int .u8 128, .agg (Rs.cells c)], .int .u8 128, .agg (Rs.cells c), .tuple #[.int .u8 0, .agg (Rs.cells c)], .agg (Rs.cells c), .tuple #[.int .u8 0, .agg (Rs.cells c)], .int .u8 0, .agg (Rs.cells c), .int .u8 128, u74, u75, u76, u77, u78, u79, u80, u81, u82, u83, u84, u85, u86, u87, u88, u89, u90, u91], []⟩ (by kernel_rfl) ?_
      refine pl_val (v := .bool false) (by kernel_rfl) (by kernel_rfl) ⟨#[.agg (Rs.cells r), .int .i64 n, .pointer (some ⟨w.heap.size, 0, none⟩), undef, .bool false, .int .u8 0, .pointer (some ⟨m1, 0, none⟩), .pointer (some ⟨m2, 0, none⟩), u8, .int .i64 29781, .pointer (some ⟨m3, 0, none⟩), u11, .int .u8 128, .pointer (some ⟨m4, 0, none⟩), .int .u8 0, .pointer (some ⟨m5, 0, none⟩), u16, u17, u18, u19, u20, u21, u22, u23, u24, u25, u26, u27, u28, u29, u30, u31, u32, u33, u34, u35, u36, u37, u38, u39, u40, u41, u42, u43, u44, u45, u46, u47, u48, u49, u50, u51, u52, u53, u54, u55, u56, u57, u58, u59, .agg (Rs.cells b), .bool true, .bool false, .tuple #[.int .u8 128, .agg (Rs.cells c)], .agg (Rs.cells b), .tuple #[.int .u8 128, .agg (Rs.cells c)], .int .u8 128, .agg (Rs.cells c), .tuple #[.int .u8 0, .agg (Rs.cells c)], .agg (Rs.cells c), .tuple #[.int .u8 0, .agg (Rs.cells c)], .int .u8 0, .agg (Rs.cells c), .int .u8 128, .bool false, u75, u76, u77, u78, u79, u80, u81, u82, u83, u84, u85, u86, u87, u88, u89, u90, u91], []⟩ (by kernel_rfl) ?_
      refine pl_val (v := .bool false) (by kernel_rfl) (by kernel_rfl) ⟨#[.agg (Rs.cells r), .int .i64 n, .pointer (some ⟨w.heap.size, 0, none⟩), undef, .bool false, .int .u8 0, .pointer (some ⟨m1, 0, none⟩), .pointer (some ⟨m2, 0, none⟩), u8, .int .i64 29781, .pointer (some ⟨m3, 0, none⟩), u11, .int .u8 128, .pointer (some ⟨m4, 0, none⟩), .int .u8 0, .pointer (some ⟨m5, 0, none⟩), u16, u17, u18, u19, u20, u21, u22, u23, u24, u25, u26, u27, u28, u29, u30, u31, u32, u33, u34, u35, u36, u37, u38, u39, u40, u41, u42, u43, u44, u45, u46, u47, u48, u49, u50, u51, u52, u53, u54, u55, u56, u57, u58, u59, .agg (Rs.cells b), .bool true, .bool false, .tuple #[.int .u8 128, .agg (Rs.cells c)], .agg (Rs.cells b), .tuple #[.int .u8 128, .agg (Rs.cells c)], .int .u8 128, .agg (Rs.cells c), .tuple #[.int .u8 0, .agg (Rs.cells c)], .agg (Rs.cells c), .tuple #[.int .u8 0, .agg (Rs.cells c)], .int .u8 0, .agg (Rs.cells c), .int .u8 128, .bool false, .bool false, u76, u77, u78, u79, u80, u81, u82, u83, u84, u85, u86, u87, u88, u89, u90, u91], []⟩ (by kernel_rfl) ?_
      refine pl_val (v := .int .u8 0) (by kernel_rfl) (by kernel_rfl) ⟨#[.agg (Rs.cells r), .int .i64 n, .pointer (some ⟨w.heap.size, 0, none⟩), undef, .bool false, .int .u8 0, .pointer (some ⟨m1, 0, none⟩), .pointer (some ⟨m2, 0, none⟩), u8, .int .i64 29781, .pointer (some ⟨m3, 0, none⟩), u11, .int .u8 128, .pointer (some ⟨m4, 0, none⟩), .int .u8 0, .pointer (some ⟨m5, 0, none⟩), u16, u17, u18, u19, u20, u21, u22, u23, u24, u25, u26, u27, u28, u29, u30, u31, u32, u33, u34, u35, u36, u37, u38, u39, u40, u41, u42, u43, u44, u45, u46, u47, u48, u49, u50, u51, u52, u53, u54, u55, u56, u57, u58, u59, .agg (Rs.cells b), .bool true, .bool false, .tuple #[.int .u8 128, .agg (Rs.cells c)], .agg (Rs.cells b), .tuple #[.int .u8 128, .agg (Rs.cells c)], .int .u8 128, .agg (Rs.cells c), .tuple #[.int .u8 0, .agg (Rs.cells c)], .agg (Rs.cells c), .tuple #[.int .u8 0, .agg (Rs.cells c)], .int .u8 0, .agg (Rs.cells c), .int .u8 128, .bool false, .bool false, .int .u8 0, u77, u78, u79, u80, u81, u82, u83, u84, u85, u86, u87, u88, u89, u90, u91], []⟩ (by kernel_rfl) ?_
      refine pl_val (v := .bool false) (by kernel_rfl) (by kernel_rfl) ⟨#[.agg (Rs.cells r), .int .i64 n, .pointer (some ⟨w.heap.size, 0, none⟩), undef, .bool false, .int .u8 0, .pointer (some ⟨m1, 0, none⟩), .pointer (some ⟨m2, 0, none⟩), u8, .int .i64 29781, .pointer (some ⟨m3, 0, none⟩), u11, .int .u8 128, .pointer (some ⟨m4, 0, none⟩), .int .u8 0, .pointer (some ⟨m5, 0, none⟩), u16, u17, u18, u19, u20, u21, u22, u23, u24, u25, u26, u27, u28, u29, u30, u31, u32, u33, u34, u35, u36, u37, u38, u39, u40, u41, u42, u43, u44, u45, u46, u47, u48, u49, u50, u51, u52, u53, u54, u55, u56, u57, u58, u59, .agg (Rs.cells b), .bool true, .bool false, .tuple #[.int .u8 128, .agg (Rs.cells c)], .agg (Rs.cells b), .tuple #[.int .u8 128, .agg (Rs.cells c)], .int .u8 128, .agg (Rs.cells c), .tuple #[.int .u8 0, .agg (Rs.cells c)], .agg (Rs.cells c), .tuple #[.int .u8 0, .agg (Rs.cells c)], .int .u8 0, .agg (Rs.cells c), .int .u8 128, .bool false, .bool false, .int .u8 0, .bool false, u78, u79, u80, u81, u82, u83, u84, u85, u86, u87, u88, u89, u90, u91], []⟩ (by kernel_rfl) ?_
      refine pl_val (v := .bool false) (by kernel_rfl) (by kernel_rfl) ⟨#[.agg (Rs.cells r), .int .i64 n, .pointer (some ⟨w.heap.size, 0, none⟩), undef, .bool false, .int .u8 0, .pointer (some ⟨m1, 0, none⟩), .pointer (some ⟨m2, 0, none⟩), u8, .int .i64 29781, .pointer (some ⟨m3, 0, none⟩), u11, .int .u8 128, .pointer (some ⟨m4, 0, none⟩), .int .u8 0, .pointer (some ⟨m5, 0, none⟩), u16, u17, u18, u19, u20, u21, u22, u23, u24, u25, u26, u27, u28, u29, u30, u31, u32, u33, u34, u35, u36, u37, u38, u39, u40, u41, u42, u43, u44, u45, u46, u47, u48, u49, u50, u51, u52, u53, u54, u55, u56, u57, u58, u59, .agg (Rs.cells b), .bool true, .bool false, .tuple #[.int .u8 128, .agg (Rs.cells c)], .agg (Rs.cells b), .tuple #[.int .u8 128, .agg (Rs.cells c)], .int .u8 128, .agg (Rs.cells c), .tuple #[.int .u8 0, .agg (Rs.cells c)], .agg (Rs.cells c), .tuple #[.int .u8 0, .agg (Rs.cells c)], .int .u8 0, .agg (Rs.cells c), .int .u8 128, .bool false, .bool false, .int .u8 0, .bool false, .bool false, u79, u80, u81, u82, u83, u84, u85, u86, u87, u88, u89, u90, u91], []⟩ (by kernel_rfl) ?_
      refine pl_val (v := .bool false) (by kernel_rfl) (by kernel_rfl) ⟨#[.agg (Rs.cells r), .int .i64 n, .pointer (some ⟨w.heap.size, 0, none⟩), undef, .bool false, .int .u8 0, .pointer (some ⟨m1, 0, none⟩), .pointer (some ⟨m2, 0, none⟩), u8, .int .i64 29781, .pointer (some ⟨m3, 0, none⟩), u11, .int .u8 128, .pointer (some ⟨m4, 0, none⟩), .int .u8 0, .pointer (some ⟨m5, 0, none⟩), u16, u17, u18, u19, u20, u21, u22, u23, u24, u25, u26, u27, u28, u29, u30, u31, u32, u33, u34, u35, u36, u37, u38, u39, u40, u41, u42, u43, u44, u45, u46, u47, u48, u49, u50, u51, u52, u53, u54, u55, u56, u57, u58, u59, .agg (Rs.cells b), .bool true, .bool false, .tuple #[.int .u8 128, .agg (Rs.cells c)], .agg (Rs.cells b), .tuple #[.int .u8 128, .agg (Rs.cells c)], .int .u8 128, .agg (Rs.cells c), .tuple #[.int .u8 0, .agg (Rs.cells c)], .agg (Rs.cells c), .tuple #[.int .u8 0, .agg (Rs.cells c)], .int .u8 0, .agg (Rs.cells c), .int .u8 128, .bool false, .bool false, .int .u8 0, .bool false, .bool false, .bool false, u80, u81, u82, u83, u84, u85, u86, u87, u88, u89, u90, u91], []⟩ (by kernel_rfl) ?_
      refine pl_load (by kernel_rfl) (.tmp 13) rfl m4 (by kernel_rfl) c (s0.blk m4 c (by simp)) ⟨#[.agg (Rs.cells r), .int .i64 n, .pointer (some ⟨w.heap.size, 0, none⟩), undef, .bool false, .int .u8 0, .pointer (some ⟨m1, 0, none⟩), .pointer (some ⟨m2, 0, none⟩), u8, .int .i64 29781, .pointer (some ⟨m3, 0, none⟩), u11, .int .u8 128, .pointer (some ⟨m4, 0, none⟩), .int .u8 0, .pointer (some ⟨m5, 0, none⟩), u16, u17, u18, u19, u20, u21, u22, u23, u24, u25, u26, u27, u28, u29, u30, u31, u32, u33, u34, u35, u36, u37, u38, u39, u40, u41, u42, u43, u44, u45, u46, u47, u48, u49, u50, u51, u52, u53, u54, u55, u56, u57, u58, u59, .agg (Rs.cells b), .bool true, .bool false, .tuple #[.int .u8 128, .agg (Rs.cells c)], .agg (Rs.cells b), .tuple #[.int .u8 128, .agg (Rs.cells c)], .int .u8 128, .agg (Rs.cells c), .tuple #[.int .u8 0, .agg (Rs.cells c)], .agg (Rs.cells c), .tuple #[.int .u8 0, .agg (Rs.cells c)], .int .u8 0, .agg (Rs.cells c), .int .u8 128, .bool false, .bool false, .int .u8 0, .bool false, .bool false, .bool false, .agg (Rs.cells c), u81, u82, u83, u84, u85, u86, u87, u88, u89, u90, u91], []⟩ (by kernel_rfl) ?_
      refine pl_call (f := 9) (v := .bool false) (by kernel_rfl) (by kernel_rfl) (lc.out _) ⟨#[.agg (Rs.cells r), .int .i64 n, .pointer (some ⟨w.heap.size, 0, none⟩), undef, .bool false, .int .u8 0, .pointer (some ⟨m1, 0, none⟩), .pointer (some ⟨m2, 0, none⟩), u8, .int .i64 29781, .pointer (some ⟨m3, 0, none⟩), u11, .int .u8 128, .pointer (some ⟨m4, 0, none⟩), .int .u8 0, .pointer (some ⟨m5, 0, none⟩), u16, u17, u18, u19, u20, u21, u22, u23, u24, u25, u26, u27, u28, u29, u30, u31, u32, u33, u34, u35, u36, u37, u38, u39, u40, u41, u42, u43, u44, u45, u46, u47, u48, u49, u50, u51, u52, u53, u54, u55, u56, u57, u58, u59, .agg (Rs.cells b), .bool true, .bool false, .tuple #[.int .u8 128, .agg (Rs.cells c)], .agg (Rs.cells b), .tuple #[.int .u8 128, .agg (Rs.cells c)], .int .u8 128, .agg (Rs.cells c), .tuple #[.int .u8 0, .agg (Rs.cells c)], .agg (Rs.cells c), .tuple #[.int .u8 0, .agg (Rs.cells c)], .int .u8 0, .agg (Rs.cells c), .int .u8 128, .bool false, .bool false, .int .u8 0, .bool false, .bool false, .bool false, .agg (Rs.cells c), .bool false, u82, u83, u84, u85, u86, u87, u88, u89, u90, u91], []⟩ (by kernel_rfl) ?_
      intro Wx hbx
      replace s0 := s0.on hbx
      clear hbx
      refine pl_val (v := .bool false) (by kernel_rfl) (by kernel_rfl) ⟨#[.agg (Rs.cells r), .int .i64 n, .pointer (some ⟨w.heap.size, 0, none⟩), undef, .bool false, .int .u8 0, .pointer (some ⟨m1, 0, none⟩), .pointer (some ⟨m2, 0, none⟩), u8, .int .i64 29781, .pointer (some ⟨m3, 0, none⟩), u11, .int .u8 128, .pointer (some ⟨m4, 0, none⟩), .int .u8 0, .pointer (some ⟨m5, 0, none⟩), u16, u17, u18, u19, u20, u21, u22, u23, u24, u25, u26, u27, u28, u29, u30, u31, u32, u33, u34, u35, u36, u37, u38, u39, u40, u41, u42, u43, u44, u45, u46, u47, u48, u49, u50, u51, u52, u53, u54, u55, u56, u57, u58, u59, .agg (Rs.cells b), .bool true, .bool false, .tuple #[.int .u8 128, .agg (Rs.cells c)], .agg (Rs.cells b), .tuple #[.int .u8 128, .agg (Rs.cells c)], .int .u8 128, .agg (Rs.cells c), .tuple #[.int .u8 0, .agg (Rs.cells c)], .agg (Rs.cells c), .tuple #[.int .u8 0, .agg (Rs.cells c)], .int .u8 0, .agg (Rs.cells c), .int .u8 128, .bool false, .bool false, .int .u8 0, .bool false, .bool false, .bool false, .agg (Rs.cells c), .bool false, .bool false, u83, u84, u85, u86, u87, u88, u89, u90, u91], []⟩ (by kernel_rfl) ?_
      refine pl_val (v := .bool false) (by kernel_rfl) (by kernel_rfl) ⟨#[.agg (Rs.cells r), .int .i64 n, .pointer (some ⟨w.heap.size, 0, none⟩), undef, .bool false, .int .u8 0, .pointer (some ⟨m1, 0, none⟩), .pointer (some ⟨m2, 0, none⟩), u8, .int .i64 29781, .pointer (some ⟨m3, 0, none⟩), u11, .int .u8 128, .pointer (some ⟨m4, 0, none⟩), .int .u8 0, .pointer (some ⟨m5, 0, none⟩), u16, u17, u18, u19, u20, u21, u22, u23, u24, u25, u26, u27, u28, u29, u30, u31, u32, u33, u34, u35, u36, u37, u38, u39, u40, u41, u42, u43, u44, u45, u46, u47, u48, u49, u50, u51, u52, u53, u54, u55, u56, u57, u58, u59, .agg (Rs.cells b), .bool true, .bool false, .tuple #[.int .u8 128, .agg (Rs.cells c)], .agg (Rs.cells b), .tuple #[.int .u8 128, .agg (Rs.cells c)], .int .u8 128, .agg (Rs.cells c), .tuple #[.int .u8 0, .agg (Rs.cells c)], .agg (Rs.cells c), .tuple #[.int .u8 0, .agg (Rs.cells c)], .int .u8 0, .agg (Rs.cells c), .int .u8 128, .bool false, .bool false, .int .u8 0, .bool false, .bool false, .bool false, .agg (Rs.cells c), .bool false, .bool false, .bool false, u84, u85, u86, u87, u88, u89, u90, u91], []⟩ (by kernel_rfl) ?_
      refine pl_load (by kernel_rfl) (.tmp 13) rfl m4 (by kernel_rfl) c (s0.blk m4 c (by simp)) ⟨#[.agg (Rs.cells r), .int .i64 n, .pointer (some ⟨w.heap.size, 0, none⟩), undef, .bool false, .int .u8 0, .pointer (some ⟨m1, 0, none⟩), .pointer (some ⟨m2, 0, none⟩), u8, .int .i64 29781, .pointer (some ⟨m3, 0, none⟩), u11, .int .u8 128, .pointer (some ⟨m4, 0, none⟩), .int .u8 0, .pointer (some ⟨m5, 0, none⟩), u16, u17, u18, u19, u20, u21, u22, u23, u24, u25, u26, u27, u28, u29, u30, u31, u32, u33, u34, u35, u36, u37, u38, u39, u40, u41, u42, u43, u44, u45, u46, u47, u48, u49, u50, u51, u52, u53, u54, u55, u56, u57, u58, u59, .agg (Rs.cells b), .bool true, .bool false, .tuple #[.int .u8 128, .agg (Rs.cells c)], .agg (Rs.cells b), .tuple #[.int .u8 128, .agg (Rs.cells c)], .int .u8 128, .agg (Rs.cells c), .tuple #[.int .u8 0, .agg (Rs.cells c)], .agg (Rs.cells c), .tuple #[.int .u8 0, .agg (Rs.cells c)], .int .u8 0, .agg (Rs.cells c), .int .u8 128, .bool false, .bool false, .int .u8 0, .bool false, .bool false, .bool false, .agg (Rs.cells c), .bool false, .bool false, .bool false, .agg (Rs.cells c), u85, u86, u87, u88, u89, u90, u91], []⟩ (by kernel_rfl) ?_
      refine pl_load (by kernel_rfl) (.tmp 15) rfl m5 (by kernel_rfl) c (s0.blk m5 c (by simp)) ⟨#[.agg (Rs.cells r), .int .i64 n, .pointer (some ⟨w.heap.size, 0, none⟩), undef, .bool false, .int .u8 0, .pointer (some ⟨m1, 0, none⟩), .pointer (some ⟨m2, 0, none⟩), u8, .int .i64 29781, .pointer (some ⟨m3, 0, none⟩), u11, .int .u8 128, .pointer (some ⟨m4, 0, none⟩), .int .u8 0, .pointer (some ⟨m5, 0, none⟩), u16, u17, u18, u19, u20, u21, u22, u23, u24, u25, u26, u27, u28, u29, u30, u31, u32, u33, u34, u35, u36, u37, u38, u39, u40, u41, u42, u43, u44, u45, u46, u47, u48, u49, u50, u51, u52, u53, u54, u55, u56, u57, u58, u59, .agg (Rs.cells b), .bool true, .bool false, .tuple #[.int .u8 128, .agg (Rs.cells c)], .agg (Rs.cells b), .tuple #[.int .u8 128, .agg (Rs.cells c)], .int .u8 128, .agg (Rs.cells c), .tuple #[.int .u8 0, .agg (Rs.cells c)], .agg (Rs.cells c), .tuple #[.int .u8 0, .agg (Rs.cells c)], .int .u8 0, .agg (Rs.cells c), .int .u8 128, .bool false, .bool false, .int .u8 0, .bool false, .bool false, .bool false, .agg (Rs.cells c), .bool false, .bool false, .bool false, .agg (Rs.cells c), .agg (Rs.cells c), u86, u87, u88, u89, u90, u91], []⟩ (by kernel_rfl) ?_
      refine pl_val (v := .bool false) (by kernel_rfl) (exec_bin rfl (by kernel_rfl) (by kernel_rfl) (neq_yes _ (rfl : c = c))) ⟨#[.agg (Rs.cells r), .int .i64 n, .pointer (some ⟨w.heap.size, 0, none⟩), undef, .bool false, .int .u8 0, .pointer (some ⟨m1, 0, none⟩), .pointer (some ⟨m2, 0, none⟩), u8, .int .i64 29781, .pointer (some ⟨m3, 0, none⟩), u11, .int .u8 128, .pointer (some ⟨m4, 0, none⟩), .int .u8 0, .pointer (some ⟨m5, 0, none⟩), u16, u17, u18, u19, u20, u21, u22, u23, u24, u25, u26, u27, u28, u29, u30, u31, u32, u33, u34, u35, u36, u37, u38, u39, u40, u41, u42, u43, u44, u45, u46, u47, u48, u49, u50, u51, u52, u53, u54, u55, u56, u57, u58, u59, .agg (Rs.cells b), .bool true, .bool false, .tuple #[.int .u8 128, .agg (Rs.cells c)], .agg (Rs.cells b), .tuple #[.int .u8 128, .agg (Rs.cells c)], .int .u8 128, .agg (Rs.cells c), .tuple #[.int .u8 0, .agg (Rs.cells c)], .agg (Rs.cells c), .tuple #[.int .u8 0, .agg (Rs.cells c)], .int .u8 0, .agg (Rs.cells c), .int .u8 128, .bool false, .bool false, .int .u8 0, .bool false, .bool false, .bool false, .agg (Rs.cells c), .bool false, .bool false, .bool false, .agg (Rs.cells c), .agg (Rs.cells c), .bool false, u87, u88, u89, u90, u91], []⟩ (by kernel_rfl) ?_
      refine pl_val (v := .bool false) (by kernel_rfl) (by kernel_rfl) ⟨#[.agg (Rs.cells r), .int .i64 n, .pointer (some ⟨w.heap.size, 0, none⟩), undef, .bool false, .int .u8 0, .pointer (some ⟨m1, 0, none⟩), .pointer (some ⟨m2, 0, none⟩), u8, .int .i64 29781, .pointer (some ⟨m3, 0, none⟩), u11, .int .u8 128, .pointer (some ⟨m4, 0, none⟩), .int .u8 0, .pointer (some ⟨m5, 0, none⟩), u16, u17, u18, u19, u20, u21, u22, u23, u24, u25, u26, u27, u28, u29, u30, u31, u32, u33, u34, u35, u36, u37, u38, u39, u40, u41, u42, u43, u44, u45, u46, u47, u48, u49, u50, u51, u52, u53, u54, u55, u56, u57, u58, u59, .agg (Rs.cells b), .bool true, .bool false, .tuple #[.int .u8 128, .agg (Rs.cells c)], .agg (Rs.cells b), .tuple #[.int .u8 128, .agg (Rs.cells c)], .int .u8 128, .agg (Rs.cells c), .tuple #[.int .u8 0, .agg (Rs.cells c)], .agg (Rs.cells c), .tuple #[.int .u8 0, .agg (Rs.cells c)], .int .u8 0, .agg (Rs.cells c), .int .u8 128, .bool false, .bool false, .int .u8 0, .bool false, .bool false, .bool false, .agg (Rs.cells c), .bool false, .bool false, .bool false, .agg (Rs.cells c), .agg (Rs.cells c), .bool false, .bool false, u88, u89, u90, u91], []⟩ (by kernel_rfl) ?_
      refine pl_end rfl ?_
      dsimp only
      go_upto_region 17 with (first
        | fail)
      have f0 : _ = some (Value.int .i64 (b).line) := (s0.blk m3 b (by simp)).cell 0
      have f1 : _ = some (Value.int .i64 (b).dot) := (s0.blk m3 b (by simp)).cell 1
      have f2 : _ = some (Value.bool (b).odd) := (s0.blk m3 b (by simp)).cell 2
      have f3 : _ = some (Value.bool (b).vbl) := (s0.blk m3 b (by simp)).cell 3
      have f4 : _ = some (Value.bool (b).nmi) := (s0.blk m3 b (by simp)).cell 4
      have f5 : _ = some (Value.bool (b).draw) := (s0.blk m3 b (by simp)).cell 5
      have f6 : _ = some (Value.bool (b).hold) := (s0.blk m3 b (by simp)).cell 6
      have ff := (s0.blk m3 b (by simp)).free
      replace s0 : St w [(m3, b), (m4, c)] _ := St.sub s0 (by simp)
      have sH : Hid (St _ _ _) := s0
      clear s0
      go_upto_region 18 with fail
      have s0 := sH.out.fld (d := { b with vbl := false }) (by simp; omega) hl3 3 (.bool false) rfl
      clear sH f0 f1 f2 f3 f4 f5 f6 ff
      rw [← hcH.out] at s0
      generalize World.setCell _ _ _ = Wz at *
      have q_c : ∀ W, (binOp .eql 23 (.agg (Rs.cells c)) (.agg (Rs.cells c))).run Try.prog W = .ok (.bool true) W := fun W => eql_yes W rfl
      go_wp2_with (first
        | (refine wpList_load_blk rfl 23 _ rfl m4 rfl (Rs.cells c) _ (s0.blk m4 c (by simp)) Try.underlying23 rfl (infoR' _) ?_)
        | (refine wpList_load_blk rfl 23 _ rfl m3 rfl (Rs.cells c) _ (s0.blk m3 c (by simp)) Try.underlying23 rfl (infoR' _) ?_))
      go_ret
      exact ⟨rfl, s0.2⟩
end Go.Proofs.Ytlnpcbofebppcab
