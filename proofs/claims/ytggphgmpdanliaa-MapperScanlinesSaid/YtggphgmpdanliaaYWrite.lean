/-
  What Write does to every board.
-/
import Derived.Test.YtggphgmpdanliaaYLook
import Derived.Test.YtggphgmpdanliaaYWr
set_option linter.unusedSimpArgs false
set_option linter.unusedVariables false
namespace Go.Proofs.Ytggphgmpdanliaa
open Go.RowKit Classical
/-- What lies in memory while a write goes on. -/
structure WSt (w : World) (m vb : Nat) (km : Array Value) (t : TypeId) (b : Bd) (v : World) : Prop where
  vw : Blk v vb (viewC b) 73
  kd : Blk v m km t
  rs : Blk v (w.heap.size + 1) Z31 28
  bel : Below w.heap.size w v
theorem WSt.on {w v v' : World} {m vb : Nat} {km : Array Value} {t : TypeId} {b : Bd} (h : WSt w m vb km t b v) (hb : Below v.heap.size v v') : WSt w m vb km t b v' :=
  ⟨h.vw.below h.vw.lt hb, h.kd.below h.kd.lt hb, h.rs.below h.rs.lt hb, h.bel.trans (hb.mono h.bel.size)⟩
theorem WSt.drew {w v : World} {m vb : Nat} {km : Array Value} {t : TypeId} {b : Bd} (h : WSt w m vb km t b v) : WSt w m vb km t b v.drew := ⟨h.vw, h.kd, h.rs, h.bel.drew⟩
theorem WSt.only {w v v' : World} {m vb : Nat} {km km' : Array Value} {t : TypeId} {b : Bd} (h : WSt w m vb km t b v) (ho : Only m v v') (hk : Blk v' m km' t) (hmv : m ≠ vb) (hmr : w.heap.size + 1 < m) : WSt w m vb km' t b v' :=
  ⟨ho.other _ _ _ (Ne.symm hmv) h.vw, hk, ho.other _ _ _ (Nat.ne_of_lt hmr) h.rs, h.bel.trans (ho.below.mono (by omega))⟩
set_option maxRecDepth 100000 in
set_option maxHeartbeats 1000000 in
theorem write_in (w : World) (b : Bd) (a v u c : Int) (a0 : 32768 ≤ a) (a1 : a ≤ 65535) (v0 : 0 ≤ v) (v1 : v ≤ 255) (u0 : 0 ≤ u) (u1 : u ≤ 255) (c0 : 0 ≤ c) (c1 : c ≤ 9223372036854775807) (o : b.Ok) :
    Calls Try.prog 17 #[.agg b.cells, .int .u16 a, .int .u8 v, .int .u8 u, .int .i64 c] w fun e w' => e = .returned (.agg (wrB b a v u c).cells) ∧ Below w.heap.size w w' := by
  obtain ⟨T, t, kc, fB, fC, fM, fW, fR, kn⟩ := kinds o
  have hr := o.wf.rlen
  have OA := fun W => kn.opn b o rfl W
  have C := isB b hr
  generalize b.cells = cs at C OA
  have hsz := C.size
  have HS : Hid _ := hsz
  have HO : Hid _ := OA
  have KN : Hid _ := kn
  have OK : Hid _ := o
  have OD0 := wrK_ok o a v u c v0 v1 u0 u1 c0 c1
  have FX := wrK_fix b a v u c
  have LK0 : Hid _ := fun W (m : Nat) (K : Blk W m (kc b) t) => look_kn kn W b o rfl m K
  have WT : Hid _ := fun W (m : Nat) (K : Blk W m (kc b) t) => kn.wrt b o rfl W m a v u c a0 a1 v0 v1 u0 u1 c0 c1 K
  obtain ⟨d, hd⟩ : ∃ d, wrK b a v u c = d := ⟨_, rfl⟩
  rw [hd] at OD0 FX WT
  have DD : Hid _ := hd
  have OD : Hid _ := OD0
  have KD : Hid (d.kind = b.kind) := FX.1
  have EE : Hid (d.epoch = b.epoch) := FX.2.2.2.2.2.2.2
  have ED : Hid (0 ≤ d.epoch ∧ d.epoch ≤ 4611686018427387904) := ⟨OD0.e0, OD0.e1⟩
  have OE : Hid _ := OD0.ep (upB d.epoch) (upB_bd OD0.e0 OD0.e1).1 (upB_bd OD0.e0 OD0.e1).2
  have x0 : decide (a < 32768) = false := decide_eq_false (by omega)
  have x1 : decide (c < 0) = false := decide_eq_false (by omega)
  clear OA kn o OD0 FX hd
  have q1 : ∀ (w : World) (T : TypeId) (x : Value), (binOp .eql 70 (.iface T x) .nilIface).run Try.prog w = .ok (.bool false) w := fun w T x => by
    have := run_equal_held_nil (P := Try.prog) w 70 T x (by kernel_rfl)
    simp only [binOp, Sem.run_bind, this, Result.andThen_ok, Sem.run_pure]
  go_enter Try.func17, Try.ntmps17
  go_upto_region 1 with fail
  change Code.wp _ _ _ _ ((w.alloc (.cells cs 28)).alloc (.cells Z31 28))
  have b0 : Blk ((w.alloc (.cells cs 28)).alloc (.cells Z31 28)) w.heap.size cs 28 := (Blk.new w cs _).old _
  have z0 : Blk ((w.alloc (.cells cs 28)).alloc (.cells Z31 28)) (w.heap.size + 1) Z31 28 := by
    have := Blk.new (w.alloc (.cells cs 28)) Z31 28
    rwa [World.size_alloc] at this
  have hb0 : Below w.heap.size w ((w.alloc (.cells cs 28)).alloc (.cells Z31 28)) := ((Below.refl _ _).alloc (Nat.le_refl _) _).alloc (by simp) _
  generalize ((w.alloc (.cells cs 28)).alloc (.cells Z31 28)) = W0 at *
  clear C hsz
  go_wp2_with (refine wpList_load_mid rfl 28 _ rfl w.heap.size 0 rfl cs.toList _ b0.range Try.underlying28 rfl (by rw [Array.length_toList, HS.out]; exact Try.infoBoard) ?_)
  refine (HO.out W0).mono ?_
  rintro e W1 ⟨m, rfl, hm, hb1', K⟩
  have hb1 : Below w.heap.size w W1 := hb0.trans (hb1'.mono hb0.size)
  have z1 := z0.below z0.lt hb1'
  have hz := z0.lt
  have hmr : w.heap.size + 1 < m := by omega
  have LKA : Hid _ := LK0.out W1 m K
  have KH : Hid (Blk W1 m (kc b) t) := K
  have ZH : Hid (Blk W1 (w.heap.size + 1) Z31 28) := z1
  clear hb1' hb0 b0 z0 K hm HO z1 hz LK0
  go_wp2_with fail
  refine Calls.mono LKA.out ?_
  rintro e W2 ⟨rfl, hb2'⟩
  have K2 := Blk.below KH.out (Blk.lt KH.out) hb2'
  have z2 := Blk.below ZH.out (Blk.lt ZH.out) hb2'
  have hb2 : Below w.heap.size w W2 := hb1.trans (hb2'.mono hb1.size)
  have hmv : m ≠ W2.heap.size := Nat.ne_of_lt K2.lt
  have v3 : Blk (W2.alloc (.cells #[.int .i64 0, .int .i64 0, .int .i64 0, .int .i64 0, .int .i64 0] 73)) W2.heap.size #[.int .i64 0, .int .i64 0, .int .i64 0, .int .i64 0, .int .i64 0] 73 := Blk.new W2 _ _
  have hvz : w.heap.size + 1 ≠ W2.heap.size := Nat.ne_of_lt z2.lt
  have s3 : WSt w m W2.heap.size (kc b) t b ((W2.alloc (.cells #[.int .i64 0, .int .i64 0, .int .i64 0, .int .i64 0, .int .i64 0] 73)).setCells W2.heap.size 0 (viewC b).toList) := ⟨v3.setAll (viewC b) rfl, (K2.old _).otherCells hmv _ _, (z2.old _).otherCells hvz _ _, setCells_below hb2.size _ _ _ _ (hb2.alloc hb2.size _)⟩
  have WTH := fun W (h : Blk W m (kc b) t) => WT.out W m h
  have WT1 : Hid _ := WTH
  clear LKA KH ZH hb2' hb1 K2 z2 hvz WT WTH
  go_upto_region 5 with (refine wpList_store_mid rfl 73 _ _ rfl W2.heap.size 0 (viewC b) rfl rfl (by exact v3.there _ rfl) (by exact Try.infoView) (by kernel_rfl) ?_)
  clear v3 hb2
  generalize (W2.alloc (.cells #[.int .i64 0, .int .i64 0, .int .i64 0, .int .i64 0, .int .i64 0] 73)).setCells W2.heap.size 0 (viewC b).toList = W3 at *
  generalize W2.heap.size = vb at *
  have hM := fun w => KN.out.mR m w
  have hE := fun w => KN.out.eR #[.pointer (some ⟨m, 0, none⟩), .int .u16 a, .int .u8 v, .int .u8 u, .int .i64 c] w
  have CT : Hid _ := WT1.out W3 s3.kd
  have s3H : Hid (WSt _ _ _ _ _ _ _) := s3
  clear s3 WT1
  go_wp2_with fail
  refine Calls.mono CT.out ?_
  rintro e W4 ⟨rfl, ho4, K4⟩
  have s4 := WSt.only s3H.out ho4 K4 hmv hmr
  have LK : Hid _ := fun W (K : Blk W m (kc d) t) => look_kn KN.out W d OD.out KD.out m K
  clear CT s3H ho4 K4 hM hE
  go_upto_region 6 with fail
  cases hal : alikeB b d
  · have AL : Hid _ := hal
    clear hal
    replace s4 := s4.drew
    refine wp_region_held (S := WSt w m vb (kc d) t b) (by kernel_rfl) ?_
    refine takeH (i := 0) (v := .iface T (.pointer (some ⟨m, 0, none⟩))) ⟨#[.agg cs, .int .u16 a, .int .u8 v, .int .u8 u, .int .i64 c, .pointer (some ⟨w.heap.size, 0, none⟩), undef, undef, undef, undef, .pointer (some ⟨w.heap.size + 1, 0, none⟩), .iface T (.pointer (some ⟨m, 0, none⟩)), .pointer (some ⟨vb, 0, none⟩), .agg cs, .iface T (.pointer (some ⟨m, 0, none⟩)), .iface T (.pointer (some ⟨m, 0, none⟩)), .bool false, .bool false, .int .u16 a, .bool false, .bool false, .bool false, .int .i64 c, .bool false, .bool false, undef, .iface T (.pointer (some ⟨m, 0, none⟩)), .agg (viewC b), .iface T (.pointer (some ⟨m, 0, none⟩)), .int .u16 a, .int .u8 v, .int .u8 u, .int .i64 c, .tuple #[], .iface T (.pointer (some ⟨m, 0, none⟩)), undef, undef, undef, undef, undef, undef, undef], []⟩ rfl (by kernel_rfl) (by kernel_rfl) (by kernel_rfl) (fun _ _ _ h => h) (.inl ⟨by kernel_rfl, fun _ _ => by kernel_rfl⟩) s4 (by kernel_rfl) ?_
    refine takeH (i := 2) (v := .agg (viewC b).toList.toArray) ⟨#[.agg cs, .int .u16 a, .int .u8 v, .int .u8 u, .int .i64 c, .pointer (some ⟨w.heap.size, 0, none⟩), undef, undef, undef, undef, .pointer (some ⟨w.heap.size + 1, 0, none⟩), .iface T (.pointer (some ⟨m, 0, none⟩)), .pointer (some ⟨vb, 0, none⟩), .agg cs, .iface T (.pointer (some ⟨m, 0, none⟩)), .iface T (.pointer (some ⟨m, 0, none⟩)), .bool false, .bool false, .int .u16 a, .bool false, .bool false, .bool false, .int .i64 c, .bool false, .bool false, undef, .iface T (.pointer (some ⟨m, 0, none⟩)), .agg (viewC b), .iface T (.pointer (some ⟨m, 0, none⟩)), .int .u16 a, .int .u8 v, .int .u8 u, .int .i64 c, .tuple #[], .iface T (.pointer (some ⟨m, 0, none⟩)), undef, .agg (viewC b), undef, undef, undef, undef, undef], []⟩ rfl (by kernel_rfl) (by kernel_rfl) (by kernel_rfl) (fun _ _ _ h => h) (yieldsIf_load_mid (by kernel_rfl) 73 (.tmp 12) rfl vb 0 (by kernel_rfl) (viewC b).toList _ (fun v hv => Blk.range (hv.vw)) Try.underlying73 rfl (by rw [Array.length_toList]; exact Try.infoView)) s4 (by kernel_rfl) ?_
    refine wpAnyH_all (rs := [1]) (by kernel_rfl) (by simp) ?_
    intro i hi
    obtain rfl : i = 1 := by simpa using hi
    refine wpOp_contract (f := 40) rfl (by kernel_rfl) (by kernel_rfl) (LK.out _ s4.kd) ⟨#[.agg cs, .int .u16 a, .int .u8 v, .int .u8 u, .int .i64 c, .pointer (some ⟨w.heap.size, 0, none⟩), undef, undef, undef, undef, .pointer (some ⟨w.heap.size + 1, 0, none⟩), .iface T (.pointer (some ⟨m, 0, none⟩)), .pointer (some ⟨vb, 0, none⟩), .agg cs, .iface T (.pointer (some ⟨m, 0, none⟩)), .iface T (.pointer (some ⟨m, 0, none⟩)), .bool false, .bool false, .int .u16 a, .bool false, .bool false, .bool false, .int .i64 c, .bool false, .bool false, undef, .iface T (.pointer (some ⟨m, 0, none⟩)), .agg (viewC b), .iface T (.pointer (some ⟨m, 0, none⟩)), .int .u16 a, .int .u8 v, .int .u8 u, .int .i64 c, .tuple #[], .iface T (.pointer (some ⟨m, 0, none⟩)), .agg (viewC d), .agg (viewC b), undef, undef, undef, undef, undef], []⟩ (by kernel_rfl) ?_
    intro Wq1 hbq1
    have sq1 := s4.on hbq1
    clear hi hbq1
    refine ⟨sq1, ?_⟩
    refine takeH (i := 3) (v := .bool true) ⟨#[.agg cs, .int .u16 a, .int .u8 v, .int .u8 u, .int .i64 c, .pointer (some ⟨w.heap.size, 0, none⟩), undef, undef, undef, undef, .pointer (some ⟨w.heap.size + 1, 0, none⟩), .iface T (.pointer (some ⟨m, 0, none⟩)), .pointer (some ⟨vb, 0, none⟩), .agg cs, .iface T (.pointer (some ⟨m, 0, none⟩)), .iface T (.pointer (some ⟨m, 0, none⟩)), .bool false, .bool false, .int .u16 a, .bool false, .bool false, .bool false, .int .i64 c, .bool false, .bool false, undef, .iface T (.pointer (some ⟨m, 0, none⟩)), .agg (viewC b), .iface T (.pointer (some ⟨m, 0, none⟩)), .int .u16 a, .int .u8 v, .int .u8 u, .int .i64 c, .tuple #[], .iface T (.pointer (some ⟨m, 0, none⟩)), .agg (viewC d), .agg (viewC b), .bool true, undef, undef, undef, undef], []⟩ rfl (by kernel_rfl) (by kernel_rfl) (by kernel_rfl) (fun _ _ _ h => h) (.inl ⟨by kernel_rfl, fun v _ => exec_neqV (a := d) (b := b) rfl (by kernel_rfl) (by kernel_rfl) (by rw [AL.out]; rfl)⟩) sq1 (by kernel_rfl) ?_
    refine wpAnyH_done (by kernel_rfl) ?_ _
    have NX : Hid _ := KN.out.nxt d KD.out ED.out.1 ED.out.2 _ m sq1.kd
    have hN := fun w => KN.out.mE m w
    have sH : Hid (WSt _ _ _ _ _ _ _) := sq1
    clear sq1 s4 LK
    go_wp2_with fail
    refine Calls.mono NX.out ?_
    rintro e W6 ⟨rfl, ho6, K6⟩
    have s6 := WSt.only sH.out ho6 K6 hmv hmr
    have PL : Hid _ := KN.out.pln { d with epoch := upB d.epoch } OE.out KD.out W6 m s6.kd
    have s6H : Hid (WSt _ _ _ _ _ _ _) := s6
    clear s6 K6 ho6 NX sH hN
    go_wp2_with fail
    refine Calls.mono PL.out ?_
    rintro e W7 ⟨rfl, hb7⟩
    have s7 := WSt.on s6H.out hb7
    have Hs : Hid _ := (isB { d with epoch := upB d.epoch } (Bd.Wf.rlen (Bd.Ok.wf OE.out))).size
    have H1 : Hid _ := (isB { d with epoch := upB d.epoch } (Bd.Wf.rlen (Bd.Ok.wf OE.out))).one
    have z7 := s7.rs
    have b7 := s7.bel
    have EF : Hid (wrB b a v u c = { d with epoch := upB d.epoch }) := by unfold Hid wrB; rw [DD.out, AL.out, if_neg (by decide), EE.out]
    clear PL s6H hb7 s7
    generalize hL : ({ d with epoch := upB d.epoch } : Bd).cells = L at *
    have HL : Hid _ := hL
    clear hL
    go_wp2_with (refine wpList_store_mid rfl 28 _ _ rfl (w.heap.size + 1) 0 L rfl rfl (by exact z7.there _ Hs.out.symm) (by rw [Hs.out]; exact Try.infoBoard) H1.out ?_)
    exact ret_agg (m := w.heap.size + 1) (L := L) Try.results17 (by rfl) (z7.setAll L Hs.out) Try.underlying28 rfl (by rw [Hs.out]; exact Try.infoBoard) ⟨by rw [EF.out, HL.out], setCells_below (Nat.le_succ _) _ _ _ _ b7⟩
  · have AL : Hid _ := hal
    clear hal
    replace s4 := s4.drew
    refine wp_region_held (S := WSt w m vb (kc d) t b) (by kernel_rfl) ?_
    refine takeH (i := 0) (v := .iface T (.pointer (some ⟨m, 0, none⟩))) ⟨#[.agg cs, .int .u16 a, .int .u8 v, .int .u8 u, .int .i64 c, .pointer (some ⟨w.heap.size, 0, none⟩), undef, undef, undef, undef, .pointer (some ⟨w.heap.size + 1, 0, none⟩), .iface T (.pointer (some ⟨m, 0, none⟩)), .pointer (some ⟨vb, 0, none⟩), .agg cs, .iface T (.pointer (some ⟨m, 0, none⟩)), .iface T (.pointer (some ⟨m, 0, none⟩)), .bool false, .bool false, .int .u16 a, .bool false, .bool false, .bool false, .int .i64 c, .bool false, .bool false, undef, .iface T (.pointer (some ⟨m, 0, none⟩)), .agg (viewC b), .iface T (.pointer (some ⟨m, 0, none⟩)), .int .u16 a, .int .u8 v, .int .u8 u, .int .i64 c, .tuple #[], .iface T (.pointer (some ⟨m, 0, none⟩)), undef, undef, undef, undef, undef, undef, undef], []⟩ rfl (by kernel_rfl) (by kernel_rfl) (by kernel_rfl) (fun _ _ _ h => h) (.inl ⟨by kernel_rfl, fun _ _ => by kernel_rfl⟩) s4 (by kernel_rfl) ?_
    refine takeH (i := 2) (v := .agg (viewC b).toList.toArray) ⟨#[.agg cs, .int .u16 a, .int .u8 v, .int .u8 u, .int .i64 c, .pointer (some ⟨w.heap.size, 0, none⟩), undef, undef, undef, undef, .pointer (some ⟨w.heap.size + 1, 0, none⟩), .iface T (.pointer (some ⟨m, 0, none⟩)), .pointer (some ⟨vb, 0, none⟩), .agg cs, .iface T (.pointer (some ⟨m, 0, none⟩)), .iface T (.pointer (some ⟨m, 0, none⟩)), .bool false, .bool false, .int .u16 a, .bool false, .bool false, .bool false, .int .i64 c, .bool false, .bool false, undef, .iface T (.pointer (some ⟨m, 0, none⟩)), .agg (viewC b), .iface T (.pointer (some ⟨m, 0, none⟩)), .int .u16 a, .int .u8 v, .int .u8 u, .int .i64 c, .tuple #[], .iface T (.pointer (some ⟨m, 0, none⟩)), undef, .agg (viewC b), undef, undef, undef, undef, undef], []⟩ rfl (by kernel_rfl) (by kernel_rfl) (by kernel_rfl) (fun _ _ _ h => h) (yieldsIf_load_mid (by kernel_rfl) 73 (.tmp 12) rfl vb 0 (by kernel_rfl) (viewC b).toList _ (fun v hv => Blk.range (hv.vw)) Try.underlying73 rfl (by rw [Array.length_toList]; exact Try.infoView)) s4 (by kernel_rfl) ?_
    refine wpAnyH_all (rs := [1]) (by kernel_rfl) (by simp) ?_
    intro i hi
    obtain rfl : i = 1 := by simpa using hi
    refine wpOp_contract (f := 40) rfl (by kernel_rfl) (by kernel_rfl) (LK.out _ s4.kd) ⟨#[.agg cs, .int .u16 a, .int .u8 v, .int .u8 u, .int .i64 c, .pointer (some ⟨w.heap.size, 0, none⟩), undef, undef, undef, undef, .pointer (some ⟨w.heap.size + 1, 0, none⟩), .iface T (.pointer (some ⟨m, 0, none⟩)), .pointer (some ⟨vb, 0, none⟩), .agg cs, .iface T (.pointer (some ⟨m, 0, none⟩)), .iface T (.pointer (some ⟨m, 0, none⟩)), .bool false, .bool false, .int .u16 a, .bool false, .bool false, .bool false, .int .i64 c, .bool false, .bool false, undef, .iface T (.pointer (some ⟨m, 0, none⟩)), .agg (viewC b), .iface T (.pointer (some ⟨m, 0, none⟩)), .int .u16 a, .int .u8 v, .int .u8 u, .int .i64 c, .tuple #[], .iface T (.pointer (some ⟨m, 0, none⟩)), .agg (viewC d), .agg (viewC b), undef, undef, undef, undef, undef], []⟩ (by kernel_rfl) ?_
    intro Wq1 hbq1
    have sq1 := s4.on hbq1
    clear hi hbq1
    refine ⟨sq1, ?_⟩
    refine takeH (i := 3) (v := .bool false) ⟨#[.agg cs, .int .u16 a, .int .u8 v, .int .u8 u, .int .i64 c, .pointer (some ⟨w.heap.size, 0, none⟩), undef, undef, undef, undef, .pointer (some ⟨w.heap.size + 1, 0, none⟩), .iface T (.pointer (some ⟨m, 0, none⟩)), .pointer (some ⟨vb, 0, none⟩), .agg cs, .iface T (.pointer (some ⟨m, 0, none⟩)), .iface T (.pointer (some ⟨m, 0, none⟩)), .bool false, .bool false, .int .u16 a, .bool false, .bool false, .bool false, .int .i64 c, .bool false, .bool false, undef, .iface T (.pointer (some ⟨m, 0, none⟩)), .agg (viewC b), .iface T (.pointer (some ⟨m, 0, none⟩)), .int .u16 a, .int .u8 v, .int .u8 u, .int .i64 c, .tuple #[], .iface T (.pointer (some ⟨m, 0, none⟩)), .agg (viewC d), .agg (viewC b), .bool false, undef, undef, undef, undef], []⟩ rfl (by kernel_rfl) (by kernel_rfl) (by kernel_rfl) (fun _ _ _ h => h) (.inl ⟨by kernel_rfl, fun v _ => exec_neqV (a := d) (b := b) rfl (by kernel_rfl) (by kernel_rfl) (by rw [AL.out]; rfl)⟩) sq1 (by kernel_rfl) ?_
    refine wpAnyH_done (by kernel_rfl) ?_ _
    have PL : Hid _ := KN.out.pln d OD.out KD.out _ m sq1.kd
    have sH : Hid (WSt _ _ _ _ _ _ _) := sq1
    clear sq1 s4 LK
    go_wp2_with fail
    refine Calls.mono PL.out ?_
    rintro e W7 ⟨rfl, hb7⟩
    have s7 := WSt.on sH.out hb7
    have Hs : Hid _ := (isB d (Bd.Wf.rlen (Bd.Ok.wf OD.out))).size
    have H1 : Hid _ := (isB d (Bd.Wf.rlen (Bd.Ok.wf OD.out))).one
    have z7 := s7.rs
    have b7 := s7.bel
    have EF : Hid (wrB b a v u c = d) := by unfold Hid wrB; rw [DD.out, AL.out, if_pos rfl]
    clear PL sH hb7 s7
    generalize hL : d.cells = L at *
    have HL : Hid _ := hL
    clear hL
    go_wp2_with (refine wpList_store_mid rfl 28 _ _ rfl (w.heap.size + 1) 0 L rfl rfl (by exact z7.there _ Hs.out.symm) (by rw [Hs.out]; exact Try.infoBoard) H1.out ?_)
    exact ret_agg (m := w.heap.size + 1) (L := L) Try.results17 (by rfl) (z7.setAll L Hs.out) Try.underlying28 rfl (by rw [Hs.out]; exact Try.infoBoard) ⟨by rw [EF.out, HL.out], setCells_below (Nat.le_succ _) _ _ _ _ b7⟩
set_option maxRecDepth 100000 in
set_option maxHeartbeats 1000000 in
theorem write_same (w : World) (b : Bd) (a v u c : Int) (B : b.Wf) (h : validB b = false ∨ a < 32768 ∨ c < 0) :
    Calls Try.prog 17 #[.agg b.cells, .int .u16 a, .int .u8 v, .int .u8 u, .int .i64 c] w fun e w' => e = .returned (.agg b.cells) ∧ Below w.heap.size w w' := by
  have hr := B.rlen
  have OA := fun W => open_any W b hr
  have C := isB b hr
  generalize hcs : b.cells = cs at C OA
  have hsz := C.size
  have HS : Hid _ := hsz
  have H1 : Hid _ := C.one
  have HO : Hid _ := OA
  have HV : Hid _ := h
  clear OA h hcs
  have q1 : ∀ (w : World) (T : TypeId) (x : Value), (binOp .eql 70 (.iface T x) .nilIface).run Try.prog w = .ok (.bool false) w := fun w T x => by
    have := run_equal_held_nil (P := Try.prog) w 70 T x (by kernel_rfl)
    simp only [binOp, Sem.run_bind, this, Result.andThen_ok, Sem.run_pure]
  have q0 : ∀ (w : World), (binOp .eql 70 .nilIface .nilIface).run Try.prog w = .ok (.bool true) w := fun w => by
    have := run_equal_nil_nil (P := Try.prog) w 70 (by kernel_rfl)
    simp only [binOp, Sem.run_bind, this, Result.andThen_ok, Sem.run_pure]
  go_enter Try.func17, Try.ntmps17
  go_upto_region 1 with fail
  change Code.wp _ _ _ _ ((w.alloc (.cells cs 28)).alloc (.cells Z31 28))
  have b0 : Blk ((w.alloc (.cells cs 28)).alloc (.cells Z31 28)) w.heap.size cs 28 := (Blk.new w cs _).old _
  have z0 : Blk ((w.alloc (.cells cs 28)).alloc (.cells Z31 28)) (w.heap.size + 1) Z31 28 := by
    have := Blk.new (w.alloc (.cells cs 28)) Z31 28
    rwa [World.size_alloc] at this
  have hb0 : Below w.heap.size w ((w.alloc (.cells cs 28)).alloc (.cells Z31 28)) := ((Below.refl _ _).alloc (Nat.le_refl _) _).alloc (by simp) _
  generalize ((w.alloc (.cells cs 28)).alloc (.cells Z31 28)) = W0 at *
  clear C hsz
  go_wp2_with (refine wpList_load_mid rfl 28 _ rfl w.heap.size 0 rfl cs.toList _ b0.range Try.underlying28 rfl (by rw [Array.length_toList, HS.out]; exact Try.infoBoard) ?_)
  refine (HO.out W0).mono ?_
  rintro e W1 ⟨hb1', h⟩
  have hb1 : Below w.heap.size w W1 := hb0.trans (hb1'.mono hb0.size)
  have b1 := b0.below b0.lt hb1'
  have z1 := z0.below z0.lt hb1'
  clear hb1' hb0 b0 z0 HO
  have fin : ∀ (a' : Act) (r : Act → World → Prop), True := fun _ _ => trivial
  clear fin
  rcases h with ⟨E, rfl⟩ | ⟨E, T, m, rfl⟩
  · clear E HV
    go_wp2_with (first
      | (refine wpList_load_mid rfl 28 _ rfl w.heap.size 0 rfl cs.toList _ b1.range Try.underlying28 rfl (by rw [Array.length_toList, HS.out]; exact Try.infoBoard) ?_)
      | (refine wpList_store_mid rfl 28 _ _ rfl (w.heap.size + 1) 0 cs rfl rfl (by exact z1.there _ HS.out.symm) (by rw [HS.out]; exact Try.infoBoard) H1.out ?_))
    exact ret_agg (m := w.heap.size + 1) (L := cs) Try.results17 (by rfl) (z1.setAll cs HS.out) Try.underlying28 rfl (by rw [HS.out]; exact Try.infoBoard) ⟨rfl, setCells_below (Nat.le_succ _) _ _ _ _ hb1⟩
  · have hz : a < 32768 ∨ (¬ a < 32768 ∧ c < 0) := by
      rcases HV.out with hv | ha | hc
      · rw [hv] at E; cases E
      · exact .inl ha
      · by_cases ha : a < 32768
        · exact .inl ha
        · exact .inr ⟨ha, hc⟩
    clear E HV
    rcases hz with ha | ⟨ha, hc⟩
    · have x0 : decide (a < 32768) = true := decide_eq_true ha
      clear ha
      go_wp2_with (first
        | (refine wpList_load_mid rfl 28 _ rfl w.heap.size 0 rfl cs.toList _ b1.range Try.underlying28 rfl (by rw [Array.length_toList, HS.out]; exact Try.infoBoard) ?_)
        | (refine wpList_store_mid rfl 28 _ _ rfl (w.heap.size + 1) 0 cs rfl rfl (by exact z1.there _ HS.out.symm) (by rw [HS.out]; exact Try.infoBoard) H1.out ?_))
      exact ret_agg (m := w.heap.size + 1) (L := cs) Try.results17 (by rfl) (z1.setAll cs HS.out) Try.underlying28 rfl (by rw [HS.out]; exact Try.infoBoard) ⟨rfl, setCells_below (Nat.le_succ _) _ _ _ _ hb1⟩
    · have x0 : decide (a < 32768) = false := decide_eq_false ha
      have x1 : decide (c < 0) = true := decide_eq_true hc
      clear ha hc
      go_wp2_with (first
        | (refine wpList_load_mid rfl 28 _ rfl w.heap.size 0 rfl cs.toList _ b1.range Try.underlying28 rfl (by rw [Array.length_toList, HS.out]; exact Try.infoBoard) ?_)
        | (refine wpList_store_mid rfl 28 _ _ rfl (w.heap.size + 1) 0 cs rfl rfl (by exact z1.there _ HS.out.symm) (by rw [HS.out]; exact Try.infoBoard) H1.out ?_))
      exact ret_agg (m := w.heap.size + 1) (L := cs) Try.results17 (by rfl) (z1.setAll cs HS.out) Try.underlying28 rfl (by rw [HS.out]; exact Try.infoBoard) ⟨rfl, setCells_below (Nat.le_succ _) _ _ _ _ hb1⟩
theorem write_all (w : World) (b : Bd) (a v u c : Int) (B : b.Wf) (a1 : a ≤ 65535) (v0 : 0 ≤ v) (v1 : v ≤ 255) (u0 : 0 ≤ u) (u1 : u ≤ 255) (c1 : c ≤ 9223372036854775807) :
    Calls Try.prog 17 #[.agg b.cells, .int .u16 a, .int .u8 v, .int .u8 u, .int .i64 c] w fun e w' => e = .returned (.agg (wrA b a v u c).cells) ∧ Below w.heap.size w w' := by
  unfold wrA
  by_cases h : validB b = true ∧ 32768 ≤ a ∧ 0 ≤ c
  · rw [if_pos h]
    exact write_in w b a v u c h.2.1 a1 v0 v1 u0 u1 h.2.2 c1 (Bd.ok B h.1)
  · rw [if_neg h]
    refine write_same w b a v u c B ?_
    cases hv : validB b
    · exact .inl rfl
    · rw [hv] at h
      have : ¬ (32768 ≤ a ∧ 0 ≤ c) := fun g => h ⟨rfl, g⟩
      omega
end Go.Proofs.Ytggphgmpdanliaa
