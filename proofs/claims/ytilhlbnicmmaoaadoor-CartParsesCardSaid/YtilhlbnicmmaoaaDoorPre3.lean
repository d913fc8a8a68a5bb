/-
  What the document reads of a header of NES 2.0; conditions: its bytes lie in the slice.
-/
import Derived.Test.YtilhlbnicmmaoaaDoorPre2
import Derived.Deep.CutBlock
set_option linter.unusedSimpArgs false
set_option linter.unusedVariables false
namespace Go.Proofs.YtilhlbnicmmaoaaDoor
open Go.RowKit
abbrev MODM (kk : Nat) : List Nat := [0, 0, 0, 0, 0, 0, 0, 0, 0, 0, 0, 0, 252, kk, 252, 192]
theorem bad_two (h : Hq) (hf : h.f = 2) : h.bad = fbM h.l (MODM (Hq.kdM (h.b7 % 4))) 16 0 := by
  have e : h.rs = MODM (Hq.kdM (h.b7 % 4)) := by unfold Hq.rs; rw [if_neg (by omega), if_pos hf]
  rw [← e]; exact fb_fbM h 16 0
set_option maxRecDepth 20000 in
set_option maxHeartbeats 4000000 in
theorem rmodern_g (h : Hq) (B : h.Ok) (hff : h.f = 2) (b off n k : Nat) (hn : 16 ≤ n) (w : World) (HA : HdAt w b off h) :
    Calls Tryd.prog 48 #[.slice (some ⟨b, off, none⟩) n k] w fun e w' => e = .returned (.agg (hN 2 ((h.b6 / 16 + h.b7 / 16 * 16 + h.b8 % 16 * 256 : Nat) : Int) ((h.b8 / 16 : Nat) : Int) false false false ((h.b7 % 4 : Nat) : Int) ((h.b13 : Nat) : Int) ((h.b12 % 4 : Nat) : Int) ((h.b15 % 64 : Nat) : Int) ((h.b14 % 4 : Nat) : Int)
      ((rz (h.b10 % 16) : Nat) : Int) ((rz (h.b10 / 16) : Nat) : Int) ((rz (h.b11 % 16) : Nat) : Int) ((rz (h.b11 / 16) : Nat) : Int) 0 (rsV h.b4 (h.b9 % 16) 16384 1048576) (rsV h.b5 (h.b9 / 16) 8192 524288) ((h.bad : Nat) : Int))) ∧ Below w.heap.size w w' := by
  have hbd0 := bad_two h hff
  obtain ⟨y4, hy4⟩ : ∃ y, h.b4 = y := ⟨_, rfl⟩
  have HY4 : Hid (h.b4 = y4) := hy4
  have l4 : y4 < 256 := by rw [← hy4]; exact B.k4
  clear hy4
  obtain ⟨y5, hy5⟩ : ∃ y, h.b5 = y := ⟨_, rfl⟩
  have HY5 : Hid (h.b5 = y5) := hy5
  have l5 : y5 < 256 := by rw [← hy5]; exact B.k5
  clear hy5
  obtain ⟨y6, hy6⟩ : ∃ y, h.b6 = y := ⟨_, rfl⟩
  have HY6 : Hid (h.b6 = y6) := hy6
  have l6 : y6 < 256 := by rw [← hy6]; exact B.k6
  clear hy6
  obtain ⟨y7, hy7⟩ : ∃ y, h.b7 = y := ⟨_, rfl⟩
  have HY7 : Hid (h.b7 = y7) := hy7
  have l7 : y7 < 256 := by rw [← hy7]; exact B.k7
  clear hy7
  obtain ⟨y8, hy8⟩ : ∃ y, h.b8 = y := ⟨_, rfl⟩
  have HY8 : Hid (h.b8 = y8) := hy8
  have l8 : y8 < 256 := by rw [← hy8]; exact B.k8
  clear hy8
  obtain ⟨y9, hy9⟩ : ∃ y, h.b9 = y := ⟨_, rfl⟩
  have HY9 : Hid (h.b9 = y9) := hy9
  have l9 : y9 < 256 := by rw [← hy9]; exact B.k9
  clear hy9
  obtain ⟨y10, hy10⟩ : ∃ y, h.b10 = y := ⟨_, rfl⟩
  have HY10 : Hid (h.b10 = y10) := hy10
  have l10 : y10 < 256 := by rw [← hy10]; exact B.k10
  clear hy10
  obtain ⟨y11, hy11⟩ : ∃ y, h.b11 = y := ⟨_, rfl⟩
  have HY11 : Hid (h.b11 = y11) := hy11
  have l11 : y11 < 256 := by rw [← hy11]; exact B.k11
  clear hy11
  obtain ⟨y12, hy12⟩ : ∃ y, h.b12 = y := ⟨_, rfl⟩
  have HY12 : Hid (h.b12 = y12) := hy12
  have l12 : y12 < 256 := by rw [← hy12]; exact B.k12
  clear hy12
  obtain ⟨y13, hy13⟩ : ∃ y, h.b13 = y := ⟨_, rfl⟩
  have HY13 : Hid (h.b13 = y13) := hy13
  have l13 : y13 < 256 := by rw [← hy13]; exact B.k13
  clear hy13
  obtain ⟨y14, hy14⟩ : ∃ y, h.b14 = y := ⟨_, rfl⟩
  have HY14 : Hid (h.b14 = y14) := hy14
  have l14 : y14 < 256 := by rw [← hy14]; exact B.k14
  clear hy14
  obtain ⟨y15, hy15⟩ : ∃ y, h.b15 = y := ⟨_, rfl⟩
  have HY15 : Hid (h.b15 = y15) := hy15
  have l15 : y15 < 256 := by rw [← hy15]; exact B.k15
  clear hy15
  have i4 : (4 : Int) < (n : Int) := by omega
  have j4 : 4 < n := by omega
  have i5 : (5 : Int) < (n : Int) := by omega
  have j5 : 5 < n := by omega
  have i6 : (6 : Int) < (n : Int) := by omega
  have j6 : 6 < n := by omega
  have i7 : (7 : Int) < (n : Int) := by omega
  have j7 : 7 < n := by omega
  have i8 : (8 : Int) < (n : Int) := by omega
  have j8 : 8 < n := by omega
  have i9 : (9 : Int) < (n : Int) := by omega
  have j9 : 9 < n := by omega
  have i10 : (10 : Int) < (n : Int) := by omega
  have j10 : 10 < n := by omega
  have i11 : (11 : Int) < (n : Int) := by omega
  have j11 : 11 < n := by omega
  have i12 : (12 : Int) < (n : Int) := by omega
  have j12 : 12 < n := by omega
  have i13 : (13 : Int) < (n : Int) := by omega
  have j13 : 13 < n := by omega
  have i14 : (14 : Int) < (n : Int) := by omega
  have j14 : 14 < n := by omega
  have i15 : (15 : Int) < (n : Int) := by omega
  have j15 : 15 < n := by omega
  rw [HY7.out] at hbd0
  rw [HY4.out, HY5.out, HY6.out, HY7.out, HY8.out, HY9.out, HY10.out, HY11.out, HY12.out, HY13.out, HY14.out, HY15.out]
  obtain ⟨kk, hkk⟩ : ∃ kk : Nat, Hq.kdM (y7 % 4) = kk := ⟨_, rfl⟩
  obtain ⟨bd, hbd⟩ : ∃ bd : Nat, h.bad = bd := ⟨_, rfl⟩
  rw [hkk, hbd] at hbd0
  rw [hbd]
  have MC : Hid (∀ (ms : Array Value) (W : World), ms = (vals (MODM kk)).toArray → HdAt W b off h → Calls Tryd.prog 66 #[.agg ms, .slice (some ⟨b, off, none⟩) n k] W fun e w' => e = .returned (.int .i64 (bd : Nat)) ∧ Below W.heap.size W w') := fun ms W e H => by have := rmarks_g h (MODM kk) rfl ms e b off n k hn W H; rwa [← hbd0] at this
  clear hbd hbd0 hff B
  have m6 : (y6 : Int) / 16 = ((y6 / 16 : Nat) : Int) := by omega
  have a240 := (by_and y7 l7).2.2.1
  have a3 := (by_and y7 l7).2.1
  have a8 := (by_and y8 l8).2.2.2.1
  have m8 : (y8 : Int) / 16 = ((y8 / 16 : Nat) : Int) := by omega
  have a12 := (by_and y12 l12).2.1
  have a14 := (by_and y14 l14).2.1
  have a15 := (by_and y15 l15).2.2.2.2
  have a10 := (by_and y10 l10).2.2.2.1
  have m10 : (y10 : Int) / 16 = ((y10 / 16 : Nat) : Int) := by omega
  have a11 := (by_and y11 l11).2.2.2.1
  have m11 : (y11 : Int) / 16 = ((y11 / 16 : Nat) : Int) := by omega
  have a9 := (by_and y9 l9).2.2.2.1
  have m9 : (y9 : Int) / 16 = ((y9 / 16 : Nat) : Int) := by omega
  have t1 : y6 / 16 < 16 := by omega
  have t2 : y7 / 16 * 16 < 256 := by omega
  have t3 : y8 % 16 < 16 := by omega
  have t4 : y8 / 16 < 16 := by omega
  have t5 : y7 % 4 < 4 := by omega
  have t6 : y12 % 4 < 4 := by omega
  have t7 : y14 % 4 < 4 := by omega
  have t8 : y15 % 64 < 64 := by omega
  have t9 : y10 % 16 < 16 := by omega
  have t10 : y10 / 16 < 16 := by omega
  have t11 : y11 % 16 < 16 := by omega
  have t12 : y11 / 16 < 16 := by omega
  have t13 : y9 % 16 < 16 := by omega
  have t14 : y9 / 16 < 16 := by omega
  generalize y6 / 16 = s6 at *
  generalize y7 / 16 * 16 = z7 at *
  generalize y8 % 16 = x8 at *
  generalize y8 / 16 = sb at *
  generalize y7 % 4 = co at *
  generalize y12 % 4 = tm at *
  generalize y14 % 4 = ms at *
  generalize y15 % 64 = dv at *
  generalize y10 % 16 = r1 at *
  generalize y10 / 16 = r2 at *
  generalize y11 % 16 = r3 at *
  generalize y11 / 16 = r4 at *
  generalize y9 % 16 = x9 at *
  generalize y9 / 16 = x9b at *
  obtain ⟨mp, hmp⟩ : ∃ mp : Nat, s6 + z7 + x8 * 256 = mp := ⟨_, rfl⟩
  have ew1 : IntKind.i64.wrap ((z7 : Nat) : Int) = ((z7 : Nat) : Int) := by rw [IntKind.wrap_i64]; omega
  have ew2 : IntKind.i64.wrap (((s6 : Nat) : Int) + ((z7 : Nat) : Int)) = ((s6 + z7 : Nat) : Int) := by rw [IntKind.wrap_i64]; omega
  have ew3 : IntKind.i64.wrap ((x8 : Nat) : Int) = ((x8 : Nat) : Int) := by rw [IntKind.wrap_i64]; omega
  have ew4 : IntKind.i64.wrap (((x8 : Nat) : Int) * 256) = ((x8 * 256 : Nat) : Int) := by rw [IntKind.wrap_i64]; omega
  have ew5 : IntKind.i64.wrap (((s6 + z7 : Nat) : Int) + ((x8 * 256 : Nat) : Int)) = ((mp : Nat) : Int) := by rw [IntKind.wrap_i64]; omega
  have ew6 : IntKind.i64.wrap ((s6 : Nat) : Int) = ((s6 : Nat) : Int) := by rw [IntKind.wrap_i64]; omega
  have lmp : mp < 8192 := by omega
  rw [hmp]
  clear hmp
  generalize s6 + z7 = m1 at *
  generalize x8 * 256 = m2 at *
  have RC : Hid (∀ (k : Nat) (W : World), k < 16 → Calls Tryd.prog 67 #[.int .i64 (k : Nat)] W fun x w' => x = .returned (.int .i64 ((rz k : Nat) : Int)) ∧ w' = W) := fun k W hk => rram_g k (by omega) W
  have S1 : Hid (∀ (W : World), Calls Tryd.prog 68 #[.int .u8 (y4 : Nat), .int .i64 (x9 : Nat), .int .i64 16384, .int .i64 1048576] W fun x w' => x = .returned (.int .i64 (rsV y4 x9 16384 1048576)) ∧ w' = W) := fun W => rsize_g y4 x9 16384 1048576 l4 (by omega) (by decide) (by decide) (by decide) W
  have S2 : Hid (∀ (W : World), Calls Tryd.prog 68 #[.int .u8 (y5 : Nat), .int .i64 (x9b : Nat), .int .i64 8192, .int .i64 524288] W fun x w' => x = .returned (.int .i64 (rsV y5 x9b 8192 524288)) ∧ w' = W) := fun W => rsize_g y5 x9b 8192 524288 l5 (by omega) (by decide) (by decide) (by decide) W
  have R1 : Hid (∀ W : World, Calls _ _ _ _ _) := fun W => RC.out r1 W t9
  have R2 : Hid (∀ W : World, Calls _ _ _ _ _) := fun W => RC.out r2 W t10
  have R3 : Hid (∀ W : World, Calls _ _ _ _ _) := fun W => RC.out r3 W t11
  have R4 : Hid (∀ W : World, Calls _ _ _ _ _) := fun W => RC.out r4 W t12
  clear RC
  generalize rsV y4 x9 16384 1048576 = pg at *
  generalize rsV y5 x9b 8192 524288 = ch at *
  generalize rz r1 = v1 at *
  generalize rz r2 = v2 at *
  generalize rz r3 = v3 at *
  generalize rz r4 = v4 at *
  obtain ⟨RV, hRV⟩ : ∃ RV, RV = hN 2 (mp : Nat) (sb : Nat) false false false (co : Nat) (y13 : Nat) (tm : Nat) (dv : Nat) (ms : Nat) (v1 : Nat) (v2 : Nat) (v3 : Nat) (v4 : Nat) 0 pg ch (bd : Nat) := ⟨_, rfl⟩
  have HRV : Hid (RV = _) := hRV
  rw [← hRV]
  clear hRV
  go_enter Tryd.func48, Tryd.ntmps48
  go_upto_region 2 with fail
  have K0 := Hh.new HA
  generalize (w.alloc (.cells Z23 60)).alloc (.cells Z23 60) = W0 at *
  have K0 : Hh w b off h (hN 0 0 0 false false false 0 0 0 0 0 0 0 0 0 0 0 0 0) W0 := K0
  clear HA
  go_upto_region 3 with fail
  have bm : Blk (W0.alloc (.cells Z16 32)) W0.heap.size Z16 32 := Blk.new W0 Z16 _
  have K9 := K0.on ((Below.refl W0.heap.size W0).alloc (Nat.le_refl _) (.cells Z16 32))
  have hg : w.heap.size + 1 < W0.heap.size := K0.c.lt
  generalize W0.heap.size = g at *
  generalize W0.alloc (.cells Z16 32) = W9 at *
  clear K0
  have fm12 := bm.free 12
  have fm14 := bm.free 14
  have fm15 := bm.free 15
  have cm12 := (bm.cell 12).trans (show _ = some (.int .u8 0) from rfl)
  have cm14 := (bm.cell 14).trans (show _ = some (.int .u8 0) from rfl)
  have cm15 := (bm.cell 15).trans (show _ = some (.int .u8 0) from rfl)
  go_upto_region 4 with fail
  have bm2 : Blk (((W9.setCell ⟨g, 12, none⟩ (.int .u8 252)).setCell ⟨g, 14, none⟩ (.int .u8 252)).setCell ⟨g, 15, none⟩ (.int .u8 192)) g (vals (MODM 0)).toArray 32 := ((bm.set 12 _).set 14 _).set 15 _
  have K10 := ((K9.off hg 12 (.int .u8 252)).off hg 14 (.int .u8 252)).off hg 15 (.int .u8 192)
  generalize ((W9.setCell ⟨g, 12, none⟩ (.int .u8 252)).setCell ⟨g, 14, none⟩ (.int .u8 252)).setCell ⟨g, 15, none⟩ (.int .u8 192) = W10 at *
  clear bm K9 fm12 fm14 fm15 cm12 cm14 cm15
  have c7 := K10.at 7 y7 (by decide) HY7.out
  have HK : Hid (Hq.kdM co = kk) := hkk
  clear hkk
  go_upto_block 0 with fail
  go_cut [] (fun wx => Hh w b off h (hN 0 0 0 false false false 0 0 0 0 0 0 0 0 0 0 0 0 0) wx ∧ Blk wx g (vals (MODM kk)).toArray 32)
  case first =>
    have fm13 := bm2.free 13
    have cm13 := (bm2.cell 13).trans (show _ = some (.int .u8 0) from rfl)
    rcases (show co = 0 ∨ co = 1 ∨ co = 2 ∨ co = 3 by omega) with rfl | rfl | rfl | rfl
    · have HE : Hid (kk = 255) := HK.out.symm
      go_wp2
      go_meet
      exact ⟨K10.off hg 13 (.int .u8 255), by rw [HE.out]; exact bm2.set 13 (.int .u8 255)⟩
    · have HE : Hid (kk = 0) := HK.out.symm
      go_wp2
      go_meet
      exact ⟨K10, by rw [HE.out]; exact bm2⟩
    · have HE : Hid (kk = 255) := HK.out.symm
      go_wp2
      go_meet
      exact ⟨K10.off hg 13 (.int .u8 255), by rw [HE.out]; exact bm2.set 13 (.int .u8 255)⟩
    · have HE : Hid (kk = 240) := HK.out.symm
      go_wp2
      go_meet
      exact ⟨K10.off hg 13 (.int .u8 240), by rw [HE.out]; exact bm2.set 13 (.int .u8 240)⟩
  case rest =>
  clear K10 bm2 c7 HK
  obtain ⟨K11, bm2⟩ := hcut
  generalize wc = W11 at *
  have HMS : Hid ((vals (MODM kk)).toArray.size = 16) := rfl
  have MC1 : Hid (Calls _ _ _ _ _) := MC.out (vals (MODM kk)).toArray W11 rfl K11.ha
  clear MC
  generalize (vals (MODM kk)).toArray = mm at *
  go_upto_region 10 with fail
  go_wp2_with (refine wpList_load_mid rfl 32 _ rfl g 0 rfl mm.toList _ bm2.range Tryd.underlying32 rfl (by rw [Array.length_toList, HMS.out]; exact infoA16) ?_; rw [Array.toArray_toList])
  refine MC1.out.mono ?_
  rintro e W12 ⟨rfl, hb1⟩
  have K12 := K11.on hb1
  clear MC1 K11 bm2 hb1
  have dh := (K12.c.cell 22).trans (show _ = some (.int .i64 (0 : Int)) from rfl)
  have fh := K12.c.free 22
  go_upto_region 11 with fail
  have K13 : Hh w b off h (hN 0 0 0 false false false 0 0 0 0 0 0 0 0 0 0 0 0 ((bd : Nat))) (W12.setCell ⟨w.heap.size + 1, 22, none⟩ (.int .i64 ((bd : Nat) : Int))) := K12.put 22 (.int .i64 ((bd : Nat) : Int)) rfl
  clear K12 dh fh
  generalize W12.setCell ⟨w.heap.size + 1, 22, none⟩ (.int .i64 ((bd : Nat) : Int)) = W13 at *
  have dh := (K13.c.cell 0).trans (show _ = some (.int .i64 (0 : Int)) from rfl)
  have fh := K13.c.free 0
  go_upto_region 12 with fail
  have K14 : Hh w b off h (hN 2 0 0 false false false 0 0 0 0 0 0 0 0 0 0 0 0 ((bd : Nat))) (W13.setCell ⟨w.heap.size + 1, 0, none⟩ (.int .i64 (2 : Int))) := K13.put 0 (.int .i64 (2 : Int)) rfl
  clear K13 dh fh
  generalize W13.setCell ⟨w.heap.size + 1, 0, none⟩ (.int .i64 (2 : Int)) = W14 at *
  have c6 := K14.at 6 y6 (by decide) HY6.out
  have c7 := K14.at 7 y7 (by decide) HY7.out
  have c8 := K14.at 8 y8 (by decide) HY8.out
  have dh := (K14.c.cell 1).trans (show _ = some (.int .i64 (0 : Int)) from rfl)
  have fh := K14.c.free 1
  refine wp_region_still_tail 20 (by kernel_rfl) (by kernel_rfl) ?_
  simp only [List.take_succ_cons, List.take_zero, List.drop_succ_cons, List.drop_zero]
  repeat still_step
  refine wpStill_nil ?_
  change wpList _ _ _ _ _ W14.drew
  have K15 := K14.drew
  clear K14 dh fh c6 c7 c8
  generalize W14.drew = W15 at *
  clear ew1 ew2 ew3 ew4 ew5 ew6 a240 m6 a8
  have dh := (K15.c.cell 1).trans (show _ = some (.int .i64 (0 : Int)) from rfl)
  have fh := K15.c.free 1
  go_upto_region 13 with fail
  have K16 : Hh w b off h (hN 2 ((mp : Nat)) 0 false false false 0 0 0 0 0 0 0 0 0 0 0 0 ((bd : Nat))) (W15.setCell ⟨w.heap.size + 1, 1, none⟩ (.int .i64 ((mp : Nat) : Int))) := K15.put 1 (.int .i64 ((mp : Nat) : Int)) rfl
  clear K15 dh fh
  generalize W15.setCell ⟨w.heap.size + 1, 1, none⟩ (.int .i64 ((mp : Nat) : Int)) = W16 at *
  have c8 := K16.at 8 y8 (by decide) HY8.out
  have dh := (K16.c.cell 2).trans (show _ = some (.int .i64 (0 : Int)) from rfl)
  have fh := K16.c.free 2
  go_upto_region 14 with fail
  have K17 : Hh w b off h (hN 2 ((mp : Nat)) ((sb : Nat)) false false false 0 0 0 0 0 0 0 0 0 0 0 0 ((bd : Nat))) (W16.setCell ⟨w.heap.size + 1, 2, none⟩ (.int .i64 ((sb : Nat) : Int))) := K16.put 2 (.int .i64 ((sb : Nat) : Int)) rfl
  clear K16 dh fh c8
  generalize W16.setCell ⟨w.heap.size + 1, 2, none⟩ (.int .i64 ((sb : Nat) : Int)) = W17 at *
  have c7 := K17.at 7 y7 (by decide) HY7.out
  have dh := (K17.c.cell 6).trans (show _ = some (.int .i64 (0 : Int)) from rfl)
  have fh := K17.c.free 6
  go_upto_region 15 with fail
  have K18 : Hh w b off h (hN 2 ((mp : Nat)) ((sb : Nat)) false false false ((co : Nat)) 0 0 0 0 0 0 0 0 0 0 0 ((bd : Nat))) (W17.setCell ⟨w.heap.size + 1, 6, none⟩ (.int .i64 ((co : Nat) : Int))) := K17.put 6 (.int .i64 ((co : Nat) : Int)) rfl
  clear K17 dh fh c7
  generalize W17.setCell ⟨w.heap.size + 1, 6, none⟩ (.int .i64 ((co : Nat) : Int)) = W18 at *
  have c13 := K18.at 13 y13 (by decide) HY13.out
  have dh := (K18.c.cell 7).trans (show _ = some (.int .i64 (0 : Int)) from rfl)
  have fh := K18.c.free 7
  go_upto_region 16 with fail
  have K19 : Hh w b off h (hN 2 ((mp : Nat)) ((sb : Nat)) false false false ((co : Nat)) ((y13 : Nat)) 0 0 0 0 0 0 0 0 0 0 ((bd : Nat))) (W18.setCell ⟨w.heap.size + 1, 7, none⟩ (.int .i64 ((y13 : Nat) : Int))) := K18.put 7 (.int .i64 ((y13 : Nat) : Int)) rfl
  clear K18 dh fh c13
  generalize W18.setCell ⟨w.heap.size + 1, 7, none⟩ (.int .i64 ((y13 : Nat) : Int)) = W19 at *
  have c12 := K19.at 12 y12 (by decide) HY12.out
  have dh := (K19.c.cell 8).trans (show _ = some (.int .i64 (0 : Int)) from rfl)
  have fh := K19.c.free 8
  go_upto_region 17 with fail
  have K20 : Hh w b off h (hN 2 ((mp : Nat)) ((sb : Nat)) false false false ((co : Nat)) ((y13 : Nat)) ((tm : Nat)) 0 0 0 0 0 0 0 0 0 ((bd : Nat))) (W19.setCell ⟨w.heap.size + 1, 8, none⟩ (.int .i64 ((tm : Nat) : Int))) := K19.put 8 (.int .i64 ((tm : Nat) : Int)) rfl
  clear K19 dh fh c12
  generalize W19.setCell ⟨w.heap.size + 1, 8, none⟩ (.int .i64 ((tm : Nat) : Int)) = W20 at *
  have c15 := K20.at 15 y15 (by decide) HY15.out
  have dh := (K20.c.cell 9).trans (show _ = some (.int .i64 (0 : Int)) from rfl)
  have fh := K20.c.free 9
  go_upto_region 18 with fail
  have K21 : Hh w b off h (hN 2 ((mp : Nat)) ((sb : Nat)) false false false ((co : Nat)) ((y13 : Nat)) ((tm : Nat)) ((dv : Nat)) 0 0 0 0 0 0 0 0 ((bd : Nat))) (W20.setCell ⟨w.heap.size + 1, 9, none⟩ (.int .i64 ((dv : Nat) : Int))) := K20.put 9 (.int .i64 ((dv : Nat) : Int)) rfl
  clear K20 dh fh c15
  generalize W20.setCell ⟨w.heap.size + 1, 9, none⟩ (.int .i64 ((dv : Nat) : Int)) = W21 at *
  have c14 := K21.at 14 y14 (by decide) HY14.out
  have dh := (K21.c.cell 10).trans (show _ = some (.int .i64 (0 : Int)) from rfl)
  have fh := K21.c.free 10
  go_upto_region 19 with fail
  have K22 : Hh w b off h (hN 2 ((mp : Nat)) ((sb : Nat)) false false false ((co : Nat)) ((y13 : Nat)) ((tm : Nat)) ((dv : Nat)) ((ms : Nat)) 0 0 0 0 0 0 0 ((bd : Nat))) (W21.setCell ⟨w.heap.size + 1, 10, none⟩ (.int .i64 ((ms : Nat) : Int))) := K21.put 10 (.int .i64 ((ms : Nat) : Int)) rfl
  clear K21 dh fh c14
  generalize W21.setCell ⟨w.heap.size + 1, 10, none⟩ (.int .i64 ((ms : Nat) : Int)) = W22 at *
  have c10 := K22.at 10 y10 (by decide) HY10.out
  have dh := (K22.c.cell 11).trans (show _ = some (.int .i64 (0 : Int)) from rfl)
  have fh := K22.c.free 11
  go_wp2_with fail
  refine (R1.out _).mono ?_
  rintro e we ⟨rfl, hwe⟩
  rw [hwe]
  clear hwe we
  go_upto_region 20 with fail
  have K23 : Hh w b off h (hN 2 ((mp : Nat)) ((sb : Nat)) false false false ((co : Nat)) ((y13 : Nat)) ((tm : Nat)) ((dv : Nat)) ((ms : Nat)) ((v1 : Nat)) 0 0 0 0 0 0 ((bd : Nat))) (W22.setCell ⟨w.heap.size + 1, 11, none⟩ (.int .i64 ((v1 : Nat) : Int))) := K22.put 11 (.int .i64 ((v1 : Nat) : Int)) rfl
  clear K22 dh fh c10 R1
  generalize W22.setCell ⟨w.heap.size + 1, 11, none⟩ (.int .i64 ((v1 : Nat) : Int)) = W23 at *
  have c10 := K23.at 10 y10 (by decide) HY10.out
  have dh := (K23.c.cell 12).trans (show _ = some (.int .i64 (0 : Int)) from rfl)
  have fh := K23.c.free 12
  go_wp2_with fail
  refine (R2.out _).mono ?_
  rintro e we ⟨rfl, hwe⟩
  rw [hwe]
  clear hwe we
  go_upto_region 21 with fail
  have K24 : Hh w b off h (hN 2 ((mp : Nat)) ((sb : Nat)) false false false ((co : Nat)) ((y13 : Nat)) ((tm : Nat)) ((dv : Nat)) ((ms : Nat)) ((v1 : Nat)) ((v2 : Nat)) 0 0 0 0 0 ((bd : Nat))) (W23.setCell ⟨w.heap.size + 1, 12, none⟩ (.int .i64 ((v2 : Nat) : Int))) := K23.put 12 (.int .i64 ((v2 : Nat) : Int)) rfl
  clear K23 dh fh c10 R2
  generalize W23.setCell ⟨w.heap.size + 1, 12, none⟩ (.int .i64 ((v2 : Nat) : Int)) = W24 at *
  have c11 := K24.at 11 y11 (by decide) HY11.out
  have dh := (K24.c.cell 13).trans (show _ = some (.int .i64 (0 : Int)) from rfl)
  have fh := K24.c.free 13
  go_wp2_with fail
  refine (R3.out _).mono ?_
  rintro e we ⟨rfl, hwe⟩
  rw [hwe]
  clear hwe we
  go_upto_region 22 with fail
  have K25 : Hh w b off h (hN 2 ((mp : Nat)) ((sb : Nat)) false false false ((co : Nat)) ((y13 : Nat)) ((tm : Nat)) ((dv : Nat)) ((ms : Nat)) ((v1 : Nat)) ((v2 : Nat)) ((v3 : Nat)) 0 0 0 0 ((bd : Nat))) (W24.setCell ⟨w.heap.size + 1, 13, none⟩ (.int .i64 ((v3 : Nat) : Int))) := K24.put 13 (.int .i64 ((v3 : Nat) : Int)) rfl
  clear K24 dh fh c11 R3
  generalize W24.setCell ⟨w.heap.size + 1, 13, none⟩ (.int .i64 ((v3 : Nat) : Int)) = W25 at *
  have c11 := K25.at 11 y11 (by decide) HY11.out
  have dh := (K25.c.cell 14).trans (show _ = some (.int .i64 (0 : Int)) from rfl)
  have fh := K25.c.free 14
  go_wp2_with fail
  refine (R4.out _).mono ?_
  rintro e we ⟨rfl, hwe⟩
  rw [hwe]
  clear hwe we
  go_upto_region 23 with fail
  have K26 : Hh w b off h (hN 2 ((mp : Nat)) ((sb : Nat)) false false false ((co : Nat)) ((y13 : Nat)) ((tm : Nat)) ((dv : Nat)) ((ms : Nat)) ((v1 : Nat)) ((v2 : Nat)) ((v3 : Nat)) ((v4 : Nat)) 0 0 0 ((bd : Nat))) (W25.setCell ⟨w.heap.size + 1, 14, none⟩ (.int .i64 ((v4 : Nat) : Int))) := K25.put 14 (.int .i64 ((v4 : Nat) : Int)) rfl
  clear K25 dh fh c11 R4
  generalize W25.setCell ⟨w.heap.size + 1, 14, none⟩ (.int .i64 ((v4 : Nat) : Int)) = W26 at *
  clear a10 m10 a11 m11
  have ew9 : IntKind.i64.wrap ((x9 : Nat) : Int) = ((x9 : Nat) : Int) := by rw [IntKind.wrap_i64]; omega
  have ew9b : IntKind.i64.wrap ((x9b : Nat) : Int) = ((x9b : Nat) : Int) := by rw [IntKind.wrap_i64]; omega
  have c4 := K26.at 4 y4 (by decide) HY4.out
  have c9 := K26.at 9 y9 (by decide) HY9.out
  have dh := (K26.c.cell 20).trans (show _ = some (.int .i64 (0 : Int)) from rfl)
  have fh := K26.c.free 20
  refine wp_region_still_tail 10 (by kernel_rfl) (by kernel_rfl) ?_
  simp only [List.take_succ_cons, List.take_zero, List.drop_succ_cons, List.drop_zero]
  repeat still_step
  still_call (S1.out _)
  repeat still_step
  refine wpStill_nil ?_
  change wpList _ _ _ _ _ W26.drew
  have K27 := K26.drew
  clear K26 dh fh c4 c9
  generalize W26.drew = W27 at *
  have dh := (K27.c.cell 20).trans (show _ = some (.int .i64 (0 : Int)) from rfl)
  have fh := K27.c.free 20
  go_upto_region 24 with fail
  have K28 : Hh w b off h (hN 2 ((mp : Nat)) ((sb : Nat)) false false false ((co : Nat)) ((y13 : Nat)) ((tm : Nat)) ((dv : Nat)) ((ms : Nat)) ((v1 : Nat)) ((v2 : Nat)) ((v3 : Nat)) ((v4 : Nat)) 0 pg 0 ((bd : Nat))) (W27.setCell ⟨w.heap.size + 1, 20, none⟩ (.int .i64 (pg : Int))) := K27.put 20 (.int .i64 (pg : Int)) rfl
  clear K27 dh fh  S1
  generalize W27.setCell ⟨w.heap.size + 1, 20, none⟩ (.int .i64 (pg : Int)) = W28 at *
  have c5 := K28.at 5 y5 (by decide) HY5.out
  have c9 := K28.at 9 y9 (by decide) HY9.out
  have dh := (K28.c.cell 21).trans (show _ = some (.int .i64 (0 : Int)) from rfl)
  have fh := K28.c.free 21
  refine wp_region_still_tail 10 (by kernel_rfl) (by kernel_rfl) ?_
  simp only [List.take_succ_cons, List.take_zero, List.drop_succ_cons, List.drop_zero]
  repeat still_step
  still_call (S2.out _)
  repeat still_step
  refine wpStill_nil ?_
  change wpList _ _ _ _ _ W28.drew
  have K29 := K28.drew
  clear K28 dh fh c5 c9
  generalize W28.drew = W29 at *
  have dh := (K29.c.cell 21).trans (show _ = some (.int .i64 (0 : Int)) from rfl)
  have fh := K29.c.free 21
  go_upto_region 25 with fail
  have K30 : Hh w b off h (hN 2 ((mp : Nat)) ((sb : Nat)) false false false ((co : Nat)) ((y13 : Nat)) ((tm : Nat)) ((dv : Nat)) ((ms : Nat)) ((v1 : Nat)) ((v2 : Nat)) ((v3 : Nat)) ((v4 : Nat)) 0 pg ch ((bd : Nat))) (W29.setCell ⟨w.heap.size + 1, 21, none⟩ (.int .i64 (ch : Int))) := K29.put 21 (.int .i64 (ch : Int)) rfl
  clear K29 dh fh  S2
  generalize W29.setCell ⟨w.heap.size + 1, 21, none⟩ (.int .i64 (ch : Int)) = W30 at *
  have HC : Hid (((hN 2 ((mp : Nat)) ((sb : Nat)) false false false ((co : Nat)) ((y13 : Nat)) ((tm : Nat)) ((dv : Nat)) ((ms : Nat)) ((v1 : Nat)) ((v2 : Nat)) ((v3 : Nat)) ((v4 : Nat)) 0 pg ch ((bd : Nat))) : Array Value).size = 23 ∧ ((hN 2 ((mp : Nat)) ((sb : Nat)) false false false ((co : Nat)) ((y13 : Nat)) ((tm : Nat)) ((dv : Nat)) ((ms : Nat)) ((v1 : Nat)) ((v2 : Nat)) ((v3 : Nat)) ((v4 : Nat)) 0 pg ch ((bd : Nat))) : Array Value).all (·.oneCell') = true) := hN_ok 2 ((mp : Nat)) ((sb : Nat)) false false false ((co : Nat)) ((y13 : Nat)) ((tm : Nat)) ((dv : Nat)) ((ms : Nat)) ((v1 : Nat)) ((v2 : Nat)) ((v3 : Nat)) ((v4 : Nat)) 0 pg ch ((bd : Nat))
  have bg := K30.c
  have br := K30.r
  have hb2 := K30.hb
  obtain ⟨CC, hCC⟩ : ∃ CC, CC = (hN 2 ((mp : Nat)) ((sb : Nat)) false false false ((co : Nat)) ((y13 : Nat)) ((tm : Nat)) ((dv : Nat)) ((ms : Nat)) ((v1 : Nat)) ((v2 : Nat)) ((v3 : Nat)) ((v4 : Nat)) 0 pg ch ((bd : Nat))) := ⟨_, rfl⟩
  rw [← hCC] at HC bg
  have HCC : Hid (CC = _) := hCC
  clear hCC K30
  go_wp2_with (first
    | refine wpList_load_mid rfl 60 _ rfl (w.heap.size + 1) 0 rfl CC.toList _ bg.range Tryd.underlying60 rfl (by rw [Array.length_toList, HC.out.1]; exact infoHed) ?_
    | refine wpList_store_mid rfl 60 _ _ rfl w.heap.size 0 CC rfl rfl (by exact br.there _ HC.out.1.symm) (by rw [HC.out.1]; exact infoHed) HC.out.2 ?_)
  refine ret_agg1 (m := w.heap.size) (L := CC) Tryd.results48 (by rfl) (br.setAll (L := CC) (by rw [HC.out.1]; rfl)) Tryd.underlying60 rfl (by rw [HC.out.1]; exact infoHed) ?_
  exact ⟨by rw [HRV.out, HCC.out], setCells_below (by omega) _ _ _ _ hb2⟩
end Go.Proofs.YtilhlbnicmmaoaaDoor
