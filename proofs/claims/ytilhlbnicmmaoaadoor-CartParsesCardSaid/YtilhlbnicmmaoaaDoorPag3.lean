/-
  What the header's nes2Fields and setWork put; conditions: the cartridge in the making lies in a block of its own.
-/
import Derived.Test.YtilhlbnicmmaoaaDoorPag1b
import Derived.StillTailTactics
set_option linter.unusedSimpArgs false
set_option linter.unusedVariables false
namespace Go.Proofs.YtilhlbnicmmaoaaDoor
open Go.RowKit
/-- What a header of NES 2.0 says, number by number. -/
structure Nx (h : Hq) (x : HN) : Prop where
  m : x.m < 4096
  f240 : bits BinOp.and IntKind.u8 (h.b7 : Int) 240 = ((x.m / 16 % 16 * 16 : Nat) : Int)
  m8a : bits BinOp.and IntKind.u8 (h.b8 : Int) 15 = ((x.m / 256 : Nat) : Int)
  m8b : (h.b8 : Int) / 16 = (x.s : Int)
  l8 : h.b8 < 256
  s : x.s < 16
  f3 : bits BinOp.and IntKind.u8 (h.b7 : Int) 3 = (x.k : Int)
  k : x.k < 4
  kd : x.kd < 256
  e13 : h.b13 = x.kd
  t3 : bits BinOp.and IntKind.u8 (h.b12 : Int) 3 = (x.t : Int)
  t : x.t < 4
  d63 : bits BinOp.and IntKind.u8 (h.b15 : Int) 63 = (x.d : Int)
  d : x.d < 64
  mi3 : bits BinOp.and IntKind.u8 (h.b14 : Int) 3 = (x.mi : Int)
  mi : x.mi < 4
  r10a : bits BinOp.and IntKind.u8 (h.b10 : Int) 15 = (x.a1 : Int)
  r10b : (h.b10 : Int) / 16 = (x.a2 : Int)
  r11a : bits BinOp.and IntKind.u8 (h.b11 : Int) 15 = (x.a3 : Int)
  r11b : (h.b11 : Int) / 16 = (x.a4 : Int)
  l10 : h.b10 < 256
  l11 : h.b11 < 256
  az : x.a1 ≤ 15 ∧ x.a2 ≤ 15 ∧ x.a3 ≤ 15 ∧ x.a4 ≤ 15
def nxOf (h : Hq) : HN := ⟨2, h.b6 / 16 + h.b7 / 16 * 16 + h.b8 % 16 * 256, h.b8 / 16, h.b7 % 4, h.b13, h.b12 % 4, h.b15 % 64, h.b14 % 4, 0, h.b10 % 16, h.b10 / 16, h.b11 % 16, h.b11 / 16⟩
theorem nx_of (h : Hq) (B : h.Ok) : Nx h (nxOf h) := by
  have k6 := B.k6
  have k7 := B.k7
  have k8 := B.k8
  have k10 := B.k10
  have k11 := B.k11
  have a7 := by_and h.b7 B.k7
  have a8 := by_and h.b8 B.k8
  have a10 := by_and h.b10 B.k10
  have a11 := by_and h.b11 B.k11
  have a12 := by_and h.b12 B.k12
  have a14 := by_and h.b14 B.k14
  have a15 := by_and h.b15 B.k15
  have e1 : (h.b6 / 16 + h.b7 / 16 * 16 + h.b8 % 16 * 256) / 16 % 16 * 16 = h.b7 / 16 * 16 := by omega
  have e2 : (h.b6 / 16 + h.b7 / 16 * 16 + h.b8 % 16 * 256) / 256 = h.b8 % 16 := by omega
  refine ⟨?_, ?_, ?_, ?_, k8, ?_, a7.2.1, ?_, B.k13, rfl, a12.2.1, ?_, a15.2.2.2.2, ?_, a14.2.1, ?_, a10.2.2.2.1, ?_, a11.2.2.2.1, ?_, k10, k11, ?_, ?_, ?_, ?_⟩
  · show h.b6 / 16 + h.b7 / 16 * 16 + h.b8 % 16 * 256 < 4096; omega
  · show _ = (((h.b6 / 16 + h.b7 / 16 * 16 + h.b8 % 16 * 256) / 16 % 16 * 16 : Nat) : Int); rw [e1]; exact a7.2.2.1
  · show _ = (((h.b6 / 16 + h.b7 / 16 * 16 + h.b8 % 16 * 256) / 256 : Nat) : Int); rw [e2]; exact a8.2.2.2.1
  · show (h.b8 : Int) / 16 = ((h.b8 / 16 : Nat) : Int); omega
  · show h.b8 / 16 < 16; omega
  · show h.b7 % 4 < 4; omega
  · show h.b12 % 4 < 4; omega
  · show h.b15 % 64 < 64; omega
  · show h.b14 % 4 < 4; omega
  · show (h.b10 : Int) / 16 = ((h.b10 / 16 : Nat) : Int); omega
  · show (h.b11 : Int) / 16 = ((h.b11 / 16 : Nat) : Int); omega
  · show h.b10 % 16 ≤ 15; omega
  · show h.b10 / 16 ≤ 15; omega
  · show h.b11 % 16 ≤ 15; omega
  · show h.b11 / 16 ≤ 15; omega
/-- The cells that nes2Fields leaves. -/
def nA (x : HN) (vt fo ba : Bool) : Array Value := #[.int .i64 2, .int .i64 ((x.m : Nat) : Int), .int .i64 ((x.s : Nat) : Int), .bool vt, .bool fo, .bool ba, .int .i64 ((x.k : Nat) : Int), .int .i64 ((x.kd : Nat) : Int), .int .i64 ((x.t : Nat) : Int), .int .i64 ((x.d : Nat) : Int), .int .i64 ((x.mi : Nat) : Int), .int .i64 ((rz x.a1 : Nat) : Int), .int .i64 ((rz x.a2 : Nat) : Int), .int .i64 ((rz x.a3 : Nat) : Int), .int .i64 ((rz x.a4 : Nat) : Int), .slice none 0 0, .slice none 0 0, .slice none 0 0, .slice none 0 0]
set_option maxRecDepth 100000 in
set_option maxHeartbeats 3200000 in
theorem nes2_g (hs : Array Value) (h : Hq) (x : HN) (X : Nx h x) (HH0 : hs = hv h) (vt fo ba : Bool) (w : World) (g y : Nat) (hy0 : x.m % 16 = y) (bg : Blk w g #[.int .i64 2, .int .i64 (y : Nat), .int .i64 0, .bool vt, .bool fo, .bool ba, .int .i64 0, .int .i64 0, .int .i64 0, .int .i64 0, .int .i64 0, .int .i64 0, .int .i64 0, .int .i64 0, .int .i64 0, .slice none 0 0, .slice none 0 0, .slice none 0 0, .slice none 0 0] 25) :
    Calls Tryd.prog 61 #[.agg hs, .pointer (some ⟨g, 0, none⟩)] w fun e w' => ∃ v, e = .returned v ∧ Blk w' g (nA x vt fo ba) 25 ∧ Tk g w w' := by
  have HH : Hid (hs = _) := HH0
  clear HH0
  have hsz : hs.size = 16 := by rw [HH.out]; rfl
  have HSZ : Hid (hs.size = 16) := hsz
  go_enter Tryd.func61, Tryd.ntmps61
  go_upto_region 1 with fail
  have K0 : Nf w hs g #[.int .i64 2, .int .i64 (y : Nat), .int .i64 0, .bool vt, .bool fo, .bool ba, .int .i64 0, .int .i64 0, .int .i64 0, .int .i64 0, .int .i64 0, .int .i64 0, .int .i64 0, .int .i64 0, .int .i64 0, .slice none 0 0, .slice none 0 0, .slice none 0 0, .slice none 0 0] (w.alloc (.cells hs 67)) :=
    ⟨Blk.new w hs _, bg.old _, bg.lt, Tk.of ((Below.refl _ _).alloc (Nat.le_refl _) _) bg.lt⟩
  generalize w.alloc (.cells hs 67) = W0 at *
  clear hsz bg
  have Hm := X.m
  have HY0 : Hid (x.m % 16 = y) := hy0
  clear hy0
  have c7 := (K0.b.cell 7).trans (show hs[7]? = some (.int .u8 ((h.b7 : Nat) : Int)) by rw [HH.out]; rfl)
  have c8 := (K0.b.cell 8).trans (show hs[8]? = some (.int .u8 ((h.b8 : Nat) : Int)) by rw [HH.out]; rfl)
  have f240 := X.f240
  have m8a := X.m8a
  obtain ⟨o1, o2⟩ := map_or x.m Hm
  rw [HY0.out] at o2
  have l1 : x.m / 16 % 16 * 16 < 256 := by omega
  have l2 : x.m / 256 < 16 := by omega
  have u1 : IntKind.i64.wrap ((x.m / 16 % 16 * 16 : Nat) : Int) = ((x.m / 16 % 16 * 16 : Nat) : Int) := by rw [IntKind.wrap_i64]; omega
  have u2 : IntKind.i64.wrap ((x.m / 256 : Nat) : Int) = ((x.m / 256 : Nat) : Int) := by rw [IntKind.wrap_i64]; omega
  have u3 : IntKind.i64.wrap (((x.m / 256 : Nat) : Int) * 256) = ((x.m / 256 * 256 : Nat) : Int) := by rw [IntKind.wrap_i64]; omega
  generalize x.m / 16 % 16 * 16 = z16 at *
  generalize x.m / 256 * 256 = mb at *
  generalize x.m / 256 = mh at *
  generalize x.m / 16 * 16 = mt at *
  have dh := (K0.c.cell 1).trans (show _ = some (.int .i64 ((y : Nat) : Int)) from rfl)
  have fh := K0.c.free 1
  refine wp_region_still_tail 17 (by kernel_rfl) (by kernel_rfl) ?_
  simp only [List.take_succ_cons, List.take_zero, List.drop_succ_cons, List.drop_zero]
  repeat still_step
  refine wpStill_nil ?_
  change wpList _ _ _ _ _ W0.drew
  have K1 := K0.drew
  clear K0 dh fh c7 c8 f240 m8a o1 o2 l1 l2 u1 u2 u3
  generalize W0.drew = W1 at *
  have dh := (K1.c.cell 1).trans (show _ = some (.int .i64 ((y : Nat) : Int)) from rfl)
  have fh := K1.c.free 1
  go_upto_region 2 with fail
  have K2 : Nf w hs g #[.int .i64 2, .int .i64 ((x.m : Nat) : Int), .int .i64 0, .bool vt, .bool fo, .bool ba, .int .i64 0, .int .i64 0, .int .i64 0, .int .i64 0, .int .i64 0, .int .i64 0, .int .i64 0, .int .i64 0, .int .i64 0, .slice none 0 0, .slice none 0 0, .slice none 0 0, .slice none 0 0] (W1.setCell ⟨g, 1, none⟩ (.int .i64 ((x.m : Nat) : Int))) := K1.put 1 (.int .i64 ((x.m : Nat) : Int)) rfl
  clear K1 dh fh
  generalize W1.setCell ⟨g, 1, none⟩ (.int .i64 ((x.m : Nat) : Int)) = W2 at *
  have c8 := (K2.b.cell 8).trans (show hs[8]? = some (.int .u8 ((h.b8 : Nat) : Int)) by rw [HH.out]; rfl)
  have f1 := X.m8b
  have f2' := X.l8
  have f3' := X.s
  have dh := (K2.c.cell 2).trans (show _ = some (.int .i64 0) from rfl)
  have fh := K2.c.free 2
  go_upto_region 3 with fail
  have K3 : Nf w hs g #[.int .i64 2, .int .i64 ((x.m : Nat) : Int), .int .i64 ((x.s : Nat) : Int), .bool vt, .bool fo, .bool ba, .int .i64 0, .int .i64 0, .int .i64 0, .int .i64 0, .int .i64 0, .int .i64 0, .int .i64 0, .int .i64 0, .int .i64 0, .slice none 0 0, .slice none 0 0, .slice none 0 0, .slice none 0 0] (W2.setCell ⟨g, 2, none⟩ (.int .i64 ((x.s : Nat) : Int))) := K2.put 2 (.int .i64 ((x.s : Nat) : Int)) rfl
  clear K2 dh fh
  generalize W2.setCell ⟨g, 2, none⟩ (.int .i64 ((x.s : Nat) : Int)) = W3 at *
  clear c8 f1 f2' f3'
  have c7 := (K3.b.cell 7).trans (show hs[7]? = some (.int .u8 ((h.b7 : Nat) : Int)) by rw [HH.out]; rfl)
  have f1 := X.f3
  have f2' := X.k
  have dh := (K3.c.cell 6).trans (show _ = some (.int .i64 0) from rfl)
  have fh := K3.c.free 6
  go_upto_region 4 with fail
  have K4 : Nf w hs g #[.int .i64 2, .int .i64 ((x.m : Nat) : Int), .int .i64 ((x.s : Nat) : Int), .bool vt, .bool fo, .bool ba, .int .i64 ((x.k : Nat) : Int), .int .i64 0, .int .i64 0, .int .i64 0, .int .i64 0, .int .i64 0, .int .i64 0, .int .i64 0, .int .i64 0, .slice none 0 0, .slice none 0 0, .slice none 0 0, .slice none 0 0] (W3.setCell ⟨g, 6, none⟩ (.int .i64 ((x.k : Nat) : Int))) := K3.put 6 (.int .i64 ((x.k : Nat) : Int)) rfl
  clear K3 dh fh
  generalize W3.setCell ⟨g, 6, none⟩ (.int .i64 ((x.k : Nat) : Int)) = W4 at *
  clear c7 f1 f2'
  have c13 := (K4.b.cell 13).trans (show hs[13]? = some (.int .u8 ((x.kd : Nat) : Int)) by rw [HH.out, ← X.e13]; rfl)
  have f1 := X.kd
  have dh := (K4.c.cell 7).trans (show _ = some (.int .i64 0) from rfl)
  have fh := K4.c.free 7
  go_upto_region 5 with fail
  have K5 : Nf w hs g #[.int .i64 2, .int .i64 ((x.m : Nat) : Int), .int .i64 ((x.s : Nat) : Int), .bool vt, .bool fo, .bool ba, .int .i64 ((x.k : Nat) : Int), .int .i64 ((x.kd : Nat) : Int), .int .i64 0, .int .i64 0, .int .i64 0, .int .i64 0, .int .i64 0, .int .i64 0, .int .i64 0, .slice none 0 0, .slice none 0 0, .slice none 0 0, .slice none 0 0] (W4.setCell ⟨g, 7, none⟩ (.int .i64 ((x.kd : Nat) : Int))) := K4.put 7 (.int .i64 ((x.kd : Nat) : Int)) rfl
  clear K4 dh fh
  generalize W4.setCell ⟨g, 7, none⟩ (.int .i64 ((x.kd : Nat) : Int)) = W5 at *
  clear c13 f1
  have c12 := (K5.b.cell 12).trans (show hs[12]? = some (.int .u8 ((h.b12 : Nat) : Int)) by rw [HH.out]; rfl)
  have f1 := X.t3
  have f2' := X.t
  have dh := (K5.c.cell 8).trans (show _ = some (.int .i64 0) from rfl)
  have fh := K5.c.free 8
  go_upto_region 6 with fail
  have K6 : Nf w hs g #[.int .i64 2, .int .i64 ((x.m : Nat) : Int), .int .i64 ((x.s : Nat) : Int), .bool vt, .bool fo, .bool ba, .int .i64 ((x.k : Nat) : Int), .int .i64 ((x.kd : Nat) : Int), .int .i64 ((x.t : Nat) : Int), .int .i64 0, .int .i64 0, .int .i64 0, .int .i64 0, .int .i64 0, .int .i64 0, .slice none 0 0, .slice none 0 0, .slice none 0 0, .slice none 0 0] (W5.setCell ⟨g, 8, none⟩ (.int .i64 ((x.t : Nat) : Int))) := K5.put 8 (.int .i64 ((x.t : Nat) : Int)) rfl
  clear K5 dh fh
  generalize W5.setCell ⟨g, 8, none⟩ (.int .i64 ((x.t : Nat) : Int)) = W6 at *
  clear c12 f1 f2'
  have c15 := (K6.b.cell 15).trans (show hs[15]? = some (.int .u8 ((h.b15 : Nat) : Int)) by rw [HH.out]; rfl)
  have f1 := X.d63
  have f2' := X.d
  have dh := (K6.c.cell 9).trans (show _ = some (.int .i64 0) from rfl)
  have fh := K6.c.free 9
  go_upto_region 7 with fail
  have K7 : Nf w hs g #[.int .i64 2, .int .i64 ((x.m : Nat) : Int), .int .i64 ((x.s : Nat) : Int), .bool vt, .bool fo, .bool ba, .int .i64 ((x.k : Nat) : Int), .int .i64 ((x.kd : Nat) : Int), .int .i64 ((x.t : Nat) : Int), .int .i64 ((x.d : Nat) : Int), .int .i64 0, .int .i64 0, .int .i64 0, .int .i64 0, .int .i64 0, .slice none 0 0, .slice none 0 0, .slice none 0 0, .slice none 0 0] (W6.setCell ⟨g, 9, none⟩ (.int .i64 ((x.d : Nat) : Int))) := K6.put 9 (.int .i64 ((x.d : Nat) : Int)) rfl
  clear K6 dh fh
  generalize W6.setCell ⟨g, 9, none⟩ (.int .i64 ((x.d : Nat) : Int)) = W7 at *
  clear c15 f1 f2'
  have c14 := (K7.b.cell 14).trans (show hs[14]? = some (.int .u8 ((h.b14 : Nat) : Int)) by rw [HH.out]; rfl)
  have f1 := X.mi3
  have f2' := X.mi
  have dh := (K7.c.cell 10).trans (show _ = some (.int .i64 0) from rfl)
  have fh := K7.c.free 10
  go_upto_region 8 with fail
  have K8 : Nf w hs g #[.int .i64 2, .int .i64 ((x.m : Nat) : Int), .int .i64 ((x.s : Nat) : Int), .bool vt, .bool fo, .bool ba, .int .i64 ((x.k : Nat) : Int), .int .i64 ((x.kd : Nat) : Int), .int .i64 ((x.t : Nat) : Int), .int .i64 ((x.d : Nat) : Int), .int .i64 ((x.mi : Nat) : Int), .int .i64 0, .int .i64 0, .int .i64 0, .int .i64 0, .slice none 0 0, .slice none 0 0, .slice none 0 0, .slice none 0 0] (W7.setCell ⟨g, 10, none⟩ (.int .i64 ((x.mi : Nat) : Int))) := K7.put 10 (.int .i64 ((x.mi : Nat) : Int)) rfl
  clear K7 dh fh
  generalize W7.setCell ⟨g, 10, none⟩ (.int .i64 ((x.mi : Nat) : Int)) = W8 at *
  clear c14 f1 f2'
  obtain ⟨z1, z2, z3, z4⟩ := X.az
  have c10 := (K8.b.cell 10).trans (show hs[10]? = some (.int .u8 ((h.b10 : Nat) : Int)) by rw [HH.out]; rfl)
  have f1 := X.r10a
  have f2' := X.l10
  have RC : Hid (∀ W : World, Calls _ _ _ _ _) := fun W => ramSize_any x.a1 z1 W
  have HR : Hid (ramV x.a1 = rz x.a1) := rfl
  rw [HR.out] at RC
  generalize hrz : rz x.a1 = q11 at RC
  have HQ11 : Hid (rz x.a1 = q11) := hrz
  clear hrz HR
  go_wp2_with fail
  refine (RC.out W8).mono ?_
  rintro e W8 ⟨rfl, rfl⟩
  have dh := (K8.c.cell 11).trans (show _ = some (.int .i64 0) from rfl)
  have fh := K8.c.free 11
  go_upto_region 9 with fail
  have K9 : Nf w hs g #[.int .i64 2, .int .i64 ((x.m : Nat) : Int), .int .i64 ((x.s : Nat) : Int), .bool vt, .bool fo, .bool ba, .int .i64 ((x.k : Nat) : Int), .int .i64 ((x.kd : Nat) : Int), .int .i64 ((x.t : Nat) : Int), .int .i64 ((x.d : Nat) : Int), .int .i64 ((x.mi : Nat) : Int), .int .i64 ((q11 : Nat) : Int), .int .i64 0, .int .i64 0, .int .i64 0, .slice none 0 0, .slice none 0 0, .slice none 0 0, .slice none 0 0] (W8.setCell ⟨g, 11, none⟩ (.int .i64 ((q11 : Nat) : Int))) := K8.put 11 (.int .i64 ((q11 : Nat) : Int)) rfl
  clear K8 dh fh
  generalize W8.setCell ⟨g, 11, none⟩ (.int .i64 ((q11 : Nat) : Int)) = W9 at *
  clear c10 f1 f2' RC
  have c10 := (K9.b.cell 10).trans (show hs[10]? = some (.int .u8 ((h.b10 : Nat) : Int)) by rw [HH.out]; rfl)
  have f1 := X.r10b
  have f2' := X.l10
  have RC : Hid (∀ W : World, Calls _ _ _ _ _) := fun W => ramSize_any x.a2 z2 W
  have HR : Hid (ramV x.a2 = rz x.a2) := rfl
  rw [HR.out] at RC
  generalize hrz : rz x.a2 = q12 at RC
  have HQ12 : Hid (rz x.a2 = q12) := hrz
  clear hrz HR
  go_wp2_with fail
  refine (RC.out W9).mono ?_
  rintro e W9 ⟨rfl, rfl⟩
  have dh := (K9.c.cell 12).trans (show _ = some (.int .i64 0) from rfl)
  have fh := K9.c.free 12
  go_upto_region 10 with fail
  have K10 : Nf w hs g #[.int .i64 2, .int .i64 ((x.m : Nat) : Int), .int .i64 ((x.s : Nat) : Int), .bool vt, .bool fo, .bool ba, .int .i64 ((x.k : Nat) : Int), .int .i64 ((x.kd : Nat) : Int), .int .i64 ((x.t : Nat) : Int), .int .i64 ((x.d : Nat) : Int), .int .i64 ((x.mi : Nat) : Int), .int .i64 ((q11 : Nat) : Int), .int .i64 ((q12 : Nat) : Int), .int .i64 0, .int .i64 0, .slice none 0 0, .slice none 0 0, .slice none 0 0, .slice none 0 0] (W9.setCell ⟨g, 12, none⟩ (.int .i64 ((q12 : Nat) : Int))) := K9.put 12 (.int .i64 ((q12 : Nat) : Int)) rfl
  clear K9 dh fh
  generalize W9.setCell ⟨g, 12, none⟩ (.int .i64 ((q12 : Nat) : Int)) = W10 at *
  clear c10 f1 f2' RC
  have c11 := (K10.b.cell 11).trans (show hs[11]? = some (.int .u8 ((h.b11 : Nat) : Int)) by rw [HH.out]; rfl)
  have f1 := X.r11a
  have f2' := X.l11
  have RC : Hid (∀ W : World, Calls _ _ _ _ _) := fun W => ramSize_any x.a3 z3 W
  have HR : Hid (ramV x.a3 = rz x.a3) := rfl
  rw [HR.out] at RC
  generalize hrz : rz x.a3 = q13 at RC
  have HQ13 : Hid (rz x.a3 = q13) := hrz
  clear hrz HR
  go_wp2_with fail
  refine (RC.out W10).mono ?_
  rintro e W10 ⟨rfl, rfl⟩
  have dh := (K10.c.cell 13).trans (show _ = some (.int .i64 0) from rfl)
  have fh := K10.c.free 13
  go_upto_region 11 with fail
  have K11 : Nf w hs g #[.int .i64 2, .int .i64 ((x.m : Nat) : Int), .int .i64 ((x.s : Nat) : Int), .bool vt, .bool fo, .bool ba, .int .i64 ((x.k : Nat) : Int), .int .i64 ((x.kd : Nat) : Int), .int .i64 ((x.t : Nat) : Int), .int .i64 ((x.d : Nat) : Int), .int .i64 ((x.mi : Nat) : Int), .int .i64 ((q11 : Nat) : Int), .int .i64 ((q12 : Nat) : Int), .int .i64 ((q13 : Nat) : Int), .int .i64 0, .slice none 0 0, .slice none 0 0, .slice none 0 0, .slice none 0 0] (W10.setCell ⟨g, 13, none⟩ (.int .i64 ((q13 : Nat) : Int))) := K10.put 13 (.int .i64 ((q13 : Nat) : Int)) rfl
  clear K10 dh fh
  generalize W10.setCell ⟨g, 13, none⟩ (.int .i64 ((q13 : Nat) : Int)) = W11 at *
  clear c11 f1 f2' RC
  have c11 := (K11.b.cell 11).trans (show hs[11]? = some (.int .u8 ((h.b11 : Nat) : Int)) by rw [HH.out]; rfl)
  have f1 := X.r11b
  have f2' := X.l11
  have RC : Hid (∀ W : World, Calls _ _ _ _ _) := fun W => ramSize_any x.a4 z4 W
  have HR : Hid (ramV x.a4 = rz x.a4) := rfl
  rw [HR.out] at RC
  generalize hrz : rz x.a4 = q14 at RC
  have HQ14 : Hid (rz x.a4 = q14) := hrz
  clear hrz HR
  go_wp2_with fail
  refine (RC.out W11).mono ?_
  rintro e W11 ⟨rfl, rfl⟩
  have dh := (K11.c.cell 14).trans (show _ = some (.int .i64 0) from rfl)
  have fh := K11.c.free 14
  go_wp2
  have K : Nf w hs g #[.int .i64 2, .int .i64 ((x.m : Nat) : Int), .int .i64 ((x.s : Nat) : Int), .bool vt, .bool fo, .bool ba, .int .i64 ((x.k : Nat) : Int), .int .i64 ((x.kd : Nat) : Int), .int .i64 ((x.t : Nat) : Int), .int .i64 ((x.d : Nat) : Int), .int .i64 ((x.mi : Nat) : Int), .int .i64 ((q11 : Nat) : Int), .int .i64 ((q12 : Nat) : Int), .int .i64 ((q13 : Nat) : Int), .int .i64 ((q14 : Nat) : Int), .slice none 0 0, .slice none 0 0, .slice none 0 0, .slice none 0 0] (W11.setCell ⟨g, 14, none⟩ (.int .i64 ((q14 : Nat) : Int))) := K11.put 14 _ rfl
  have e : nA x vt fo ba = #[.int .i64 2, .int .i64 ((x.m : Nat) : Int), .int .i64 ((x.s : Nat) : Int), .bool vt, .bool fo, .bool ba, .int .i64 ((x.k : Nat) : Int), .int .i64 ((x.kd : Nat) : Int), .int .i64 ((x.t : Nat) : Int), .int .i64 ((x.d : Nat) : Int), .int .i64 ((x.mi : Nat) : Int), .int .i64 ((q11 : Nat) : Int), .int .i64 ((q12 : Nat) : Int), .int .i64 ((q13 : Nat) : Int), .int .i64 ((q14 : Nat) : Int), .slice none 0 0, .slice none 0 0, .slice none 0 0, .slice none 0 0] := by
    unfold nA
    rw [HQ11.out, HQ12.out, HQ13.out, HQ14.out]
  go_end0
  exact ⟨_, rfl, by rw [e]; exact K.c, K.tk⟩
/-- What setWork leaves. -/
def PutOk (g : Nat) (a : Array Value) (w : World) (e : Ending) (w' : World) : Prop := ∃ v, e = .returned v ∧ Blk w' g a 25 ∧ Tk g w w'
theorem setWork_g (g u : Nat) (f m con tim : Int) (vt fo ba : Bool) (hu : u ≤ 255) (w : World) (bg : Blk w g #[.int .i64 f, .int .i64 m, .int .i64 0, .bool vt, .bool fo, .bool ba, .int .i64 con, .int .i64 0, .int .i64 tim, .int .i64 0, .int .i64 0, .int .i64 0, .int .i64 0, .int .i64 0, .int .i64 0, .slice none 0 0, .slice none 0 0, .slice none 0 0, .slice none 0 0] 25) :
    Calls Tryd.prog 60 #[.pointer (some ⟨g, 0, none⟩), .int .i64 (u : Nat)] w (PutOk g #[.int .i64 f, .int .i64 m, .int .i64 0, .bool vt, .bool fo, .bool ba, .int .i64 con, .int .i64 0, .int .i64 tim, .int .i64 0, .int .i64 0, .int .i64 ((if ba then 0 else u * 8192 : Nat) : Int), .int .i64 ((if ba then u * 8192 else 0 : Nat) : Int), .int .i64 0, .int .i64 0, .slice none 0 0, .slice none 0 0, .slice none 0 0, .slice none 0 0] w) := by
  have d5 := (bg.cell 5).trans (show _ = some (.bool ba) from rfl)
  have d11 := (bg.cell 11).trans (show _ = some (.int .i64 0) from rfl)
  have d12 := (bg.cell 12).trans (show _ = some (.int .i64 0) from rfl)
  have f11 := bg.free 11
  have f12 := bg.free 12
  have s11 := bg.set 11 (.int .i64 ((u * 8192 : Nat) : Int))
  have s12 := bg.set 12 (.int .i64 ((u * 8192 : Nat) : Int))
  have e : (u : Int) * 8192 = ((u * 8192 : Nat) : Int) := by simp
  have t11 := Tk.set (m := g) w 11 (.int .i64 ((u * 8192 : Nat) : Int))
  have t12 := Tk.set (m := g) w 12 (.int .i64 ((u * 8192 : Nat) : Int))
  have hb : u * 8192 < 9223372036854775807 := by omega
  have HP : Hid ((∃ z, w.setCell ⟨g, 11, none⟩ (.int .i64 ((u * 8192 : Nat) : Int)) = z) ∧ True) := ⟨⟨_, rfl⟩, trivial⟩
  clear bg HP
  generalize u * 8192 = z at *
  cases ba
  · go_enter Tryd.func60, Tryd.ntmps60
    go_wp2
    go_end0
    exact ⟨_, rfl, s11, t11⟩
  · go_enter Tryd.func60, Tryd.ntmps60
    go_wp2
    go_end0
    exact ⟨_, rfl, s12, t12⟩
end Go.Proofs.YtilhlbnicmmaoaaDoor
