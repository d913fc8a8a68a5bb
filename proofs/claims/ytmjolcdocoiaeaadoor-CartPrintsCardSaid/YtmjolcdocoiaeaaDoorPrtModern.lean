/-
  What the document's modernHead does to a header; conditions: the header is a row of its own, the cartridge may be printed and is of NES 2.0.
-/
import Derived.Test.YtmjolcdocoiaeaaDoorPrtRLeaf
namespace Go.Proofs.YtmjolcdocoiaeaaDoor
open Go.RowKit
/-- The argument's block and the row of the header. -/
structure Rm (w : World) (cs : Array Value) (g : Nat) (l : List Nat) (W : World) : Prop where
  b : Blk W w.heap.size cs 24
  o : Own W g l
  hg : g < w.heap.size
  bl : Below g w W
theorem Rm.put {w W : World} {cs : Array Value} {g : Nat} {l : List Nat} (K : Rm w cs g l W) (i v : Nat) {l' : List Nat} (e : l.set i v = l') : Rm w cs g l' (W.setCell ⟨g, i, none⟩ (.int .u8 (v : Nat))) :=
  ⟨K.b.other (by have := K.hg; omega) i _, e ▸ K.o.set i v, K.hg, K.bl.setCell (p := ⟨g, i, none⟩) (Nat.le_refl _) _⟩
set_option maxRecDepth 100000 in
set_option maxHeartbeats 3200000 in
theorem modern_any (cs : Array Value) (c : CF) (x : HN) (C : IsC cs c) (X : Hb c x) (f2 : x.f = 2) (g y4 y5 v6 : Nat) (w : World) (o : Own w g [78, 69, 83, 26, y4, y5, v6, 0, 0, 0, 0, 0, 0, 0, 0, 0]) :
    Calls Tryd.prog 15 #[.slice (some ⟨g, 0, none⟩) 16 16, .agg cs] w fun e w' => ∃ v, e = .returned v ∧ Below g w w' ∧
      Own w' g [78, 69, 83, 26, loB c.np 16384, loB c.nq 8192, v6, x.m / 16 % 16 * 16 + 8 + x.k, x.s * 16 + x.m / 256, hiB c.np 16384 + hiB c.nq 8192 * 16, x.a1 + x.a2 * 16, x.a3 + x.a4 * 16, x.t, x.kd, x.mi, x.d] := by
  have hsz := C.size
  go_enter Tryd.func15, Tryd.ntmps15
  go_upto_region 1 with fail
  have K0 : Rm w cs g [78, 69, 83, 26, y4, y5, v6, 0, 0, 0, 0, 0, 0, 0, 0, 0] (w.alloc (.cells cs 24)) := ⟨Blk.new w cs _, o.below o.lt ((Below.refl _ _).alloc (Nat.le_refl _) _), o.lt, (Below.refl g w).alloc (Nat.le_of_lt o.lt) _⟩
  generalize w.alloc (.cells cs 24) = W0 at *
  clear hsz o
  obtain ⟨a16, k16, e16⟩ := C.h16
  obtain ⟨a17, k17, e17⟩ := C.h17
  have HP : Hid (loB c.np 16384 < 256 ∧ hiB c.np 16384 < 16 ∧ loB c.nq 8192 < 256 ∧ hiB c.nq 8192 < 16) := by
    have h1 := X.np
    have h2 := X.nq
    refine ⟨lo_lt (fun h e => h (by rw [e])) X.np (by omega) (X.npu.imp id fun h => h.2), ?_, lo_lt (fun h e => h (by rw [e])) (by omega) (by omega) (X.nqu.imp id fun h => h.2), ?_⟩
    all_goals
      unfold hiB
      split <;> decide
  have R1 : Hid (∀ W : World, Calls _ _ _ _ _) := fun W => told_any c.np 16384 (.inl rfl) X.np (by have := X.np; omega) (X.npu.imp id fun h => h.2) W
  have R2 : Hid (∀ W : World, Calls _ _ _ _ _) := fun W => told_any c.nq 8192 (.inr rfl) (by have := X.nq; omega) (by have := X.nq; omega) (X.nqu.imp id fun h => h.2) W
  have d1 := (K0.b.cell 1).trans (show _ = some (.int .i64 ((x.m : Nat) : Int)) by rw [C.h1, X.cm])
  have d6 := (K0.b.cell 6).trans (show _ = some (.int .i64 ((x.k : Nat) : Int)) by rw [C.h6, X.ck])
  have Hm := X.m
  have Hk := X.k
  have g1 : ((x.m : Nat) : Int) / 16 % 16 = ((x.m / 16 % 16 : Nat) : Int) := by omega
  have g2 : ((x.m / 16 % 16 : Nat) : Int) * 16 + 8 + ((x.k : Nat) : Int) = ((x.m / 16 % 16 * 16 + 8 + x.k : Nat) : Int) := by omega
  have g3 : ((x.m / 16 % 16 : Nat) : Int) < 16 := by omega
  have V7 : Hid (x.m / 16 % 16 * 16 + 8 + x.k = x.m / 16 % 16 * 16 + 8 + x.k) := rfl
  generalize hv : x.m / 16 % 16 * 16 + 8 + x.k = v7 at *
  have H7 : Hid (x.m / 16 % 16 * 16 + 8 + x.k = v7) := hv
  clear hv V7
  generalize x.m / 16 % 16 = z at g1 g2 g3
  have dh := (K0.o.cell 7 (show 7 < 16 by decide)).trans (show _ = some (.int .u8 ((0 : Nat) : Int)) from rfl)
  have fh := K0.o.free 7
  go_upto_region 2 with fail
  have K1 := K0.put 7 v7 (l' := [78, 69, 83, 26, y4, y5, v6, v7, 0, 0, 0, 0, 0, 0, 0, 0]) rfl
  clear K0 dh fh
  generalize W0.setCell ⟨g, 7, none⟩ (.int .u8 ((v7 : Nat) : Int)) = W1 at *
  clear g1 g2 g3 d1 d6
  have d1 := (K1.b.cell 1).trans (show _ = some (.int .i64 ((x.m : Nat) : Int)) by rw [C.h1, X.cm])
  have d2 := (K1.b.cell 2).trans (show _ = some (.int .i64 ((x.s : Nat) : Int)) by rw [C.h2, X.cs])
  have Hs := X.s
  have g1 : ((x.m : Nat) : Int) / 256 = ((x.m / 256 : Nat) : Int) := by omega
  have g2 : ((x.s : Nat) : Int) * 16 + ((x.m / 256 : Nat) : Int) = ((x.s * 16 + x.m / 256 : Nat) : Int) := by omega
  have g3 : ((x.m / 256 : Nat) : Int) < 16 := by omega
  generalize hv : x.s * 16 + x.m / 256 = w8 at *
  have H8 : Hid (x.s * 16 + x.m / 256 = w8) := hv
  clear hv
  generalize x.m / 256 = mh at g1 g2 g3
  have dh := (K1.o.cell 8 (show 8 < 16 by decide)).trans (show _ = some (.int .u8 ((0 : Nat) : Int)) from rfl)
  have fh := K1.o.free 8
  go_upto_region 3 with fail
  have K2 := K1.put 8 w8 (l' := [78, 69, 83, 26, y4, y5, v6, v7, w8, 0, 0, 0, 0, 0, 0, 0]) rfl
  clear K1 dh fh
  generalize W1.setCell ⟨g, 8, none⟩ (.int .u8 ((w8 : Nat) : Int)) = W2 at *
  clear g1 g2 g3 d1 d2
  have HQ : Hid (loB c.np 16384 = loB c.np 16384) := rfl
  generalize hp4 : loB c.np 16384 = p4 at *
  generalize hp9 : hiB c.np 16384 = p9 at *
  generalize hq5 : loB c.nq 8192 = q5 at *
  generalize hq9 : hiB c.nq 8192 = q9 at *
  have HPQ : Hid ((loB c.np 16384 = p4 ∧ hiB c.np 16384 = p9) ∧ (loB c.nq 8192 = q5 ∧ hiB c.nq 8192 = q9)) := ⟨⟨hp4, hp9⟩, ⟨hq5, hq9⟩⟩
  clear hp4 hp9 hq5 hq9 HQ
  have d := (K2.b.cell 16).trans e16
  go_wp2_with fail
  refine (R1.out W2).mono ?_
  rintro e W2 ⟨rfl, rfl⟩
  go_upto_region 4 with fail
  clear d
  have d := (K2.b.cell 17).trans e17
  go_wp2_with fail
  refine (R2.out W2).mono ?_
  rintro e W2 ⟨rfl, rfl⟩
  go_upto_region 5 with fail
  clear d R1 R2
  have dh := (K2.o.cell 4 (show 4 < 16 by decide)).trans (show _ = some (.int .u8 ((y4 : Nat) : Int)) from rfl)
  have fh := K2.o.free 4
  go_upto_region 6 with fail
  have K3 := K2.put 4 p4 (l' := [78, 69, 83, 26, p4, y5, v6, v7, w8, 0, 0, 0, 0, 0, 0, 0]) rfl
  clear K2 dh fh
  generalize W2.setCell ⟨g, 4, none⟩ (.int .u8 ((p4 : Nat) : Int)) = W3 at *
  have dh := (K3.o.cell 5 (show 5 < 16 by decide)).trans (show _ = some (.int .u8 ((y5 : Nat) : Int)) from rfl)
  have fh := K3.o.free 5
  go_upto_region 7 with fail
  have K4 := K3.put 5 q5 (l' := [78, 69, 83, 26, p4, q5, v6, v7, w8, 0, 0, 0, 0, 0, 0, 0]) rfl
  clear K3 dh fh
  generalize W3.setCell ⟨g, 5, none⟩ (.int .u8 ((q5 : Nat) : Int)) = W4 at *
  obtain ⟨-, hp9, -, hq9⟩ := HP.out
  have g2 : ((p9 : Nat) : Int) + ((q9 : Nat) : Int) * 16 = ((p9 + q9 * 16 : Nat) : Int) := by omega
  generalize hv : p9 + q9 * 16 = w9 at *
  have H9 : Hid (p9 + q9 * 16 = w9) := hv
  clear hv
  have dh := (K4.o.cell 9 (show 9 < 16 by decide)).trans (show _ = some (.int .u8 ((0 : Nat) : Int)) from rfl)
  have fh := K4.o.free 9
  go_upto_region 8 with fail
  have K5 := K4.put 9 w9 (l' := [78, 69, 83, 26, p4, q5, v6, v7, w8, w9, 0, 0, 0, 0, 0, 0]) rfl
  clear K4 dh fh
  generalize W4.setCell ⟨g, 9, none⟩ (.int .u8 ((w9 : Nat) : Int)) = W5 at *
  clear g2 hp9 hq9
  obtain ⟨⟨r1, z1⟩, ⟨r2, z2⟩, ⟨r3, z3⟩, ⟨r4, z4⟩⟩ := X.r f2
  have da := (K5.b.cell 11).trans (show _ = some (.int .i64 ((rz x.a1 : Nat) : Int)) by rw [C.h11, r1])
  have db := (K5.b.cell 12).trans (show _ = some (.int .i64 ((rz x.a2 : Nat) : Int)) by rw [C.h12, r2])
  have Ca : Hid (∀ W : World, Calls _ _ _ _ _) := fun W => number_any x.a1 z1 W
  have Cb : Hid (∀ W : World, Calls _ _ _ _ _) := fun W => number_any x.a2 z2 W
  have g2 : ((x.a1 : Nat) : Int) + ((x.a2 : Nat) : Int) * 16 = ((x.a1 + x.a2 * 16 : Nat) : Int) := by omega
  generalize hv : x.a1 + x.a2 * 16 = w10 at *
  have Hw10 : Hid (x.a1 + x.a2 * 16 = w10) := hv
  clear hv
  generalize rz x.a1 = na at *
  generalize rz x.a2 = nb at *
  go_wp2_with fail
  refine (Ca.out W5).mono ?_
  rintro e W5 ⟨rfl, rfl⟩
  go_upto_region 9 with fail
  go_wp2_with fail
  refine (Cb.out W5).mono ?_
  rintro e W5 ⟨rfl, rfl⟩
  go_upto_region 10 with fail
  have dh := (K5.o.cell 10 (show 10 < 16 by decide)).trans (show _ = some (.int .u8 ((0 : Nat) : Int)) from rfl)
  have fh := K5.o.free 10
  go_upto_region 11 with fail
  have K6 := K5.put 10 w10 (l' := [78, 69, 83, 26, p4, q5, v6, v7, w8, w9, w10, 0, 0, 0, 0, 0]) rfl
  clear K5 dh fh
  generalize W5.setCell ⟨g, 10, none⟩ (.int .u8 ((w10 : Nat) : Int)) = W6 at *
  clear da db Ca Cb g2
  have da := (K6.b.cell 13).trans (show _ = some (.int .i64 ((rz x.a3 : Nat) : Int)) by rw [C.h13, r3])
  have db := (K6.b.cell 14).trans (show _ = some (.int .i64 ((rz x.a4 : Nat) : Int)) by rw [C.h14, r4])
  have Ca : Hid (∀ W : World, Calls _ _ _ _ _) := fun W => number_any x.a3 z3 W
  have Cb : Hid (∀ W : World, Calls _ _ _ _ _) := fun W => number_any x.a4 z4 W
  have g2 : ((x.a3 : Nat) : Int) + ((x.a4 : Nat) : Int) * 16 = ((x.a3 + x.a4 * 16 : Nat) : Int) := by omega
  generalize hv : x.a3 + x.a4 * 16 = w11 at *
  have Hw11 : Hid (x.a3 + x.a4 * 16 = w11) := hv
  clear hv
  generalize rz x.a3 = na at *
  generalize rz x.a4 = nb at *
  go_wp2_with fail
  refine (Ca.out W6).mono ?_
  rintro e W6 ⟨rfl, rfl⟩
  go_upto_region 12 with fail
  go_wp2_with fail
  refine (Cb.out W6).mono ?_
  rintro e W6 ⟨rfl, rfl⟩
  go_upto_region 13 with fail
  have dh := (K6.o.cell 11 (show 11 < 16 by decide)).trans (show _ = some (.int .u8 ((0 : Nat) : Int)) from rfl)
  have fh := K6.o.free 11
  go_upto_region 14 with fail
  have K7 := K6.put 11 w11 (l' := [78, 69, 83, 26, p4, q5, v6, v7, w8, w9, w10, w11, 0, 0, 0, 0]) rfl
  clear K6 dh fh
  generalize W6.setCell ⟨g, 11, none⟩ (.int .u8 ((w11 : Nat) : Int)) = W7 at *
  clear da db Ca Cb g2
  have dd := (K7.b.cell 8).trans (show _ = some (.int .i64 ((x.t : Nat) : Int)) by rw [C.h8, X.ct])
  have hb := X.t
  have g1 : ((x.t : Nat) : Int) % 256 = ((x.t : Nat) : Int) := by omega
  have dh := (K7.o.cell 12 (show 12 < 16 by decide)).trans (show _ = some (.int .u8 ((0 : Nat) : Int)) from rfl)
  have fh := K7.o.free 12
  go_upto_region 15 with fail
  try simp only [g1]
  have K8 := K7.put 12 x.t (l' := [78, 69, 83, 26, p4, q5, v6, v7, w8, w9, w10, w11, x.t, 0, 0, 0]) rfl
  clear K7 dh fh
  generalize W7.setCell ⟨g, 12, none⟩ (.int .u8 ((x.t : Nat) : Int)) = W8 at *
  clear dd hb g1
  have dd := (K8.b.cell 7).trans (show _ = some (.int .i64 ((x.kd : Nat) : Int)) by rw [C.h7, X.ckd])
  have hb := X.kd
  have g1 : ((x.kd : Nat) : Int) % 256 = ((x.kd : Nat) : Int) := by omega
  have dh := (K8.o.cell 13 (show 13 < 16 by decide)).trans (show _ = some (.int .u8 ((0 : Nat) : Int)) from rfl)
  have fh := K8.o.free 13
  go_upto_region 16 with fail
  try simp only [g1]
  have K9 := K8.put 13 x.kd (l' := [78, 69, 83, 26, p4, q5, v6, v7, w8, w9, w10, w11, x.t, x.kd, 0, 0]) rfl
  clear K8 dh fh
  generalize W8.setCell ⟨g, 13, none⟩ (.int .u8 ((x.kd : Nat) : Int)) = W9 at *
  clear dd hb g1
  have dd := (K9.b.cell 10).trans (show _ = some (.int .i64 ((x.mi : Nat) : Int)) by rw [C.h10, X.cmi])
  have hb := X.mi
  have g1 : ((x.mi : Nat) : Int) % 256 = ((x.mi : Nat) : Int) := by omega
  have dh := (K9.o.cell 14 (show 14 < 16 by decide)).trans (show _ = some (.int .u8 ((0 : Nat) : Int)) from rfl)
  have fh := K9.o.free 14
  go_upto_region 17 with fail
  try simp only [g1]
  have K10 := K9.put 14 x.mi (l' := [78, 69, 83, 26, p4, q5, v6, v7, w8, w9, w10, w11, x.t, x.kd, x.mi, 0]) rfl
  clear K9 dh fh
  generalize W9.setCell ⟨g, 14, none⟩ (.int .u8 ((x.mi : Nat) : Int)) = W10 at *
  clear dd hb g1
  have dd := (K10.b.cell 9).trans (show _ = some (.int .i64 ((x.d : Nat) : Int)) by rw [C.h9, X.cd])
  have hb := X.d
  have g1 : ((x.d : Nat) : Int) % 256 = ((x.d : Nat) : Int) := by omega
  have dh := (K10.o.cell 15 (show 15 < 16 by decide)).trans (show _ = some (.int .u8 ((0 : Nat) : Int)) from rfl)
  have fh := K10.o.free 15
  go_wp2
  have K := K10.put 15 x.d (l' := [78, 69, 83, 26, p4, q5, v6, v7, w8, w9, w10, w11, x.t, x.kd, x.mi, x.d]) rfl
  go_end0
  refine ⟨_, rfl, K.bl, ?_⟩
  rw [HPQ.out.1.1, HPQ.out.1.2, HPQ.out.2.1, HPQ.out.2.2, H7.out, H8.out, H9.out, Hw10.out, Hw11.out]
  exact K.o
end Go.Proofs.YtmjolcdocoiaeaaDoor
