/-
  What the function whole answers: a cartridge of NES 2.0 that may be printed, with lists of its own; conditions: the numbers are ints.
-/
import Derived.Test.YtmigejcfgmalpaaDoorBakSize
import Derived.Test.YtmigejcfgmalpaaDoorThrPut
import Derived.Test.YtmigejcfgmalpaaDoorThrFill
import Derived.BigQuiet
set_option linter.unusedSimpArgs false
set_option linter.unusedVariables false
namespace Go.Proofs.YtmigejcfgmalpaaDoor
open Go.RowKit
theorem Ls.low {B B' : Nat} {W : World} {cs : Array Value} {i : Nat} {l : List Nat} (h : Ls B W cs i l) (hB : B' ≤ B) : Ls B' W cs i l := by
  obtain ⟨a, k, e, r, y⟩ := h
  exact ⟨a, k, e, r.mono hB, y⟩
theorem kmod {m : Int} (h0 : 0 ≤ m) : 0 ≤ m.tmod 16 ∧ m.tmod 16 ≤ 15 := by
  rw [Int.tmod_eq_emod_of_nonneg h0]; omega
/-- What whole hands back. -/
def WhOk (w : World) (e : Ending) (w' : World) : Prop := ∃ ds d T P Q R,
      e = .returned (.agg ds) ∧ IsC ds d ∧ Wh d ∧ T.length = d.nt ∧ P.length = d.np ∧ Q.length = d.nq ∧ R.length = d.nr ∧ Ls w.heap.size w' ds 15 T ∧ Ls w.heap.size w' ds 16 P ∧ Ls w.heap.size w' ds 17 Q ∧ Ls w.heap.size w' ds 18 R ∧ Below w.heap.size w w'
/-- The numbers of a cartridge are ints. -/
structure Num (c : CF) : Prop where
  n0 : -9223372036854775808 ≤ c.fmt ∧ c.fmt ≤ 9223372036854775807
  n1 : -9223372036854775808 ≤ c.map ∧ c.map ≤ 9223372036854775807
  n2 : -9223372036854775808 ≤ c.sub ∧ c.sub ≤ 9223372036854775807
  n6 : -9223372036854775808 ≤ c.con ∧ c.con ≤ 9223372036854775807
  n7 : -9223372036854775808 ≤ c.kind ∧ c.kind ≤ 9223372036854775807
  n8 : -9223372036854775808 ≤ c.tim ∧ c.tim ≤ 9223372036854775807
  n9 : -9223372036854775808 ≤ c.dev ∧ c.dev ≤ 9223372036854775807
  n10 : -9223372036854775808 ≤ c.misc ∧ c.misc ≤ 9223372036854775807
  n11 : -9223372036854775808 ≤ c.pr ∧ c.pr ≤ 9223372036854775807
  n12 : -9223372036854775808 ≤ c.pn ∧ c.pn ≤ 9223372036854775807
  n13 : -9223372036854775808 ≤ c.cr ∧ c.cr ≤ 9223372036854775807
  n14 : -9223372036854775808 ≤ c.cn ∧ c.cn ≤ 9223372036854775807
set_option maxRecDepth 100000 in
set_option maxHeartbeats 6400000 in
theorem whole_wh (cs : Array Value) (c : CF) (p q fill : Int) (w : World) (C : IsC cs c) (N : Num c)
    (hp : -9223372036854775808 ≤ p ∧ p ≤ 9223372036854775807) (hq : -9223372036854775808 ≤ q ∧ q ≤ 9223372036854775807) (hf : -9223372036854775808 ≤ fill ∧ fill ≤ 9223372036854775807) :
    Calls Tryd.prog 12 #[.agg cs, .int .i64 p, .int .i64 q, .int .i64 fill] w (WhOk w) := by
  have hsz := C.size
  have HP : Hid ((-9223372036854775808 ≤ p ∧ p ≤ 9223372036854775807) ∧ (-9223372036854775808 ≤ q ∧ q ≤ 9223372036854775807) ∧ (-9223372036854775808 ≤ fill ∧ fill ≤ 9223372036854775807)) := ⟨hp, hq, hf⟩
  obtain ⟨f0, m0, s0, c0, k0, t0, d0, i0, r0, n0, q0, w0, vt, fr, bt, nt, np, nq, nr⟩ := c
  have HN : Hid (Num _) := N
  clear hp hq hf N
  go_enter Tryd.func12, Tryd.ntmps12
  go_upto_region 1 with fail
  have K0 := Pn.new w cs _ C
  generalize ((w.alloc (.cells cs 24)).alloc (.cells Z19 24)) = W0 at *
  clear hsz C
  have d := (K0.b.cell 0).trans (show _ = some (.int .i64 f0) from K0.c.h0)
  have fr0 := K0.b.free 0
  go_upto_region 2 with fail
  have K1 : Pn w (cs.setIfInBounds 0 (.int .i64 2)) ⟨2, m0, s0, c0, k0, t0, d0, i0, r0, n0, q0, w0, vt, fr, bt, nt, np, nq, nr⟩ (W0.setCell ⟨w.heap.size, 0, none⟩ (.int .i64 2)) := K0.put 0 _ (K0.c.set0 2)
  clear d fr0 K0
  generalize W0.setCell ⟨w.heap.size, 0, none⟩ (.int .i64 2) = W2 at *
  generalize cs.setIfInBounds 0 (.int .i64 2) = cs2 at *
  have d := (K1.b.cell 1).trans (show _ = some (.int .i64 m0) from K1.c.h1)
  have fr0 := K1.b.free 1
  go_wp2_with fail
  have hs := spanV_bd m0 0 4095 (by omega)
  refine (span_any m0 0 4095 W2 HN.out.n1.1 HN.out.n1.2 (by omega) (by omega) (by omega)).mono ?_
  rintro e W2 ⟨rfl, rfl⟩
  generalize spanV m0 0 4095 = mm at *
  have HB1 : Hid ((0 : Int) ≤ mm ∧ mm ≤ 4095) := hs
  go_upto_region 3 with fail
  have K2 : Pn w (cs2.setIfInBounds 1 (.int .i64 mm)) ⟨2, mm, s0, c0, k0, t0, d0, i0, r0, n0, q0, w0, vt, fr, bt, nt, np, nq, nr⟩ (W2.setCell ⟨w.heap.size, 1, none⟩ (.int .i64 mm)) := K1.put 1 _ (K1.c.set1 mm)
  clear d fr0 K1
  generalize W2.setCell ⟨w.heap.size, 1, none⟩ (.int .i64 mm) = W3 at *
  generalize cs2.setIfInBounds 1 (.int .i64 mm) = cs3 at *
  clear hs
  have d := (K2.b.cell 2).trans (show _ = some (.int .i64 s0) from K2.c.h2)
  have fr0 := K2.b.free 2
  go_wp2_with fail
  have hs := spanV_bd s0 0 15 (by omega)
  refine (span_any s0 0 15 W3 HN.out.n2.1 HN.out.n2.2 (by omega) (by omega) (by omega)).mono ?_
  rintro e W3 ⟨rfl, rfl⟩
  generalize spanV s0 0 15 = ss at *
  have HB2 : Hid ((0 : Int) ≤ ss ∧ ss ≤ 15) := hs
  go_upto_region 4 with fail
  have K3 : Pn w (cs3.setIfInBounds 2 (.int .i64 ss)) ⟨2, mm, ss, c0, k0, t0, d0, i0, r0, n0, q0, w0, vt, fr, bt, nt, np, nq, nr⟩ (W3.setCell ⟨w.heap.size, 2, none⟩ (.int .i64 ss)) := K2.put 2 _ (K2.c.set2 ss)
  clear d fr0 K2
  generalize W3.setCell ⟨w.heap.size, 2, none⟩ (.int .i64 ss) = W4 at *
  generalize cs3.setIfInBounds 2 (.int .i64 ss) = cs4 at *
  clear hs
  have d := (K3.b.cell 6).trans (show _ = some (.int .i64 c0) from K3.c.h6)
  have fr0 := K3.b.free 6
  go_wp2_with fail
  have hs := spanV_bd c0 0 3 (by omega)
  refine (span_any c0 0 3 W4 HN.out.n6.1 HN.out.n6.2 (by omega) (by omega) (by omega)).mono ?_
  rintro e W4 ⟨rfl, rfl⟩
  generalize spanV c0 0 3 = cc at *
  have HB6 : Hid ((0 : Int) ≤ cc ∧ cc ≤ 3) := hs
  go_upto_region 5 with fail
  have K4 : Pn w (cs4.setIfInBounds 6 (.int .i64 cc)) ⟨2, mm, ss, cc, k0, t0, d0, i0, r0, n0, q0, w0, vt, fr, bt, nt, np, nq, nr⟩ (W4.setCell ⟨w.heap.size, 6, none⟩ (.int .i64 cc)) := K3.put 6 _ (K3.c.set6 cc)
  clear d fr0 K3
  generalize W4.setCell ⟨w.heap.size, 6, none⟩ (.int .i64 cc) = W5 at *
  generalize cs4.setIfInBounds 6 (.int .i64 cc) = cs5 at *
  clear hs
  have d := (K4.b.cell 7).trans (show _ = some (.int .i64 k0) from K4.c.h7)
  have fr0 := K4.b.free 7
  go_wp2_with fail
  have hs := spanV_bd k0 0 255 (by omega)
  refine (span_any k0 0 255 W5 HN.out.n7.1 HN.out.n7.2 (by omega) (by omega) (by omega)).mono ?_
  rintro e W5 ⟨rfl, rfl⟩
  generalize spanV k0 0 255 = kk at *
  have HB7 : Hid ((0 : Int) ≤ kk ∧ kk ≤ 255) := hs
  go_upto_region 6 with fail
  have K5 : Pn w (cs5.setIfInBounds 7 (.int .i64 kk)) ⟨2, mm, ss, cc, kk, t0, d0, i0, r0, n0, q0, w0, vt, fr, bt, nt, np, nq, nr⟩ (W5.setCell ⟨w.heap.size, 7, none⟩ (.int .i64 kk)) := K4.put 7 _ (K4.c.set7 kk)
  clear d fr0 K4
  generalize W5.setCell ⟨w.heap.size, 7, none⟩ (.int .i64 kk) = W6 at *
  generalize cs5.setIfInBounds 7 (.int .i64 kk) = cs6 at *
  clear hs
  have d6 := (K5.b.cell 6).trans (show _ = some (.int .i64 cc) from K5.c.h6)
  have d7 := (K5.b.cell 7).trans (show _ = some (.int .i64 kk) from K5.c.h7)
  have fr7 := K5.b.free 7
  go_upto_if 30 with fail
  go_cut [] (fun wx => ∃ cx kd, (0 ≤ kd ∧ kd ≤ Chk.kindTop cc) ∧ Pn w cx ⟨2, mm, ss, cc, kd, t0, d0, i0, r0, n0, q0, w0, vt, fr, bt, nt, np, nq, nr⟩ wx)
  case first =>
    by_cases h3 : cc = 3
    · subst h3
      have h3' : ((3 : Int) == 3) = true := rfl
      go_wp2
      go_meet
      case rel => exact ⟨_, _, kmod HB7.out.1, K5.put 7 _ (K5.c.set7 (kk.tmod 16))⟩
    · have h3' : (cc == 3) = false := by simp [h3]
      by_cases h1 : cc = 1
      · subst h1
        have h1' : ((1 : Int) != 1) = false := rfl
        go_wp2
        go_meet
        case rel => exact ⟨_, _, HB7.out, K5⟩
      · have h1' : (cc != 1) = true := by simp [h1]
        have HT : Hid (Chk.kindTop cc = 0) := by unfold Hid Chk.kindTop; rw [if_neg h1, if_neg h3]
        clear h3 h1
        go_wp2
        go_meet
        case rel => exact ⟨_, _, ⟨Int.le_refl _, by rw [HT.out]; exact Int.le_refl _⟩, K5.put 7 _ (K5.c.set7 0)⟩
  case rest =>
  clear K5 d6 d7 fr7
  obtain ⟨cs7, kd, hkd, K6⟩ := hcut
  have HKD : Hid (0 ≤ kd ∧ kd ≤ Chk.kindTop cc) := hkd
  clear hkd
  generalize wc = W7 at *
  have d := (K6.b.cell 8).trans (show _ = some (.int .i64 t0) from K6.c.h8)
  have fr0 := K6.b.free 8
  go_wp2_with fail
  have hs := spanV_bd t0 0 3 (by omega)
  refine (span_any t0 0 3 W7 HN.out.n8.1 HN.out.n8.2 (by omega) (by omega) (by omega)).mono ?_
  rintro e W7 ⟨rfl, rfl⟩
  generalize spanV t0 0 3 = tt at *
  have HB8 : Hid ((0 : Int) ≤ tt ∧ tt ≤ 3) := hs
  go_upto_region 11 with fail
  have K7 : Pn w (cs7.setIfInBounds 8 (.int .i64 tt)) ⟨2, mm, ss, cc, kd, tt, d0, i0, r0, n0, q0, w0, vt, fr, bt, nt, np, nq, nr⟩ (W7.setCell ⟨w.heap.size, 8, none⟩ (.int .i64 tt)) := K6.put 8 _ (K6.c.set8 tt)
  clear d fr0 K6
  generalize W7.setCell ⟨w.heap.size, 8, none⟩ (.int .i64 tt) = W11 at *
  generalize cs7.setIfInBounds 8 (.int .i64 tt) = cs11 at *
  clear hs
  have d := (K7.b.cell 9).trans (show _ = some (.int .i64 d0) from K7.c.h9)
  have fr0 := K7.b.free 9
  go_wp2_with fail
  have hs := spanV_bd d0 0 63 (by omega)
  refine (span_any d0 0 63 W11 HN.out.n9.1 HN.out.n9.2 (by omega) (by omega) (by omega)).mono ?_
  rintro e W11 ⟨rfl, rfl⟩
  generalize spanV d0 0 63 = dd at *
  have HB9 : Hid ((0 : Int) ≤ dd ∧ dd ≤ 63) := hs
  go_upto_region 12 with fail
  have K8 : Pn w (cs11.setIfInBounds 9 (.int .i64 dd)) ⟨2, mm, ss, cc, kd, tt, dd, i0, r0, n0, q0, w0, vt, fr, bt, nt, np, nq, nr⟩ (W11.setCell ⟨w.heap.size, 9, none⟩ (.int .i64 dd)) := K7.put 9 _ (K7.c.set9 dd)
  clear d fr0 K7
  generalize W11.setCell ⟨w.heap.size, 9, none⟩ (.int .i64 dd) = W12 at *
  generalize cs11.setIfInBounds 9 (.int .i64 dd) = cs12 at *
  clear hs
  have d := (K8.b.cell 10).trans (show _ = some (.int .i64 i0) from K8.c.h10)
  have fr0 := K8.b.free 10
  go_wp2_with fail
  have hs := spanV_bd i0 0 3 (by omega)
  refine (span_any i0 0 3 W12 HN.out.n10.1 HN.out.n10.2 (by omega) (by omega) (by omega)).mono ?_
  rintro e W12 ⟨rfl, rfl⟩
  generalize spanV i0 0 3 = ii at *
  have HB10 : Hid ((0 : Int) ≤ ii ∧ ii ≤ 3) := hs
  go_upto_region 13 with fail
  have K9 : Pn w (cs12.setIfInBounds 10 (.int .i64 ii)) ⟨2, mm, ss, cc, kd, tt, dd, ii, r0, n0, q0, w0, vt, fr, bt, nt, np, nq, nr⟩ (W12.setCell ⟨w.heap.size, 10, none⟩ (.int .i64 ii)) := K8.put 10 _ (K8.c.set10 ii)
  clear d fr0 K8
  generalize W12.setCell ⟨w.heap.size, 10, none⟩ (.int .i64 ii) = W13 at *
  generalize cs12.setIfInBounds 10 (.int .i64 ii) = cs13 at *
  clear hs
  have d := (K9.b.cell 11).trans (show _ = some (.int .i64 r0) from K9.c.h11)
  have fr0 := K9.b.free 11
  go_wp2_with fail
  refine (memory_mm r0 W13 HN.out.n11.1 HN.out.n11.2).mono ?_
  rintro e W13 ⟨v11, hmm, rfl, rfl⟩
  have HB11 : Hid (Mm v11) := hmm
  clear hmm
  go_upto_region 14 with fail
  have K10 : Pn w (cs13.setIfInBounds 11 (.int .i64 v11)) ⟨2, mm, ss, cc, kd, tt, dd, ii, v11, n0, q0, w0, vt, fr, bt, nt, np, nq, nr⟩ (W13.setCell ⟨w.heap.size, 11, none⟩ (.int .i64 v11)) := K9.put 11 _ (K9.c.set11 v11)
  clear d fr0 K9
  generalize W13.setCell ⟨w.heap.size, 11, none⟩ (.int .i64 v11) = W14 at *
  generalize cs13.setIfInBounds 11 (.int .i64 v11) = cs14 at *
  have d := (K10.b.cell 12).trans (show _ = some (.int .i64 n0) from K10.c.h12)
  have fr0 := K10.b.free 12
  go_wp2_with fail
  refine (memory_mm n0 W14 HN.out.n12.1 HN.out.n12.2).mono ?_
  rintro e W14 ⟨v12, hmm, rfl, rfl⟩
  have HB12 : Hid (Mm v12) := hmm
  clear hmm
  go_upto_region 15 with fail
  have K11 : Pn w (cs14.setIfInBounds 12 (.int .i64 v12)) ⟨2, mm, ss, cc, kd, tt, dd, ii, v11, v12, q0, w0, vt, fr, bt, nt, np, nq, nr⟩ (W14.setCell ⟨w.heap.size, 12, none⟩ (.int .i64 v12)) := K10.put 12 _ (K10.c.set12 v12)
  clear d fr0 K10
  generalize W14.setCell ⟨w.heap.size, 12, none⟩ (.int .i64 v12) = W15 at *
  generalize cs14.setIfInBounds 12 (.int .i64 v12) = cs15 at *
  have d := (K11.b.cell 13).trans (show _ = some (.int .i64 q0) from K11.c.h13)
  have fr0 := K11.b.free 13
  go_wp2_with fail
  refine (memory_mm q0 W15 HN.out.n13.1 HN.out.n13.2).mono ?_
  rintro e W15 ⟨v13, hmm, rfl, rfl⟩
  have HB13 : Hid (Mm v13) := hmm
  clear hmm
  go_upto_region 16 with fail
  have K12 : Pn w (cs15.setIfInBounds 13 (.int .i64 v13)) ⟨2, mm, ss, cc, kd, tt, dd, ii, v11, v12, v13, w0, vt, fr, bt, nt, np, nq, nr⟩ (W15.setCell ⟨w.heap.size, 13, none⟩ (.int .i64 v13)) := K11.put 13 _ (K11.c.set13 v13)
  clear d fr0 K11
  generalize W15.setCell ⟨w.heap.size, 13, none⟩ (.int .i64 v13) = W16 at *
  generalize cs15.setIfInBounds 13 (.int .i64 v13) = cs16 at *
  have d := (K12.b.cell 14).trans (show _ = some (.int .i64 w0) from K12.c.h14)
  have fr0 := K12.b.free 14
  go_wp2_with fail
  refine (memory_mm w0 W16 HN.out.n14.1 HN.out.n14.2).mono ?_
  rintro e W16 ⟨v14, hmm, rfl, rfl⟩
  have HB14 : Hid (Mm v14) := hmm
  clear hmm
  go_upto_region 17 with fail
  have K13 : Pn w (cs16.setIfInBounds 14 (.int .i64 v14)) ⟨2, mm, ss, cc, kd, tt, dd, ii, v11, v12, v13, v14, vt, fr, bt, nt, np, nq, nr⟩ (W16.setCell ⟨w.heap.size, 14, none⟩ (.int .i64 v14)) := K12.put 14 _ (K12.c.set14 v14)
  clear d fr0 K12
  generalize W16.setCell ⟨w.heap.size, 14, none⟩ (.int .i64 v14) = W17 at *
  generalize cs16.setIfInBounds 14 (.int .i64 v14) = cs17 at *
  have d := (K13.b.cell 16).trans (show _ = some _ from (K13.c.h16).choose_spec.choose_spec)
  have fr6 := K13.b.free 16
  go_wp2_with fail
  refine (size_prg p W17 HP.out.1.1 HP.out.1.2).mono ?_
  rintro e W17 ⟨zp, hzp, rfl, rfl⟩
  have hz2 := hzp.2.1
  go_wp2_with fail
  refine (filled_i zp (by omega) (by omega) _ W17).mono ?_
  rintro e V ⟨g, np', P, hn', hl, hy, rfl, hg, ho, hb⟩
  have hZ := K13.z.lt
  have KV := K13.below hb
  have fr6' := KV.b.free 16
  have d' := (KV.b.cell 16).trans ((K13.b.cell 16).symm.trans d)
  go_upto_region 19 with fail
  have K14 : Pn w (cs17.setIfInBounds 16 (.slice (some ⟨g, 0, none⟩) np' np')) ⟨2, mm, ss, cc, kd, tt, dd, ii, v11, v12, v13, v14, vt, fr, bt, nt, np', nq, nr⟩ (V.setCell ⟨w.heap.size, 16, none⟩ (.slice (some ⟨g, 0, none⟩) np' np')) := KV.put 16 _ (KV.c.set16 _ _ _ (by omega))
  have L16 : Ls (w.heap.size + 2) (V.setCell ⟨w.heap.size, 16, none⟩ (.slice (some ⟨g, 0, none⟩) np' np')) (cs17.setIfInBounds 16 (.slice (some ⟨g, 0, none⟩) np' np')) 16 P := Ls.new hl (by rw [KV.c.size]; decide) ho (by omega) (by omega) hy
  have HL16 : Hid (P.length = np') := hl
  have HNP : Hid (Sz 16384 np') := by unfold Hid; have e : zp = np' := by omega
                                      rw [← e]; exact hzp
  clear K13 KV d d' fr6 fr6' hb ho hl hy hg hZ hn' hz2 hzp
  generalize V.setCell ⟨w.heap.size, 16, none⟩ (.slice (some ⟨g, 0, none⟩) np' np') = W19 at *
  generalize cs17.setIfInBounds 16 (.slice (some ⟨g, 0, none⟩) np' np') = cs19 at *
  have d := (K14.b.cell 17).trans (show _ = some _ from (K14.c.h17).choose_spec.choose_spec)
  have fr7 := K14.b.free 17
  go_upto_region 20 with fail
  have K15 : Pn w (cs19.setIfInBounds 17 (.slice none 0 0)) ⟨2, mm, ss, cc, kd, tt, dd, ii, v11, v12, v13, v14, vt, fr, bt, nt, np', 0, nr⟩ (W19.setCell ⟨w.heap.size, 17, none⟩ (.slice none 0 0)) := K14.put 17 _ (K14.c.set17 _ _ _ (by omega))
  have M16 := L16.put (m := w.heap.size) (by omega) (j := 17) (by decide) (.slice none 0 0)
  clear K14 d fr7 L16
  generalize W19.setCell ⟨w.heap.size, 17, none⟩ (.slice none 0 0) = W20 at *
  generalize cs19.setIfInBounds 17 (.slice none 0 0) = cs20 at *
  have d := (K15.b.cell 17).trans (show _ = some _ from (K15.c.h17).choose_spec.choose_spec)
  clear d
  go_upto_if 75 with fail
  go_cut [] (fun wx => ∃ cx nq' Q, (nq' = 0 ∨ Sz 8192 nq') ∧ Q.length = nq' ∧ Pn w cx ⟨2, mm, ss, cc, kd, tt, dd, ii, v11, v12, v13, v14, vt, fr, bt, nt, np', nq', nr⟩ wx ∧ Ls (w.heap.size + 2) wx cx 16 P ∧ Ls (w.heap.size + 2) wx cx 17 Q)
  case first =>
    by_cases hq0 : q = 0
    · have hq0' : (q != 0) = false := by simp [hq0]
      clear hq0
      go_wp2
      go_meet
      case rel => exact ⟨_, 0, [], .inl rfl, rfl, K15, M16, Ls.empty ⟨_, _, (K15.c.h17).choose_spec.choose_spec⟩⟩
    · have hq0' : (q != 0) = true := by simp [hq0]
      clear hq0
      go_wp2_with fail
      refine (size_chr q W20 HP.out.2.1.1 HP.out.2.1.2).mono ?_
      rintro e W20 ⟨zq, hzq, rfl, rfl⟩
      have hz2 := hzq.2.1
      go_wp2_with fail
      refine (filled_i zq (by omega) (by omega) _ W20).mono ?_
      rintro e V ⟨g, nq', Q, hn', hl, hy, rfl, hg, ho, hb⟩
      have hZ := K15.z.lt
      have KV := K15.below hb
      have fr7' := KV.b.free 17
      have d' := (KV.b.cell 17).trans (show _ = some _ from (KV.c.h17).choose_spec.choose_spec)
      have N16 := M16.below hb
      have HNQ : Hid (Sz 8192 nq' ∧ Q.length = nq' ∧ Bytes Q ∧ w.heap.size + 2 ≤ g) := by
        have e : zq = nq' := by omega
        rw [← e]; exact ⟨hzq, by omega, hy, by omega⟩
      clear hn' hl hy hg hZ hz2 hzq hb
      go_wp2
      go_meet
      case rel => exact ⟨_, nq', Q, .inr HNQ.out.1, HNQ.out.2.1, KV.put 17 _ (KV.c.set17 _ _ _ (by have := HNQ.out.1.2.1; omega)), N16.put (m := w.heap.size) (by omega) (j := 17) (by decide) _, Ls.new HNQ.out.2.1 (by rw [KV.c.size]; decide) ho HNQ.out.2.2.2 (by omega) HNQ.out.2.2.1⟩
  case rest =>
  clear K15 M16
  obtain ⟨cx, nq', Q, hnq, hQl, K16, L16, L17⟩ := hcut
  have HNQ : Hid ((nq' = 0 ∨ Sz 8192 nq') ∧ Q.length = nq') := ⟨hnq, hQl⟩
  clear hnq hQl
  generalize wc = W21 at *
  obtain ⟨a15, k15, e15⟩ := K16.c.h15
  have d := (K16.b.cell 15).trans (show _ = some (.slice a15 nt k15) from e15)
  have fr9 := K16.b.free 15
  have E15 : Hid (cx[15]? = some (.slice a15 nt k15)) := e15
  have MT : Hid (nt ≤ 140737488351232) := K16.c.mt
  clear e15
  go_upto_if 86 with fail
  go_cut [] (fun wx => ∃ cx nt' T, (nt' = 0 ∨ nt' = 512) ∧ T.length = nt' ∧ Pn w cx ⟨2, mm, ss, cc, kd, tt, dd, ii, v11, v12, v13, v14, vt, fr, bt, nt', np', nq', nr⟩ wx ∧ Ls (w.heap.size + 2) wx cx 15 T ∧ Ls (w.heap.size + 2) wx cx 16 P ∧ Ls (w.heap.size + 2) wx cx 17 Q)
  case first =>
    by_cases hz : nt = 0
    · subst hz
      go_wp2
      go_meet
      exact ⟨_, 0, [], .inl rfl, rfl, K16, Ls.empty ⟨_, _, E15.out⟩, L16, L17⟩
    · have hz' : (0 : Int) < (nt : Int) := by omega
      go_wp2_with fail
      refine (filled_i 512 (by omega) (by omega) _ W21).mono ?_
      rintro e V9 ⟨g, nt', T, hn', hl, hy, rfl, hg, ho, hb⟩
      have hZ := K16.z.lt
      have KV := K16.below hb
      have fr9' := KV.b.free 15
      have d' := (KV.b.cell 15).trans ((K16.b.cell 15).symm.trans d)
      have LV16 := L16.below hb
      have LV17 := L17.below hb
      have HG : Hid (W21.heap.size ≤ g ∧ w.heap.size + 1 < W21.heap.size) := ⟨hg, hZ⟩
      have HT : Hid ((nt' : Int) = 512 ∧ T.length = nt' ∧ Bytes T) := ⟨hn', hl, hy⟩
      clear hg hZ hn' hl hy
      go_wp2
      go_meet
      have hn := HT.out.1
      have hG := HG.out
      exact ⟨_, nt', T, .inr (by omega), HT.out.2.1, KV.put 15 _ (KV.c.set15 _ _ _ (by omega)), Ls.new HT.out.2.1 (by rw [KV.c.size]; decide) ho (by omega) (by omega) HT.out.2.2, LV16.put (m := w.heap.size) (by omega) (j := 15) (by decide) _, LV17.put (m := w.heap.size) (by omega) (j := 15) (by decide) _⟩
  case rest =>
  clear K16 L16 L17 d fr9 E15 MT
  obtain ⟨cy, nt', T, hnt, hTl, K17, L15, L16, L17⟩ := hcut
  have HTT : Hid ((nt' = 0 ∨ nt' = 512) ∧ T.length = nt') := ⟨hnt, hTl⟩
  clear hnt hTl
  generalize wc = W22 at *
  have d := (K17.b.cell 18).trans (show _ = some _ from (K17.c.h18).choose_spec.choose_spec)
  have fr9 := K17.b.free 18
  go_upto_region 26 with fail
  have K18 : Pn w (cy.setIfInBounds 18 (.slice none 0 0)) ⟨2, mm, ss, cc, kd, tt, dd, ii, v11, v12, v13, v14, vt, fr, bt, nt', np', nq', 0⟩ (W22.setCell ⟨w.heap.size, 18, none⟩ (.slice none 0 0)) := K17.put 18 _ (K17.c.set18 _ _ _ (by omega))
  have M15 := L15.put (m := w.heap.size) (by omega) (j := 18) (by decide) (.slice none 0 0)
  have M16 := L16.put (m := w.heap.size) (by omega) (j := 18) (by decide) (.slice none 0 0)
  have M17 := L17.put (m := w.heap.size) (by omega) (j := 18) (by decide) (.slice none 0 0)
  clear K17 d fr9 L15 L16 L17
  generalize W22.setCell ⟨w.heap.size, 18, none⟩ (.slice none 0 0) = W23 at *
  generalize cy.setIfInBounds 18 (.slice none 0 0) = cz at *
  have d10 := (K18.b.cell 10).trans (show _ = some (.int .i64 ii) from K18.c.h10)
  go_upto_if 94 with fail
  go_cut [] (fun wx => ∃ cx nr' R, (ii = 0 ∧ nr' = 0 ∨ ii ≠ 0 ∧ 3 ≤ nr' ∧ nr' ≤ 33) ∧ R.length = nr' ∧ Pn w cx ⟨2, mm, ss, cc, kd, tt, dd, ii, v11, v12, v13, v14, vt, fr, bt, nt', np', nq', nr'⟩ wx ∧ Ls (w.heap.size + 2) wx cx 15 T ∧ Ls (w.heap.size + 2) wx cx 16 P ∧ Ls (w.heap.size + 2) wx cx 17 Q ∧ Ls (w.heap.size + 2) wx cx 18 R)
  case first =>
    have hi10 := HB10.out
    by_cases hm0 : 0 < ii
    · have hm0' : decide ((0 : Int) < ii) = true := decide_eq_true hm0
      have HM0 : Hid (ii ≠ 0) := by unfold Hid; omega
      clear hi10
      go_wp2_with fail
      have hs := spanV_bd fill 0 30 (by omega)
      refine (span_any fill 0 30 W23 HP.out.2.2.1 HP.out.2.2.2 (by omega) (by omega) (by omega)).mono ?_
      rintro e W23 ⟨rfl, rfl⟩
      generalize spanV fill 0 30 = sr at *
      go_wp2_with fail
      refine (filled_i (3 + sr) (by omega) (by omega) _ W23).mono ?_
      rintro e V ⟨g, nr', R, hn', hl, hy, rfl, hg, ho, hb⟩
      have hZ := K18.z.lt
      have KV := K18.below hb
      have fr8' := KV.b.free 18
      have d' := (KV.b.cell 18).trans (show _ = some _ from (KV.c.h18).choose_spec.choose_spec)
      have N15 := M15.below hb
      have N16 := M16.below hb
      have N17 := M17.below hb
      have HNR : Hid ((3 ≤ nr' ∧ nr' ≤ 33) ∧ R.length = nr' ∧ Bytes R ∧ w.heap.size + 2 ≤ g) := ⟨by omega, hl, hy, by omega⟩
      clear hn' hl hy hg hZ hs hb
      go_wp2
      go_meet
      case rel => exact ⟨_, nr', R, .inr ⟨HM0.out, HNR.out.1⟩, HNR.out.2.1, KV.put 18 _ (KV.c.set18 _ _ _ (by have := HNR.out.1.2; omega)), N15.put (m := w.heap.size) (by omega) (j := 18) (by decide) _, N16.put (m := w.heap.size) (by omega) (j := 18) (by decide) _, N17.put (m := w.heap.size) (by omega) (j := 18) (by decide) _, Ls.new HNR.out.2.1 (by rw [KV.c.size]; decide) ho HNR.out.2.2.2 (by omega) HNR.out.2.2.1⟩
    · have hm0' : decide ((0 : Int) < ii) = false := decide_eq_false hm0
      have HM0 : Hid (ii = 0) := by unfold Hid; omega
      clear hi10
      go_wp2
      go_meet
      case rel => exact ⟨_, 0, [], .inl ⟨HM0.out, rfl⟩, rfl, K18, M15, M16, M17, Ls.empty ⟨_, _, (K18.c.h18).choose_spec.choose_spec⟩⟩
  case rest =>
  clear K18 M15 M16 M17 d10
  obtain ⟨cx10, nr', R, hnr, hRl, K10, L15, L16, L17, L18⟩ := hcut
  have HNR : Hid ((ii = 0 ∧ nr' = 0 ∨ ii ≠ 0 ∧ 3 ≤ nr' ∧ nr' ≤ 33) ∧ R.length = nr') := ⟨hnr, hRl⟩
  clear hnr hRl
  generalize wc = W24 at *
  have HS : Hid (cx10.size = 19 ∧ cx10.all (·.oneCell') = true) := ⟨K10.c.size, K10.c.one⟩
  go_wp2_with (first
    | refine wpList_load_mid rfl 24 _ rfl w.heap.size 0 rfl cx10.toList _ K10.b.range Tryd.underlying24 rfl (by rw [Array.length_toList, HS.out.1]; exact Tryd.infoCart) ?_
    | refine wpList_store_mid rfl 24 _ _ rfl (w.heap.size + 1) 0 cx10 rfl rfl (by exact K10.z.there _ HS.out.1.symm) (by rw [HS.out.1]; exact Tryd.infoCart) HS.out.2 ?_)
  have WH : Wh ⟨2, mm, ss, cc, kd, tt, dd, ii, v11, v12, v13, v14, vt, fr, bt, nt', np', nq', nr'⟩ := ⟨rfl, HB1.out, HB2.out, HB6.out, HKD.out, HB8.out, HB9.out, HB10.out, HB11.out, HB12.out, HB13.out, HB14.out, HNP.out, HNQ.out.1, HTT.out.1, HNR.out.1⟩
  refine ret_agg1 (m := w.heap.size + 1) (L := cx10) Tryd.results12 rfl (K10.z.setAll (L := cx10) (by rw [HS.out.1]; rfl)) Tryd.underlying24 rfl (by rw [HS.out.1]; exact Tryd.infoCart) ?_
  exact ⟨_, _, T, P, Q, R, rfl, K10.c, WH, HTT.out.2, HL16.out, HNQ.out.2, HNR.out.2, (L15.puts (m := w.heap.size + 1) (by omega) _ _).low (by omega), (L16.puts (m := w.heap.size + 1) (by omega) _ _).low (by omega), (L17.puts (m := w.heap.size + 1) (by omega) _ _).low (by omega), (L18.puts (m := w.heap.size + 1) (by omega) _ _).low (by omega), setCells_below (by omega) _ _ _ _ K10.bl⟩
end Go.Proofs.YtmigejcfgmalpaaDoor
