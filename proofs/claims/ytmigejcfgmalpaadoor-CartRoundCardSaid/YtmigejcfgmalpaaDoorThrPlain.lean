/-
  What the function plain answers: a cartridge of an older format with lists of its own; conditions: the numbers are ints.
-/
import Derived.Test.YtmigejcfgmalpaaDoorThrPut
import Derived.Test.YtmigejcfgmalpaaDoorThrFill
import Derived.BigQuiet
set_option linter.unusedSimpArgs false
set_option linter.unusedVariables false
namespace Go.Proofs.YtmigejcfgmalpaaDoor
open Go.RowKit Classical
theorem Ls.low {B B' : Nat} {W : World} {cs : Array Value} {i : Nat} {l : List Nat} (h : Ls B W cs i l) (hB : B' ≤ B) : Ls B' W cs i l := by
  obtain ⟨a, k, e, r, y⟩ := h
  exact ⟨a, k, e, r.mono hB, y⟩
set_option maxRecDepth 100000 in
set_option maxHeartbeats 6400000 in
theorem plain_any (cs : Array Value) (c : CF) (p q fill : Int) (w : World) (C : IsC cs c)
    (h0 : -9223372036854775808 ≤ c.fmt ∧ c.fmt ≤ 9223372036854775807) (h1 : -9223372036854775808 ≤ c.map ∧ c.map ≤ 9223372036854775807) (h6 : -9223372036854775808 ≤ c.con ∧ c.con ≤ 9223372036854775807) (h8 : -9223372036854775808 ≤ c.tim ∧ c.tim ≤ 9223372036854775807) (h11 : -9223372036854775808 ≤ c.pr ∧ c.pr ≤ 9223372036854775807)
    (hp : -9223372036854775808 ≤ p ∧ p ≤ 9223372036854775807) (hq : -9223372036854775808 ≤ q ∧ q ≤ 9223372036854775807) (hf : -9223372036854775808 ≤ fill ∧ fill ≤ 9223372036854775807) :
    Calls Tryd.prog 17 #[.agg cs, .int .i64 p, .int .i64 q, .int .i64 fill] w fun e w' => ∃ ds d T P Q R,
      e = .returned (.agg ds) ∧ IsC ds d ∧ Th d ∧ T.length = d.nt ∧ P.length = d.np ∧ Q.length = d.nq ∧ R.length = d.nr ∧ Ls w.heap.size w' ds 15 T ∧ Ls w.heap.size w' ds 16 P ∧ Ls w.heap.size w' ds 17 Q ∧ Ls w.heap.size w' ds 18 R ∧ Below w.heap.size w w' := by
  have hsz := C.size
  have HP : Hid ((-9223372036854775808 ≤ p ∧ p ≤ 9223372036854775807) ∧ (-9223372036854775808 ≤ q ∧ q ≤ 9223372036854775807) ∧ (-9223372036854775808 ≤ fill ∧ fill ≤ 9223372036854775807)) := ⟨hp, hq, hf⟩
  obtain ⟨f0, m0, s0, c0, k0, t0, d0, i0, r0, n0, q0, w0, vt, fr, bt, nt, np, nq, nr⟩ := c
  have H1 : Hid ((-9223372036854775808 ≤ m0 ∧ m0 ≤ 9223372036854775807) ∧ (-9223372036854775808 ≤ c0 ∧ c0 ≤ 9223372036854775807) ∧ (-9223372036854775808 ≤ t0 ∧ t0 ≤ 9223372036854775807) ∧ (-9223372036854775808 ≤ r0 ∧ r0 ≤ 9223372036854775807)) := ⟨h1, h6, h8, h11⟩
  have H0 : Hid (-9223372036854775808 ≤ f0 ∧ f0 ≤ 9223372036854775807) := h0
  clear hp hq hf h0 h1 h6 h8 h11
  go_enter Tryd.func17, Tryd.ntmps17
  go_upto_region 1 with fail
  have K0 := Pn.new w cs _ C
  generalize ((w.alloc (.cells cs 24)).alloc (.cells Z19 24)) = W0 at *
  clear hsz C
  have d := (K0.b.cell 0).trans (show _ = some (.int .i64 f0) from K0.c.h0)
  have fr0 := K0.b.free 0
  go_wp2_with fail
  have hs := spanV_bd f0 0 1 (by omega)
  refine (span_any f0 0 1 W0 H0.out.1 H0.out.2 (by omega) (by omega) (by omega)).mono ?_
  rintro e W0 ⟨rfl, rfl⟩
  generalize spanV f0 0 1 = F at *
  go_upto_region 2 with fail
  have K1 : Pn w (cs.setIfInBounds 0 (.int .i64 F)) ⟨F, m0, s0, c0, k0, t0, d0, i0, r0, n0, q0, w0, vt, fr, bt, nt, np, nq, nr⟩ (W0.setCell ⟨w.heap.size, 0, none⟩ (.int .i64 F)) := K0.put 0 _ (K0.c.set0 F)
  clear d fr0 K0
  generalize W0.setCell ⟨w.heap.size, 0, none⟩ (.int .i64 F) = W1 at *
  generalize cs.setIfInBounds 0 (.int .i64 F) = cs at *
  have hF := hs
  clear hs
  have d2 := (K1.b.cell 2).trans (show _ = some (.int .i64 s0) from K1.c.h2)
  have fr2 := K1.b.free 2
  have d7 := (K1.b.cell 7).trans (show _ = some (.int .i64 k0) from K1.c.h7)
  have fr7 := K1.b.free 7
  have d9 := (K1.b.cell 9).trans (show _ = some (.int .i64 d0) from K1.c.h9)
  have fr9 := K1.b.free 9
  have d10 := (K1.b.cell 10).trans (show _ = some (.int .i64 i0) from K1.c.h10)
  have fr10 := K1.b.free 10
  have d14 := (K1.b.cell 14).trans (show _ = some (.int .i64 w0) from K1.c.h14)
  have fr14 := K1.b.free 14
  go_upto_region 3 with fail
  have Z2 : Pn w (cs.setIfInBounds 2 (.int .i64 0)) ⟨F, m0, 0, c0, k0, t0, d0, i0, r0, n0, q0, w0, vt, fr, bt, nt, np, nq, nr⟩ ((W1).setCell ⟨w.heap.size, 2, none⟩ (.int .i64 0)) := K1.put 2 _ (K1.c.set2 0)
  have Z7 : Pn w ((cs.setIfInBounds 2 (.int .i64 0)).setIfInBounds 7 (.int .i64 0)) ⟨F, m0, 0, c0, 0, t0, d0, i0, r0, n0, q0, w0, vt, fr, bt, nt, np, nq, nr⟩ (((W1).setCell ⟨w.heap.size, 2, none⟩ (.int .i64 0)).setCell ⟨w.heap.size, 7, none⟩ (.int .i64 0)) := Z2.put 7 _ (Z2.c.set7 0)
  have Z9 : Pn w (((cs.setIfInBounds 2 (.int .i64 0)).setIfInBounds 7 (.int .i64 0)).setIfInBounds 9 (.int .i64 0)) ⟨F, m0, 0, c0, 0, t0, 0, i0, r0, n0, q0, w0, vt, fr, bt, nt, np, nq, nr⟩ ((((W1).setCell ⟨w.heap.size, 2, none⟩ (.int .i64 0)).setCell ⟨w.heap.size, 7, none⟩ (.int .i64 0)).setCell ⟨w.heap.size, 9, none⟩ (.int .i64 0)) := Z7.put 9 _ (Z7.c.set9 0)
  have Z10 : Pn w ((((cs.setIfInBounds 2 (.int .i64 0)).setIfInBounds 7 (.int .i64 0)).setIfInBounds 9 (.int .i64 0)).setIfInBounds 10 (.int .i64 0)) ⟨F, m0, 0, c0, 0, t0, 0, 0, r0, n0, q0, w0, vt, fr, bt, nt, np, nq, nr⟩ (((((W1).setCell ⟨w.heap.size, 2, none⟩ (.int .i64 0)).setCell ⟨w.heap.size, 7, none⟩ (.int .i64 0)).setCell ⟨w.heap.size, 9, none⟩ (.int .i64 0)).setCell ⟨w.heap.size, 10, none⟩ (.int .i64 0)) := Z9.put 10 _ (Z9.c.set10 0)
  have Z14 : Pn w (((((cs.setIfInBounds 2 (.int .i64 0)).setIfInBounds 7 (.int .i64 0)).setIfInBounds 9 (.int .i64 0)).setIfInBounds 10 (.int .i64 0)).setIfInBounds 14 (.int .i64 0)) ⟨F, m0, 0, c0, 0, t0, 0, 0, r0, n0, q0, 0, vt, fr, bt, nt, np, nq, nr⟩ ((((((W1).setCell ⟨w.heap.size, 2, none⟩ (.int .i64 0)).setCell ⟨w.heap.size, 7, none⟩ (.int .i64 0)).setCell ⟨w.heap.size, 9, none⟩ (.int .i64 0)).setCell ⟨w.heap.size, 10, none⟩ (.int .i64 0)).setCell ⟨w.heap.size, 14, none⟩ (.int .i64 0)) := Z10.put 14 _ (Z10.c.set14 0)
  have K2 := Z14
  clear K1 Z2 Z7 Z9 Z10 Z14 d2 fr2 d7 fr7 d9 fr9 d10 fr10 d14 fr14
  generalize (((((W1).setCell ⟨w.heap.size, 2, none⟩ (.int .i64 0)).setCell ⟨w.heap.size, 7, none⟩ (.int .i64 0)).setCell ⟨w.heap.size, 9, none⟩ (.int .i64 0)).setCell ⟨w.heap.size, 10, none⟩ (.int .i64 0)).setCell ⟨w.heap.size, 14, none⟩ (.int .i64 0) = W2 at *
  generalize (((((cs.setIfInBounds 2 (.int .i64 0)).setIfInBounds 7 (.int .i64 0)).setIfInBounds 9 (.int .i64 0)).setIfInBounds 10 (.int .i64 0)).setIfInBounds 14 (.int .i64 0)) = cs at *
  have d := (K2.b.cell 1).trans (show _ = some (.int .i64 m0) from K2.c.h1)
  have fr2 := K2.b.free 1
  have dF := (K2.b.cell 0).trans (show _ = some (.int .i64 F) from K2.c.h0)
  go_wp2_with fail
  have hs := spanV_bd m0 0 (15 + 240 * F) (by omega)
  refine (span_any m0 0 (15 + 240 * F) W2 H1.out.1.1 H1.out.1.2 (by omega) (by omega) (by omega)).mono ?_
  rintro e W2 ⟨rfl, rfl⟩
  generalize spanV m0 0 (15 + 240 * F) = M at *
  go_upto_region 4 with fail
  have K3 : Pn w (cs.setIfInBounds 1 (.int .i64 M)) ⟨F, M, 0, c0, 0, t0, 0, 0, r0, n0, q0, 0, vt, fr, bt, nt, np, nq, nr⟩ (W2.setCell ⟨w.heap.size, 1, none⟩ (.int .i64 M)) := K2.put 1 _ (K2.c.set1 M)
  clear d fr2 K2 dF
  generalize W2.setCell ⟨w.heap.size, 1, none⟩ (.int .i64 M) = W3 at *
  generalize cs.setIfInBounds 1 (.int .i64 M) = cs at *
  have hM := hs
  clear hs
  have d := (K3.b.cell 6).trans (show _ = some (.int .i64 c0) from K3.c.h6)
  have fr3 := K3.b.free 6
  have dF := (K3.b.cell 0).trans (show _ = some (.int .i64 F) from K3.c.h0)
  go_wp2_with fail
  have hs := spanV_bd c0 0 F (by omega)
  refine (span_any c0 0 F W3 H1.out.2.1.1 H1.out.2.1.2 (by omega) (by omega) (by omega)).mono ?_
  rintro e W3 ⟨rfl, rfl⟩
  generalize spanV c0 0 F = cc at *
  go_upto_region 5 with fail
  have K4 : Pn w (cs.setIfInBounds 6 (.int .i64 cc)) ⟨F, M, 0, cc, 0, t0, 0, 0, r0, n0, q0, 0, vt, fr, bt, nt, np, nq, nr⟩ (W3.setCell ⟨w.heap.size, 6, none⟩ (.int .i64 cc)) := K3.put 6 _ (K3.c.set6 cc)
  clear d fr3 K3 dF
  generalize W3.setCell ⟨w.heap.size, 6, none⟩ (.int .i64 cc) = W4 at *
  generalize cs.setIfInBounds 6 (.int .i64 cc) = cs at *
  have hC := hs
  clear hs
  have d := (K4.b.cell 8).trans (show _ = some (.int .i64 t0) from K4.c.h8)
  have fr4 := K4.b.free 8
  have dF := (K4.b.cell 0).trans (show _ = some (.int .i64 F) from K4.c.h0)
  go_wp2_with fail
  have hs := spanV_bd t0 0 F (by omega)
  refine (span_any t0 0 F W4 H1.out.2.2.1.1 H1.out.2.2.1.2 (by omega) (by omega) (by omega)).mono ?_
  rintro e W4 ⟨rfl, rfl⟩
  generalize spanV t0 0 F = tt at *
  go_upto_region 6 with fail
  have K5 : Pn w (cs.setIfInBounds 8 (.int .i64 tt)) ⟨F, M, 0, cc, 0, tt, 0, 0, r0, n0, q0, 0, vt, fr, bt, nt, np, nq, nr⟩ (W4.setCell ⟨w.heap.size, 8, none⟩ (.int .i64 tt)) := K4.put 8 _ (K4.c.set8 tt)
  clear d fr4 K4 dF
  generalize W4.setCell ⟨w.heap.size, 8, none⟩ (.int .i64 tt) = W5 at *
  generalize cs.setIfInBounds 8 (.int .i64 tt) = cs at *
  have hT := hs
  clear hs
  have d := (K5.b.cell 11).trans (show _ = some (.int .i64 r0) from K5.c.h11)
  have dF := (K5.b.cell 0).trans (show _ = some (.int .i64 F) from K5.c.h0)
  have hs := spanV_bd r0 0 7 (by omega)
  have SC : Hid (∀ W : World, _) := fun W => span_any r0 0 7 W H1.out.2.2.2.1 H1.out.2.2.2.2 (by omega) (by omega) (by omega)
  have HK : Hid (Pn w cs ⟨F, M, 0, cc, 0, tt, 0, 0, r0, n0, q0, 0, vt, fr, bt, nt, np, nq, nr⟩ W5) := K5
  have HB : Hid ((0 ≤ M ∧ M ≤ 15 + 240 * F) ∧ (0 ≤ cc ∧ cc ≤ F) ∧ (0 ≤ tt ∧ tt ≤ F)) := ⟨hM, hC, hT⟩
  clear K5 hM hC hT
  generalize spanV r0 0 7 = sp at *
  go_cut [9] (fun x wx => ∃ k : Nat, k ≤ 7 ∧ (F = 0 → k = 0) ∧ x = .int .i64 (8192 * 2 ^ k) ∧ Pn w cs ⟨F, M, 0, cc, 0, tt, 0, 0, r0, n0, q0, 0, vt, fr, bt, nt, np, nq, nr⟩ wx)
  case first =>
    rcases (show F = 0 ∨ F = 1 by omega) with rfl | rfl
    · rcases (show sp = 0 ∨ sp = 1 ∨ sp = 2 ∨ sp = 3 ∨ sp = 4 ∨ sp = 5 ∨ sp = 6 ∨ sp = 7 by omega) with rfl | rfl | rfl | rfl | rfl | rfl | rfl | rfl
      all_goals
        go_quiet ((go_at_call 28; exact Calls.quiet_of_same (SC.out _)))
        go_wp2
        go_meet
        exact ⟨0, by decide, fun _ => rfl, by go_num, HK.out.dn _⟩
    · rcases (show sp = 0 ∨ sp = 1 ∨ sp = 2 ∨ sp = 3 ∨ sp = 4 ∨ sp = 5 ∨ sp = 6 ∨ sp = 7 by omega) with rfl | rfl | rfl | rfl | rfl | rfl | rfl | rfl
      · go_quiet ((go_at_call 28; exact Calls.quiet_of_same (SC.out _)))
        go_wp2
        go_meet
        exact ⟨0, by decide, fun h => absurd h (by decide), by go_num, HK.out.dn _⟩
      · go_quiet ((go_at_call 28; exact Calls.quiet_of_same (SC.out _)))
        go_wp2
        go_meet
        exact ⟨1, by decide, fun h => absurd h (by decide), by go_num, HK.out.dn _⟩
      · go_quiet ((go_at_call 28; exact Calls.quiet_of_same (SC.out _)))
        go_wp2
        go_meet
        exact ⟨2, by decide, fun h => absurd h (by decide), by go_num, HK.out.dn _⟩
      · go_quiet ((go_at_call 28; exact Calls.quiet_of_same (SC.out _)))
        go_wp2
        go_meet
        exact ⟨3, by decide, fun h => absurd h (by decide), by go_num, HK.out.dn _⟩
      · go_quiet ((go_at_call 28; exact Calls.quiet_of_same (SC.out _)))
        go_wp2
        go_meet
        exact ⟨4, by decide, fun h => absurd h (by decide), by go_num, HK.out.dn _⟩
      · go_quiet ((go_at_call 28; exact Calls.quiet_of_same (SC.out _)))
        go_wp2
        go_meet
        exact ⟨5, by decide, fun h => absurd h (by decide), by go_num, HK.out.dn _⟩
      · go_quiet ((go_at_call 28; exact Calls.quiet_of_same (SC.out _)))
        go_wp2
        go_meet
        exact ⟨6, by decide, fun h => absurd h (by decide), by go_num, HK.out.dn _⟩
      · go_quiet ((go_at_call 28; exact Calls.quiet_of_same (SC.out _)))
        go_wp2
        go_meet
        exact ⟨7, by decide, fun h => absurd h (by decide), by go_num, HK.out.dn _⟩
  case rest =>
  clear HK SC d dF hs
  obtain ⟨kk, hk7, hk0, rfl, K5⟩ := hcut
  have HW : Hid (kk ≤ 7 ∧ (F = 0 → kk = 0) ∧ (8192 * 2 ^ kk : Int) = 8192 * 2 ^ kk) := ⟨hk7, hk0, rfl⟩
  clear hk7 hk0
  generalize hwk : (8192 * 2 ^ kk : Int) = wk at *
  have HWK : Hid ((8192 * 2 ^ kk : Int) = wk) := hwk
  clear hwk
  have d11 := (K5.b.cell 11).trans (show _ = some (.int .i64 r0) from K5.c.h11)
  have d12 := (K5.b.cell 12).trans (show _ = some (.int .i64 n0) from K5.c.h12)
  have fr11 := K5.b.free 11
  have fr12 := K5.b.free 12
  generalize wc = W5 at *
  go_upto_region 8 with fail
  have Z11 : Pn w (cs.setIfInBounds 11 (.int .i64 wk)) ⟨F, M, 0, cc, 0, tt, 0, 0, wk, n0, q0, 0, vt, fr, bt, nt, np, nq, nr⟩ (W5.setCell ⟨w.heap.size, 11, none⟩ (.int .i64 wk)) := K5.put 11 _ (K5.c.set11 wk)
  have K6 : Pn w ((cs.setIfInBounds 11 (.int .i64 wk)).setIfInBounds 12 (.int .i64 0)) ⟨F, M, 0, cc, 0, tt, 0, 0, wk, 0, q0, 0, vt, fr, bt, nt, np, nq, nr⟩ ((W5.setCell ⟨w.heap.size, 11, none⟩ (.int .i64 wk)).setCell ⟨w.heap.size, 12, none⟩ (.int .i64 0)) := Z11.put 12 _ (Z11.c.set12 0)
  clear K5 Z11 d11 d12 fr11 fr12
  generalize (W5.setCell ⟨w.heap.size, 11, none⟩ (.int .i64 wk)).setCell ⟨w.heap.size, 12, none⟩ (.int .i64 0) = W6 at *
  generalize (cs.setIfInBounds 11 (.int .i64 wk)).setIfInBounds 12 (.int .i64 0) = cs at *
  have d5 := (K6.b.cell 5).trans (show _ = some (.bool bt) from K6.c.h5)
  have d11 := (K6.b.cell 11).trans (show _ = some (.int .i64 wk) from K6.c.h11)
  have d12 := (K6.b.cell 12).trans (show _ = some (.int .i64 0) from K6.c.h12)
  have fr11 := K6.b.free 11
  have fr12 := K6.b.free 12
  go_upto_if 50 with fail
  go_cut [] (fun wx => ∃ cx pr pn, pr = (if bt = true then 0 else wk) ∧ pn = (if bt = true then wk else 0) ∧ Pn w cx ⟨F, M, 0, cc, 0, tt, 0, 0, pr, pn, q0, 0, vt, fr, bt, nt, np, nq, nr⟩ wx)
  case first =>
    cases bt
    · go_wp2
      go_meet
      exact ⟨_, _, _, rfl, rfl, K6⟩
    · go_wp2
      go_meet
      have Z11 := K6.put 11 _ (K6.c.set11 0)
      exact ⟨_, _, _, rfl, rfl, Z11.put 12 _ (Z11.c.set12 wk)⟩
  case rest =>
  clear K6 d5 d11 d12 fr11 fr12
  obtain ⟨cx, pr, pn, hpr, hpn, K6⟩ := hcut
  have HPP : Hid (pr = (if bt = true then 0 else wk) ∧ pn = (if bt = true then wk else 0)) := ⟨hpr, hpn⟩
  clear hpr hpn
  generalize wc = W6 at *
  have d := (K6.b.cell 16).trans (show _ = some _ from (K6.c.h16).choose_spec.choose_spec)
  have fr6 := K6.b.free 16
  go_wp2_with fail
  have hs := spanV_bd p 1 3 (by omega)
  refine (span_any p 1 3 W6 HP.out.1.1 HP.out.1.2 (by omega) (by omega) (by omega)).mono ?_
  rintro e W6 ⟨rfl, rfl⟩
  generalize spanV p 1 3 = sp at *
  go_wp2_with fail
  refine (filled_i (16384 * sp) (by omega) (by omega) _ W6).mono ?_
  rintro e V6 ⟨g, np', P, hn', hl, hy, rfl, hg, ho, hb⟩
  have hZ := K6.z.lt
  have KV := K6.below hb
  have fr6' := KV.b.free 16
  have d' := (KV.b.cell 16).trans ((K6.b.cell 16).symm.trans d)
  go_upto_region 11 with fail
  have K7 : Pn w (cx.setIfInBounds 16 (.slice (some ⟨g, 0, none⟩) np' np')) ⟨F, M, 0, cc, 0, tt, 0, 0, pr, pn, q0, 0, vt, fr, bt, nt, np', nq, nr⟩ (V6.setCell ⟨w.heap.size, 16, none⟩ (.slice (some ⟨g, 0, none⟩) np' np')) := KV.put 16 _ (KV.c.set16 _ _ _ (by omega))
  have N16 : Ls (w.heap.size + 2) (V6.setCell ⟨w.heap.size, 16, none⟩ (.slice (some ⟨g, 0, none⟩) np' np')) (cx.setIfInBounds 16 (.slice (some ⟨g, 0, none⟩) np' np')) 16 P := Ls.new hl (by rw [KV.c.size]; decide) ho (by omega) (by omega) hy
  have HL16 : Hid (P.length = np') := hl
  clear K6 KV d d' fr6 fr6' hb ho hl hy hg hZ 
  generalize V6.setCell ⟨w.heap.size, 16, none⟩ (.slice (some ⟨g, 0, none⟩) np' np') = W7 at *
  generalize cx.setIfInBounds 16 (.slice (some ⟨g, 0, none⟩) np' np') = cx7 at *
  have L16 := N16
  clear N16
  have HNP : Hid (∃ j : Nat, 1 ≤ j ∧ j ≤ 3 ∧ np' = 16384 * j) := ⟨sp.toNat, by omega, by omega, by omega⟩
  clear hn' hs
  have d := (K7.b.cell 17).trans (show _ = some _ from (K7.c.h17).choose_spec.choose_spec)
  have fr7 := K7.b.free 17
  go_wp2_with fail
  have hs := spanV_bd q 0 2 (by omega)
  refine (span_any q 0 2 W7 HP.out.2.1.1 HP.out.2.1.2 (by omega) (by omega) (by omega)).mono ?_
  rintro e W7 ⟨rfl, rfl⟩
  generalize spanV q 0 2 = sq at *
  go_wp2_with fail
  refine (filled_i (8192 * sq) (by omega) (by omega) _ W7).mono ?_
  rintro e V7 ⟨g, nq', Q, hn', hl, hy, rfl, hg, ho, hb⟩
  have hZ := K7.z.lt
  have KV := K7.below hb
  have fr7' := KV.b.free 17
  have d' := (KV.b.cell 17).trans ((K7.b.cell 17).symm.trans d)
  have LV16 := L16.below hb
  go_upto_region 12 with fail
  have K8 : Pn w (cx7.setIfInBounds 17 (.slice (some ⟨g, 0, none⟩) nq' nq')) ⟨F, M, 0, cc, 0, tt, 0, 0, pr, pn, q0, 0, vt, fr, bt, nt, np', nq', nr⟩ (V7.setCell ⟨w.heap.size, 17, none⟩ (.slice (some ⟨g, 0, none⟩) nq' nq')) := KV.put 17 _ (KV.c.set17 _ _ _ (by omega))
  have N17 : Ls (w.heap.size + 2) (V7.setCell ⟨w.heap.size, 17, none⟩ (.slice (some ⟨g, 0, none⟩) nq' nq')) (cx7.setIfInBounds 17 (.slice (some ⟨g, 0, none⟩) nq' nq')) 17 Q := Ls.new hl (by rw [KV.c.size]; decide) ho (by omega) (by omega) hy
  have N16 := LV16.put (m := w.heap.size) (by omega) (j := 17) (by decide) (.slice (some ⟨g, 0, none⟩) nq' nq')
  have HL17 : Hid (Q.length = nq') := hl
  clear K7 KV d d' fr7 fr7' hb ho hl hy hg hZ L16 LV16
  generalize V7.setCell ⟨w.heap.size, 17, none⟩ (.slice (some ⟨g, 0, none⟩) nq' nq') = W8 at *
  generalize cx7.setIfInBounds 17 (.slice (some ⟨g, 0, none⟩) nq' nq') = cx8 at *
  have L17 := N17
  clear N17
  have L16 := N16
  clear N16
  have HNQ : Hid (∃ j : Nat, j ≤ 2 ∧ nq' = 8192 * j) := ⟨sq.toNat, by omega, by omega⟩
  clear hn' hs
  have d := (K8.b.cell 13).trans (show _ = some (.int .i64 q0) from K8.c.h13)
  have frx := K8.b.free 13
  go_upto_region 13 with fail
  have K9 : Pn w (cx8.setIfInBounds 13 (.int .i64 0)) ⟨F, M, 0, cc, 0, tt, 0, 0, pr, pn, 0, 0, vt, fr, bt, nt, np', nq', nr⟩ (W8.setCell ⟨w.heap.size, 13, none⟩ (.int .i64 0)) := K8.put 13 _ (K8.c.set13 0)
  have N16 := L16.put (m := w.heap.size) (by omega) (j := 13) (by decide) (.int .i64 0)
  have N17 := L17.put (m := w.heap.size) (by omega) (j := 13) (by decide) (.int .i64 0)
  clear K8 L16 L17 d frx
  generalize W8.setCell ⟨w.heap.size, 13, none⟩ (.int .i64 0) = W9 at *
  generalize cx8.setIfInBounds 13 (.int .i64 0) = cx9 at *
  have L16 := N16
  have L17 := N17
  clear N16 N17
  obtain ⟨a17, k17, e17⟩ := K9.c.h17
  have d := (K9.b.cell 17).trans (show _ = some (.slice a17 nq' k17) from e17)
  have d13 := (K9.b.cell 13).trans (show _ = some (.int .i64 0) from K9.c.h13)
  have frx := K9.b.free 13
  have hnq : nq' ≤ 16384 := by obtain ⟨j, h1, h2⟩ := HNQ.out; omega
  clear e17
  go_upto_if 71 with fail
  go_cut [] (fun wx => ∃ cx cr, cr = (if nq' = 0 then (8192 : Int) else 0) ∧ Pn w cx ⟨F, M, 0, cc, 0, tt, 0, 0, pr, pn, cr, 0, vt, fr, bt, nt, np', nq', nr⟩ wx ∧ Ls (w.heap.size + 2) wx cx 16 P ∧ Ls (w.heap.size + 2) wx cx 17 Q)
  case first =>
    by_cases hz : nq' = 0
    · have hz' : ((nq' : Int) == 0) = true := by simp [hz]
      have HZ : Hid (nq' = 0) := hz
      clear hz
      go_wp2
      go_meet
      exact ⟨_, _, by rw [if_pos HZ.out], K9.put 13 _ (K9.c.set13 8192), L16.put (m := w.heap.size) (by omega) (j := 13) (by decide) _, L17.put (m := w.heap.size) (by omega) (j := 13) (by decide) _⟩
    · have hz' : ((nq' : Int) == 0) = false := by simp [hz]
      have HZ : Hid (¬ nq' = 0) := hz
      clear hz
      go_wp2
      go_meet
      exact ⟨_, _, by rw [if_neg HZ.out], K9, L16, L17⟩
  case rest =>
  clear K9 L16 L17 d d13 frx
  obtain ⟨cx, cr, hcr, K9, L16, L17⟩ := hcut
  have HCR : Hid (cr = (if nq' = 0 then (8192 : Int) else 0)) := hcr
  clear hcr hnq
  generalize wc = W9 at *
  obtain ⟨a15, k15, e15⟩ := K9.c.h15
  have d := (K9.b.cell 15).trans (show _ = some (.slice a15 nt k15) from e15)
  have fr9 := K9.b.free 15
  have E15 : Hid (cx[15]? = some (.slice a15 nt k15)) := e15
  have MT : Hid (nt ≤ 140737488351232) := K9.c.mt
  clear e15
  go_upto_if 76 with fail
  go_cut [] (fun wx => ∃ cx nt' T, (nt' = 0 ∨ nt' = 512) ∧ T.length = nt' ∧ Pn w cx ⟨F, M, 0, cc, 0, tt, 0, 0, pr, pn, cr, 0, vt, fr, bt, nt', np', nq', nr⟩ wx ∧ Ls (w.heap.size + 2) wx cx 15 T ∧ Ls (w.heap.size + 2) wx cx 16 P ∧ Ls (w.heap.size + 2) wx cx 17 Q)
  case first =>
    by_cases hz : nt = 0
    · subst hz
      go_wp2
      go_meet
      exact ⟨_, 0, [], .inl rfl, rfl, K9, Ls.empty ⟨_, _, E15.out⟩, L16, L17⟩
    · have hz' : (0 : Int) < (nt : Int) := by omega
      go_wp2_with fail
      refine (filled_i 512 (by omega) (by omega) _ W9).mono ?_
      rintro e V9 ⟨g, nt', T, hn', hl, hy, rfl, hg, ho, hb⟩
      have hZ := K9.z.lt
      have KV := K9.below hb
      have fr9' := KV.b.free 15
      have d' := (KV.b.cell 15).trans ((K9.b.cell 15).symm.trans d)
      have LV16 := L16.below hb
      have LV17 := L17.below hb
      have HG : Hid (W9.heap.size ≤ g ∧ w.heap.size + 1 < W9.heap.size) := ⟨hg, hZ⟩
      have HT : Hid ((nt' : Int) = 512 ∧ T.length = nt' ∧ Bytes T) := ⟨hn', hl, hy⟩
      clear hg hZ hn' hl hy
      go_wp2
      go_meet
      have hn := HT.out.1
      have hG := HG.out
      exact ⟨_, nt', T, .inr (by omega), HT.out.2.1, KV.put 15 _ (KV.c.set15 _ _ _ (by omega)), Ls.new HT.out.2.1 (by rw [KV.c.size]; decide) ho (by omega) (by omega) HT.out.2.2, LV16.put (m := w.heap.size) (by omega) (j := 15) (by decide) _, LV17.put (m := w.heap.size) (by omega) (j := 15) (by decide) _⟩
  case rest =>
  clear K9 L16 L17 d fr9 E15 MT
  obtain ⟨cy, nt', T, hnt, hTl, K9, L15, L16, L17⟩ := hcut
  have HTT : Hid ((nt' = 0 ∨ nt' = 512) ∧ T.length = nt') := ⟨hnt, hTl⟩
  clear hnt hTl
  generalize wc = W9 at *
  have d := (K9.b.cell 18).trans (show _ = some _ from (K9.c.h18).choose_spec.choose_spec)
  have fr9 := K9.b.free 18
  go_wp2_with fail
  have hs := spanV_bd fill 0 9 (by omega)
  refine (span_any fill 0 9 W9 HP.out.2.2.1 HP.out.2.2.2 (by omega) (by omega) (by omega)).mono ?_
  rintro e W9 ⟨rfl, rfl⟩
  generalize spanV fill 0 9 = sr at *
  go_wp2_with fail
  refine (filled_i sr (by omega) (by omega) _ W9).mono ?_
  rintro e V9 ⟨g, nr', R, hn', hl, hy, rfl, hg, ho, hb⟩
  have hZ := K9.z.lt
  have KV := K9.below hb
  have fr9' := KV.b.free 18
  have d' := (KV.b.cell 18).trans ((K9.b.cell 18).symm.trans d)
  have LV15 := L15.below hb
  have LV16 := L16.below hb
  have LV17 := L17.below hb
  go_upto_region 18 with fail
  have K10 : Pn w (cy.setIfInBounds 18 (.slice (some ⟨g, 0, none⟩) nr' nr')) ⟨F, M, 0, cc, 0, tt, 0, 0, pr, pn, cr, 0, vt, fr, bt, nt', np', nq', nr'⟩ (V9.setCell ⟨w.heap.size, 18, none⟩ (.slice (some ⟨g, 0, none⟩) nr' nr')) := KV.put 18 _ (KV.c.set18 _ _ _ (by omega))
  have N18 : Ls (w.heap.size + 2) (V9.setCell ⟨w.heap.size, 18, none⟩ (.slice (some ⟨g, 0, none⟩) nr' nr')) (cy.setIfInBounds 18 (.slice (some ⟨g, 0, none⟩) nr' nr')) 18 R := Ls.new hl (by rw [KV.c.size]; decide) ho (by omega) (by omega) hy
  have N15 := LV15.put (m := w.heap.size) (by omega) (j := 18) (by decide) (.slice (some ⟨g, 0, none⟩) nr' nr')
  have N16 := LV16.put (m := w.heap.size) (by omega) (j := 18) (by decide) (.slice (some ⟨g, 0, none⟩) nr' nr')
  have N17 := LV17.put (m := w.heap.size) (by omega) (j := 18) (by decide) (.slice (some ⟨g, 0, none⟩) nr' nr')
  have HL18 : Hid (R.length = nr') := hl
  clear K9 KV d d' fr9 fr9' hb ho hl hy hg hZ L15 LV15 L16 LV16 L17 LV17
  generalize V9.setCell ⟨w.heap.size, 18, none⟩ (.slice (some ⟨g, 0, none⟩) nr' nr') = W10 at *
  generalize cy.setIfInBounds 18 (.slice (some ⟨g, 0, none⟩) nr' nr') = cx10 at *
  have L18 := N18
  clear N18
  have L15 := N15
  clear N15
  have L16 := N16
  clear N16
  have L17 := N17
  clear N17
  have HNR : Hid (nr' ≤ 9) := by unfold Hid; omega
  have S := K10.c.size
  have HS : Hid (cx10.size = 19 ∧ cx10.all (·.oneCell') = true) := ⟨K10.c.size, K10.c.one⟩
  clear S hn' hs
  go_wp2_with (first
    | refine wpList_load_mid rfl 24 _ rfl w.heap.size 0 rfl cx10.toList _ K10.b.range Tryd.underlying24 rfl (by rw [Array.length_toList, HS.out.1]; exact Tryd.infoCart) ?_
    | refine wpList_store_mid rfl 24 _ _ rfl (w.heap.size + 1) 0 cx10 rfl rfl (by exact K10.z.there _ HS.out.1.symm) (by rw [HS.out.1]; exact Tryd.infoCart) HS.out.2 ?_)
  have TH : Th ⟨F, M, 0, cc, 0, tt, 0, 0, pr, pn, cr, 0, vt, fr, bt, nt', np', nq', nr'⟩ := by
    obtain ⟨hM, hC, hT⟩ := HB.out
    obtain ⟨hk7, hk0, -⟩ := HW.out
    refine ⟨by show F = 0 ∨ F = 1; omega, hM, rfl, hC, rfl, hT, rfl, rfl, rfl, ⟨kk, hk7, hk0, ?_, ?_⟩, HNP.out, HNQ.out, HCR.out, HTT.out.1, HNR.out⟩
    · show pr = _; rw [HPP.out.1, HWK.out]
    · show pn = _; rw [HPP.out.2, HWK.out]
  refine ret_agg1 (m := w.heap.size + 1) (L := cx10) Tryd.results17 rfl (K10.z.setAll (L := cx10) (by rw [HS.out.1]; rfl)) Tryd.underlying24 rfl (by rw [HS.out.1]; exact Tryd.infoCart) ?_
  exact ⟨_, _, T, P, Q, R, rfl, K10.c, TH, HTT.out.2, HL16.out, HL17.out, HL18.out, (L15.puts (m := w.heap.size + 1) (by omega) _ _).low (by omega), (L16.puts (m := w.heap.size + 1) (by omega) _ _).low (by omega), (L17.puts (m := w.heap.size + 1) (by omega) _ _).low (by omega), (L18.puts (m := w.heap.size + 1) (by omega) _ _).low (by omega), setCells_below (by omega) _ _ _ _ K10.bl⟩
end Go.Proofs.YtmigejcfgmalpaaDoor
