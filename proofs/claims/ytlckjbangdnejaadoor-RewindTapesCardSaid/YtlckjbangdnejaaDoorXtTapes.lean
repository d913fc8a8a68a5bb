/-
  The law RewindTapes returns true.
-/
import Derived.Test.YtlckjbangdnejaaDoorXtAnsP
set_option linter.unusedSimpArgs false
set_option linter.unusedVariables false
namespace Go.Proofs.YtlckjbangdnejaaDoor
open Go.RowKit Classical
theorem ans_all (w0 : World) (t K u : Nat) (FP FU : Nat → Prop) (Ss : List (List Nat)) (kd nn : Int) (ea : Option Addr) (y ek : Nat) (P : List Nat) (hP : Bytes P ∧ P.length = y) (hy : y ≤ 140737488351232) (W : World) (h : Tu w0 t K u FP FU Ss W) (hK : K ≤ 4095) (hR : Row w0 ea P) (tab : Tab w0) :
    Calls Tryd.prog 23 #[.pointer (some ⟨t, 0, none⟩), .pointer (some ⟨u, 0, none⟩), .agg #[.int .i64 kd, .int .i64 nn, .slice ea y ek]] W fun e W' => e = .returned (.bool true) ∧ ∃ FQ GQ Ts, Tu w0 t K u FQ GQ Ts W' := by
  by_cases h1 : kd = 1
  · subst h1; exact ans_1 w0 t K u FP FU Ss nn ea y ek P hP hy W h hK hR tab
  by_cases h2 : kd = 2
  · subst h2
    refine (ans_2 w0 t K u FP FU Ss nn ea y ek W h hK).mono ?_
    rintro e W' ⟨he, FQ, Ts, hT⟩
    exact ⟨he, FQ, FU, Ts, hT⟩
  by_cases h3 : kd = 3
  · subst h3
    refine (ans_3 w0 t K u FP FU Ss nn ea y ek W h hK).mono ?_
    rintro e W' ⟨he, hT⟩
    exact ⟨he, FP, FU, Ss, hT⟩
  by_cases h4 : kd = 4
  · subst h4
    refine (ans_4 w0 t K u FP FU Ss nn ea y ek W h hK).mono ?_
    rintro e W' ⟨he, hT⟩
    exact ⟨he, FP, FU, Ss, hT⟩
  by_cases h5 : kd = 5
  · subst h5
    refine (ans_5 w0 t K u FP FU Ss nn ea y ek W h hK).mono ?_
    rintro e W' ⟨he, hT⟩
    exact ⟨he, FP, FU, Ss, hT⟩
  refine (ans_other _ _ kd nn ea y ek W h1 h2 h3 h4 h5).mono ?_
  rintro e W' ⟨he, hb⟩
  exact ⟨he, FP, FU, Ss, h.on hb⟩
theorem nil_all (kd nn : Int) (ea : Option Addr) (y ek : Nat) (P : List Nat) (hP : Bytes P ∧ P.length = y) (hy : y ≤ 140737488351232) (W : World) (hR : Row W ea P) :
    Calls Tryd.prog 23 #[.pointer none, .pointer none, .agg #[.int .i64 kd, .int .i64 nn, .slice ea y ek]] W fun e W' => e = .returned (.bool true) ∧ Below W.heap.size W W' := by
  by_cases h1 : kd = 1
  · subst h1; exact nil_1 nn ea y ek P hP hy W hR
  by_cases h2 : kd = 2
  · subst h2; exact nil_2 nn ea y ek W
  by_cases h3 : kd = 3
  · subst h3; exact nil_3 nn ea y ek W
  by_cases h4 : kd = 4
  · subst h4; exact nil_4 nn ea y ek W
  by_cases h5 : kd = 5
  · subst h5; exact nil_5 nn ea y ek W
  exact ans_other _ _ kd nn ea y ek W h1 h2 h3 h4 h5
set_option maxRecDepth 100000 in
set_option maxHeartbeats 6400000 in
theorem tapes_law (n0 : Int) (hn0 : -9223372036854775808 ≤ n0 ∧ n0 ≤ 9223372036854775807) (a : Option Addr) (len cap : Nat) (KD N : Nat → Int) (E : Nat → Option Addr) (C : Nat → Nat) (L : Nat → List Nat) (b o : Nat) (hlen : len ≤ 9223372036854775807) (w : World) (HS : Sts w a len KD N E C L b o) (hre : ∀ i, i < len → (L i).length ≤ 140737488351232) (tab : Tab w) :
    Calls Tryd.prog 7 #[.int .i64 n0, .slice a len cap] w fun e w' => e = .returned (.bool true) ∧ Below w.heap.size w w' := by
  have HR : Hid (∀ W, Below w.heap.size w W → Sts W a len KD N E C L b o) := fun W h => HS.below h
  have HS0 : Hid (Sts w a len KD N E C L b o ∧ Tab w) := ⟨HS, tab⟩
  have HRE : Hid (∀ i, i < len → (L i).length ≤ 140737488351232) := hre
  clear HS tab hre
  go_enter Tryd.func7, Tryd.ntmps7
  by_cases hbad : n0 < 1 ∨ 4096 < n0
  · have HBAD : Hid (n0 < 1 ∨ 4096 < n0) := hbad
    clear hbad
    go_wp2_with fail
    refine (tape_no n0 HBAD.out w).mono ?_
    rintro e w1 ⟨rfl, rfl⟩
    go_wp2_with fail
    refine (dnew_bad n0 HBAD.out w1).mono ?_
    rintro e w2 ⟨rfl, rfl⟩
    go_wp2
    go_ret
    exact ⟨rfl, Below.refl _ _⟩
  · obtain ⟨c, rfl⟩ : ∃ c : Nat, n0 = (c : Int) := ⟨n0.toNat, by omega⟩
    have hc : 1 ≤ c ∧ c ≤ 4096 := by omega
    clear hbad hn0
    go_wp2_with fail
    refine (new_in c (by omega) (by omega) w).mono ?_
    rintro e w1 ⟨t, rfl, T1, b1⟩
    have HM1 : Hid (Tp (Fp w w1) t (c - 1) [] w1 ∧ Below w.heap.size w w1) := ⟨T1, b1⟩
    clear T1 b1
    go_wp2_with fail
    refine (dnew_good c (by omega) (by omega) w1).mono ?_
    rintro e w2 ⟨u, rfl, T2, b2⟩
    obtain ⟨K, hK⟩ : ∃ K, c - 1 = K := ⟨_, rfl⟩
    have hc1 : c = K + 1 := by omega
    have HTU : Hid (Tu w t K u (Fp w w1) (Fp w1 w2) [] w2) := by
      have h1 := HM1.out.1
      rw [hK] at h1
      have hb1 := HM1.out.2.size
      have hb2 := b2.size
      refine ⟨h1.below (fun k hk => hk.2) b2, by rw [List.reverse_nil, ← hc1]; exact T2, fun k hk => ⟨hk.1, by have := hk.2; omega⟩, fun k hk => ⟨by have := hk.1; omega, hk.2⟩, fun k hk h => by have := hk.2; have := h.1; omega, HM1.out.2.trans (b2.mono hb1)⟩
    have hK4 : K ≤ 4095 := by omega
    clear T2 b2 HM1 hK hc1 hc
    go_upto_region 10 with fail
    go_loopw [11] (fun i wr => ∃ (j : Nat) (FP FU : Nat → Prop) (Ss : List (List Nat)), j ≤ len ∧ i = .int .i64 j ∧ Hid (Tu w t K u FP FU Ss wr)) (fun i _ => len - (intOf i).toNat)
    case atStart => exact ⟨0, _, _, [], by omega, rfl, HTU⟩
    case round =>
      clear HTU
      obtain ⟨j, FP, FU, Ss, hj, rfl, hI⟩ := hrel
      obtain ⟨wq, rfl⟩ : ∃ x, x = wr := ⟨_, rfl⟩
      by_cases hjl : j < len
      · have ijl : (j : Int) < (len : Int) := by omega
        have hS := HR.out _ hI.out.b
        obtain rfl := hS.at_ (by omega)
        have hSw := HS0.out.1
        obtain ⟨y, hy⟩ : ∃ y, (L j).length = y := ⟨_, rfl⟩
        have hy9 : y ≤ 140737488351232 := by rw [← hy]; exact HRE.out j hjl
        have HRG : Hid (∀ W, Below w.heap.size w W → W.rangeAt b (o + j * 3) [.int .i64 (KD j), .int .i64 (N j), .slice (E j) y (C j)]) := fun W hb q v hv => by
          obtain ⟨c0, c1, c2⟩ := (HR.out W hb).cells j hjl
          rw [hy] at c2
          match q, hv with
          | 0, hv => simp at hv; subst hv; exact c0
          | 1, hv => simp at hv; subst hv; exact c1
          | 2, hv => simp at hv; subst hv; exact c2
        have HA : Hid (Calls Tryd.prog 23 #[.pointer (some ⟨t, 0, none⟩), .pointer (some ⟨u, 0, none⟩), .agg #[.int .i64 (KD j), .int .i64 (N j), .slice (E j) y (C j)]] wq fun e W' => e = .returned (.bool true) ∧ ∃ FQ GQ Ts, Tu w t K u FQ GQ Ts W') :=
          ans_all w t K u FP FU Ss (KD j) (N j) (E j) y (C j) (L j) ⟨(hSw.rows j hjl).2.1, hy⟩ hy9 wq hI.out hK4 (hSw.rows j hjl).1 HS0.out.2
        have HNL : Hid (∀ W, Below w.heap.size w W → Calls Tryd.prog 23 #[.pointer none, .pointer none, .agg #[.int .i64 (KD j), .int .i64 (N j), .slice (E j) y (C j)]] W fun e W' => e = .returned (.bool true) ∧ Below W.heap.size W W') := fun W hb =>
          nil_all (KD j) (N j) (E j) y (C j) (L j) ⟨(hSw.rows j hjl).2.1, hy⟩ hy9 W ((hSw.rows j hjl).1.below hb)
        have hR1 := HRG.out wq hI.out.b
        have HR1 : Hid (wq.rangeAt b (o + j * 3) [.int .i64 (KD j), .int .i64 (N j), .slice (E j) y (C j)]) := hR1
        clear hS hSw hy hR1
        generalize KD j = kd at *
        generalize N j = nj at *
        go_upto_region 12 with fail
        go_wp2_with (refine wpList_load_mid rfl 38 _ rfl b (o + j * 3) rfl [.int .i64 kd, .int .i64 nj, .slice (E j) y (C j)] _ HR1.out Tryd.underlying38 rfl (by kernel_rfl) ?_)
        refine HA.out.mono ?_
        rintro e w2 ⟨rfl, FQ, GQ, Ts, hI2⟩
        have HI2 : Hid (Tu w t K u FQ GQ Ts w2) := hI2
        have HR2 : Hid (w2.rangeAt b (o + j * 3) [.int .i64 kd, .int .i64 nj, .slice (E j) y (C j)]) := HRG.out w2 hI2.b
        clear hI2 HR1 HA hI
        go_upto_region 15 with fail
        go_wp2_with (refine wpList_load_mid rfl 38 _ rfl b (o + j * 3) rfl [.int .i64 kd, .int .i64 nj, .slice (E j) y (C j)] _ HR2.out Tryd.underlying38 rfl (by kernel_rfl) ?_)
        refine (HNL.out w2 HI2.out.b).mono ?_
        rintro e w3 ⟨rfl, b3⟩
        have HI3 : Hid (Tu w t K u FQ GQ Ts w3) := HI2.out.on b3
        clear b3 HI2 HR2 HNL HRG
        go_wp2
        go_roundw
        case rel => exact ⟨j + 1, FQ, GQ, Ts, by omega, by go_num, HI3⟩
        case measure => simp [intOf]; omega
      · obtain rfl : j = len := by omega
        go_upto_region 18 with fail
        go_wp2_with fail
        refine (len_any FP t K Ss wq hI.out.t1).mono ?_
        rintro e w2 ⟨rfl, rfl⟩
        go_wp2_with fail
        refine (dlen_any FU u (K + 1) Ss.reverse _ hI.out.t2).mono ?_
        rintro e w3 ⟨rfl, rfl⟩
        rw [List.length_reverse]
        go_wp2_with fail
        refine (bytes_any FP t K Ss _ hI.out.t1).mono ?_
        rintro e w4 ⟨rfl, nq, rfl⟩
        have HI4 : Hid (Tu w t K u FP FU Ss (w3.drewN nq)) := hI.out.on (below_drawsX (Below.refl _ _) nq)
        clear hI
        generalize w3.drewN nq = w4 at *
        go_wp2_with fail
        refine (dbytes_any FU u (K + 1) Ss.reverse _ HI4.out.t2 (by omega)).mono ?_
        rintro e w5 ⟨rfl, b5⟩
        rw [List.reverse_reverse]
        have HB5 : Hid (Below w.heap.size w w5) := (HI4.out.on b5).b
        clear HI4 b5
        generalize byt Ss = nb at *
        generalize Ss.length = nl at *
        go_wp2
        go_ret
        exact ⟨rfl, HB5.out⟩
end Go.Proofs.YtlckjbangdnejaaDoor
