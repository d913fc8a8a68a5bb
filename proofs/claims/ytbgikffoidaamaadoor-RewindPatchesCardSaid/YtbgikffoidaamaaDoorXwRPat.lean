/-
  The document's Patch of any two lists of bytes.
-/
import Derived.Test.YtbgikffoidaamaaDoorXwRRead
set_option linter.unusedSimpArgs false
set_option linter.unusedVariables false
namespace Go.Proofs.YtbgikffoidaamaaDoor
open Go.RowKit Classical
theorem rpatch_long (nf nd kf kd : Nat) (a ad : Option Addr) (h : 65536 < nf) (w : World) :
    Calls Tryd.prog 14 #[.slice a nf kf, .slice ad nd kd] w fun e w' => e = .returned (.tuple #[.slice none 0 0, .int .i64 1]) ∧ w' = w := by
  have i1 : (65536 : Int) < (nf : Int) := by omega
  go_enter Tryd.func14, Tryd.ntmps14
  go_wp2
  go_ret2
  exact ⟨rfl, rfl⟩
set_option maxRecDepth 100000 in
set_option maxHeartbeats 6400000 in
theorem rpatch_any (F D : List Nat) (nf nd kf kd : Nat) (a ad : Option Addr) (hF : Bytes F) (hD : Bytes D) (hnf : F.length = nf) (hnd : D.length = nd) (lf : nf ≤ 65536) (ld : nd ≤ 281474976710656) (w : World)
    (RF : Row w a F) (RD : Row w ad D) :
    Calls Tryd.prog 14 #[.slice a nf kf, .slice ad nd kd] w (PaOk w F D) := by
  have HN : Hid (F.length = nf ∧ D.length = nd) := ⟨hnf, hnd⟩
  have HB : Hid (Bytes F ∧ Bytes D) := ⟨hF, hD⟩
  have HR : Hid (∀ W, Below w.heap.size w W → Row W a F ∧ Row W ad D) := fun W h => ⟨RF.below h, RD.below h⟩
  have HRD : Hid (Row w ad D) := RD
  have HBW : Hid (Below w.heap.size w w) := Below.refl _ _
  have i1 : ¬ (65536 : Int) < (nf : Int) := by omega
  have HFL : Hid (F.length ≤ 65536) := by unfold Hid; rw [hnf]; exact lf
  by_cases hd2 : nd < 2
  · have HNO : Hid (∀ T2, Good T2 → D ≠ diffL F T2) := fun T2 hG e => by
      have := (diffL_len HFL.out hG.2).1
      rw [← e] at this; omega
    have i2 : (nd : Int) < 2 := by omega
    clear hF hD hnf hnd RF RD
    go_enter Tryd.func14, Tryd.ntmps14
    go_wp2
    go_ret2
    exact ⟨HBW.out, .inl ⟨rfl, HNO.out⟩⟩
  have i2 : ¬ (nd : Int) < 2 := by omega
  have HR1 : Hid (Rq w (w.alloc (.cells #[.slice ad nd kd, .int .i64 ((2 : Nat) : Int), .bool false] 46)) w.heap.size ad nd kd D 2 false) := ⟨Blk.new w _ _, hnd, by omega, RD⟩
  have HW1 : Hid (Below w.heap.size w (w.alloc (.cells #[.slice ad nd kd, .int .i64 ((2 : Nat) : Int), .bool false] 46))) := (Below.refl _ _).alloc (Nat.le_refl _) _
  clear hF hD hnf hnd RF RD
  go_enter Tryd.func14, Tryd.ntmps14
  go_upto_region 6 with fail
  rw [show (2 : Int) = ((2 : Nat) : Int) from rfl]
  generalize w.alloc (.cells #[.slice ad nd kd, .int .i64 ((2 : Nat) : Int), .bool false] 46) = w1 at *
  have hwr : w.heap.size ≤ w.heap.size := Nat.le_refl _
  go_wp2_with fail
  refine (rnum_any w w.heap.size ad nd kd D 2 false ld HB.out.2 hwr w1 HW1.out HR1.out).mono ?_
  rintro e w2 ⟨m2, p2, b2, rfl, hm2, G2, hR2, hf2, ht2⟩
  have HR2 : Hid (Rq w w2 w.heap.size ad nd kd D p2 b2) := hR2
  have HF2 : Hid ((b2 = false → RwM.rdN 4 (D.drop 2) = some (m2, D.drop p2)) ∧ ∀ q, RwM.rdN 4 (D.drop 2) = some q → b2 = false) := ⟨fun h => (hf2 h).2, fun q => ht2 q rfl⟩
  have HW2 : Hid (Below w.heap.size w w2) := HW1.out.grown G2 HW1.out.size (fun q hq => by cases hq; exact hwr)
  clear hR2 hf2 ht2 G2 HR1 HW1
  go_upto_region 7 with fail
  go_wp2_with fail
  refine (rnum_any w w.heap.size ad nd kd D p2 b2 ld HB.out.2 hwr w2 HW2.out HR2.out).mono ?_
  rintro e w4 ⟨n, p4, b4, rfl, hm4, G4, hR4, hf4, ht4⟩
  have HR4 : Hid (Rq w w4 w.heap.size ad nd kd D p4 b4) := hR4
  have HF4 : Hid ((b4 = false → b2 = false ∧ RwM.rdN 4 (D.drop p2) = some (n, D.drop p4)) ∧ ∀ q, b2 = false → RwM.rdN 4 (D.drop p2) = some q → b4 = false) := ⟨hf4, ht4⟩
  have HW4 : Hid (Below w.heap.size w w4) := HW2.out.grown G4 HW2.out.size (fun q hq => by cases hq; exact hwr)
  have hr4 : w.heap.size < w4.heap.size := hR4.1.lt
  have c4 : w4.cell? ⟨w.heap.size, 2, none⟩ = some (.bool b4) := hR4.1.cell 2
  have HH : Hid (∀ T2, Good T2 → D = diffL F T2 → b4 = false ∧ n ≤ 65536) := by
    intro T2 hG hD
    obtain ⟨h1, q1, q2, e1, e2⟩ := head_reads F T2 HFL.out hG.2
    rw [← hD] at h1 e1
    have e1' := rd_mono _ _ _ e1
    have e2' := rd_mono _ _ _ e2
    have c2 := HF2.out.2 _ e1'
    have d2 := HF2.out.1 c2
    rw [e1'] at d2; cases d2
    have c3 := HF4.out.2 _ c2 e2'
    have d3 := (HF4.out.1 c3).2
    rw [e2'] at d3; cases d3
    exact ⟨c3, hG.2⟩
  have HP : Hid (∀ T2, Good T2 → D = diffL F T2 → n = T2.length ∧ D.drop p4 = RwM.rb (RwM.xr F T2) ++ 0 :: 0 :: sum4 (crc T2)) := by
    intro T2 hG hD
    have e1 := diffL_head F T2
    rw [← hD] at e1
    have e2 := RwM.rd_num 4 F.length (RwM.num T2.length ++ (RwM.rb (RwM.xr F T2) ++ 0 :: 0 :: sum4 (crc T2))) (by have := HFL.out; omega) (by decide)
    rw [← e1] at e2
    have c2 := HF2.out.2 _ e2
    have d2 := HF2.out.1 c2
    rw [e2] at d2
    simp only [Option.some.injEq, Prod.mk.injEq] at d2
    have e3 := RwM.rd_num 4 T2.length (RwM.rb (RwM.xr F T2) ++ 0 :: 0 :: sum4 (crc T2)) (by have := hG.2; omega) (by decide)
    have hdr : D.drop p2 = RwM.num T2.length ++ (RwM.rb (RwM.xr F T2) ++ 0 :: 0 :: sum4 (crc T2)) := d2.2.symm
    rw [← hdr] at e3
    have c3 := HF4.out.2 _ c2 e3
    have d3 := (HF4.out.1 c3).2
    rw [e3] at d3
    simp only [Option.some.injEq, Prod.mk.injEq] at d3
    exact ⟨d3.1.symm, d3.2.symm⟩
  clear hR4 hf4 ht4 HR2 HW2 G4 HF2 HF4
  by_cases hbad : b4 = true ∨ 65536 < n
  · have HN2 : Hid (∀ T2, Good T2 → D ≠ diffL F T2) := fun T2 hG hD => by
      obtain ⟨h1, h2⟩ := HH.out T2 hG hD
      rcases hbad with h | h
      · rw [h1] at h; cases h
      · omega
    by_cases hb4 : b4 = true
    · subst hb4
      clear hbad
      go_wp2
      go_ret2
      exact ⟨HW4.out, .inl ⟨rfl, HN2.out⟩⟩
    · have hs2 : 65536 < n := by rcases hbad with h | h; exact absurd h hb4; exact h
      obtain rfl : b4 = false := by cases b4; rfl; exact absurd rfl hb4
      have i3 : (65536 : Int) < (n : Int) := by omega
      clear hbad hb4
      go_wp2
      go_ret2
      exact ⟨HW4.out, .inl ⟨rfl, HN2.out⟩⟩
  have hs65 : n ≤ 65536 := by omega
  obtain rfl : b4 = false := by
    cases b4 with
    | false => rfl
    | true => exact absurd (Or.inl rfl) hbad
  have i3 : ¬ (65536 : Int) < (n : Int) := by omega
  have HRF4 : Hid (Row w4 a F) := (HR.out _ HW4.out).1
  clear hbad HH
  obtain ⟨i0, hi, hz0, hz1, hz2⟩ := info_parts Tryd.infoU8
  go_upto_region 11 with (at_make; refine wpList_make_full _ rfl _ _ 22 rfl w4.heap.size 5 i0 (.int .u8 0) 1 Tryd.underlying22 hi hz0 hz1 .i64 .i64 _ _ n rfl rfl rfl rfl (by rw [hz2]; omega) (by unfold maxLen; omega) (Nat.le_refl _) ?_; intro w5 hown hgrow)
  have ho := Own.of_row (List.replicate n 0) (vals_zero _) hown
  have hb := (Below.refl w4.heap.size w4).grown hgrow (Nat.le_refl _) (by simp)
  clear hown hgrow hi hz0 hz1 hz2
  obtain ⟨g, hg⟩ : ∃ g, g = w4.heap.size := ⟨_, rfl⟩
  have HO1 : Hid (w5.heap[w4.heap.size]? = some (.cells (vals (List.replicate n 0)).toArray 5 (0, 0))) := ho
  have F1 : Hid ((vals (F.take n)).length = Nat.min nf n) := by unfold Hid; rw [vals_len, List.length_take, HN.out.1]; exact Nat.min_comm n nf
  have F2 : Hid (0 < (vals (F.take n)).length → (some ⟨w4.heap.size, 0, none⟩ : Option Addr) = some ⟨w4.heap.size, 0, none⟩ ∧ ∃ ad, a = some ad ∧ ∀ j v, (vals (F.take n))[j]? = some v → w5.cell? (ad.add j) = some v) := by
    intro h0
    rcases HRF4.out with e | ⟨b, off, e, hc⟩
    · rw [e] at h0; simp [vals] at h0
    refine ⟨rfl, _, e, fun j v hv => ?_⟩
    have hj : j < (F.take n).length := by have := (List.getElem?_eq_some_iff.1 hv).1; rwa [vals_len] at this
    have hj1 : j < F.length := by rw [List.length_take] at hj; omega
    have hj2 : j < n := by rw [List.length_take] at hj; omega
    have h1 := hc j hj1
    have h2 := (hb.cell (p := ⟨b, off + j, none⟩) (cell_lt h1)).trans h1
    rw [Addr.add_lit, h2]
    simp [vals, hj2, hj1] at hv
    rw [← hv]
    simp [hj1]
  have F3 : Hid (0 + (vals (F.take n)).length ≤ (vals (List.replicate n 0)).length) := by unfold Hid; rw [vals_len, vals_len, List.length_take]; simp; omega
  clear ho
  go_upto_region 12 with (refine wpList_copy_splice rfl _ _ 22 22 rfl 5 (by kernel_rfl) (by kernel_rfl) (some ⟨w4.heap.size, 0, none⟩) a n n nf kf rfl rfl w4.heap.size 0 (vals (List.replicate n 0)) 5 HO1.out (vals (F.take n)) F1.out F2.out F3.out (vals_one _) w4.heap.size w4 hb (Nat.le_refl _) ?_; intro w6 hg5 hb6)
  have hg6 := hg5.out
  rw [fit_splice] at hg6
  have HO6 : Hid (Own w6 g (fit F n)) := by rw [hg]; exact hg6
  have HW6 : Hid (Below w.heap.size w w6) := HW4.out.trans (hb6.mono HW4.out.size)
  have HR6 : Hid (Rq w w6 w.heap.size ad nd kd D p4 false) := ⟨HR4.out.1.below hr4 hb6, HR4.out.2⟩
  have HP6 : Hid (PInv F D 0 (D.drop p4) (fit F n)) := fun T2 hG hD => by
    obtain ⟨h1, h2⟩ := HP.out T2 hG hD
    refine ⟨by rw [List.drop_zero]; exact h2, by rw [fit_len]; exact h1, Nat.zero_le _, fun i hi => ?_⟩
    rw [fit_at F n i (by omega), if_neg (by omega)]
  have hgr : g ≠ w.heap.size := by omega
  have hgw : w.heap.size ≤ g := by omega
  rw [← hg]
  clear hg5 hg6 hb6 hb HO1 F1 F2 F3 HR4 HW4 HP c4 HRF4 hg hr4
  go_upto_region 13 with fail
  go_loopw [9] (fun x wr => ∃ (k p : Nat) (LL : List Nat), x = .int .i64 k ∧ k ≤ n ∧ Hid (Rq w wr w.heap.size ad nd kd D p false) ∧ Hid (Own wr g LL) ∧ Hid (Bytes LL ∧ LL.length = n) ∧ Hid (Below w.heap.size w wr) ∧ Hid (PInv F D k (D.drop p) LL)) (fun x _ => n - (intOf x).toNat)
  case atStart => exact ⟨0, p4, fit F n, rfl, by omega, HR6, HO6, ⟨fit_bytes HB.out.1 n, fit_len _ _⟩, HW6, HP6⟩
  case round =>
    obtain ⟨k, p, LL, rfl, hkn, hR, hO, hL, hW, hP⟩ := hrel
    go_wp2_with fail
    refine (rnum_any w w.heap.size ad nd kd D p false ld HB.out.2 hwr wr hW.out hR.out).mono ?_
    rintro e x1 ⟨m1, p1, b1, rfl, hm1, G1, hR1, hf1, ht1⟩
    obtain ⟨k1, hk1⟩ : ∃ k1, k1 = k + m1 := ⟨_, rfl⟩
    have HK1 : Hid (k + m1 = k1) := hk1.symm
    have j1 : (k : Int) + (m1 : Int) = (k1 : Int) := by omega
    have j4 : k ≤ k1 := by omega
    have j5 : k1 ≤ 268501000 := by omega
    clear hk1
    have HR1 : Hid (Rq w x1 w.heap.size ad nd kd D p1 b1) := hR1
    have HF1 : Hid ((b1 = false → RwM.rdN 4 (D.drop p) = some (m1, D.drop p1)) ∧ ∀ q, RwM.rdN 4 (D.drop p) = some q → b1 = false) := ⟨fun h => (hf1 h).2, fun q => ht1 q rfl⟩
    have HW1 : Hid (Below w.heap.size w x1) := hW.out.grown G1 hW.out.size (fun q hq => by cases hq; exact hwr)
    have HO1 : Hid (Own x1 g LL) := (G1.block g hO.out.lt (fun e => hgr (by cases e; rfl))).trans hO.out
    clear hR1 hf1 ht1 G1 hR hO hW
    go_upto_region 14 with fail
    go_wp2_with fail
    refine (rnum_any w w.heap.size ad nd kd D p1 b1 ld HB.out.2 hwr x1 HW1.out HR1.out).mono ?_
    rintro e x2 ⟨m2, p2, b2, rfl, hm2, G2, hR2, hf2, ht2⟩
    have HR2 : Hid (Rq w x2 w.heap.size ad nd kd D p2 b2) := hR2
    have HF2 : Hid ((b2 = false → b1 = false ∧ RwM.rdN 4 (D.drop p1) = some (m2, D.drop p2)) ∧ ∀ q, b1 = false → RwM.rdN 4 (D.drop p1) = some q → b2 = false) := ⟨hf2, ht2⟩
    have HW2 : Hid (Below w.heap.size w x2) := HW1.out.grown G2 HW1.out.size (fun q hq => by cases hq; exact hwr)
    have HO2 : Hid (Own x2 g LL) := (G2.block g HO1.out.lt (fun e => hgr (by cases e; rfl))).trans HO1.out
    have c1 : x2.cell? ⟨w.heap.size, 1, none⟩ = some (.int .i64 (p2 : Nat)) := hR2.1.cell 1
    have c2 : x2.cell? ⟨w.heap.size, 2, none⟩ = some (.bool b2) := hR2.1.cell 2
    have hp2 : p2 ≤ nd := hR2.2.2.1
    have HX : Hid (∀ T2, Good T2 → D = diffL F T2 → b2 = false ∧ k1 + m2 ≤ n ∧ p2 + m2 ≤ nd ∧ (m2 = 0 → T2 = LL) ∧ (1 ≤ m2 → D.drop (p2 + m2) = RwM.rb ((RwM.xr F T2).drop (k1 + m2)) ++ 0 :: 0 :: sum4 (crc T2) ∧ LL.length = T2.length ∧ k1 + m2 ≤ T2.length ∧ ∀ i, i < T2.length → (tn LL ((D.drop p2).take m2) k1).getD i 0 = if i < k1 + m2 then T2.getD i 0 else F.getD i 0)) := by
      intro T2 hG hD
      obtain ⟨z, l, P1, P2, e1, e2, e3, e4, e5, e6⟩ := pinv_next hP.out T2 hG hD
      have e1' := rd_mono _ _ _ e1
      have e2' := rd_mono _ _ _ e2
      have c1 := HF1.out.2 _ e1'
      have d1 := HF1.out.1 c1
      rw [e1'] at d1
      simp only [Option.some.injEq, Prod.mk.injEq] at d1
      obtain ⟨rfl, rfl⟩ := d1
      have c2 := HF2.out.2 _ c1 e2'
      have d2 := (HF2.out.1 c2).2
      rw [e2'] at d2
      simp only [Option.some.injEq, Prod.mk.injEq] at d2
      obtain ⟨rfl, rfl⟩ := d2
      have h1 := hL.out.2
      have h2 := HN.out.2
      rw [List.length_drop] at e3
      rw [HK1.out] at e4 e6
      rw [List.drop_drop] at e6
      exact ⟨c2, by omega, by omega, fun h => (e5 h).symm, e6⟩
    clear hR2 hf2 ht2 G2 HR1 HW1 HO1 HF1 HF2 hP
    by_cases hb2 : b2 = true
    · have HN2 : Hid (∀ T2, Good T2 → D ≠ diffL F T2) := fun T2 hG hD => by
        have := (HX.out T2 hG hD).1
        rw [hb2] at this; cases this
      subst hb2
      go_wp2
      go_ret2
      exact ⟨HW2.out, .inl ⟨rfl, HN2.out⟩⟩
    obtain rfl : b2 = false := by cases b2; rfl; exact absurd rfl hb2
    clear hb2
    by_cases h0 : m2 = 0
    · have HU : Hid (∀ T2, Good T2 → D = diffL F T2 → T2 = LL) := fun T2 hG hD => (HX.out T2 hG hD).2.2.2.1 h0
      have HGL : Hid (Good LL) := ⟨hL.out.1, by rw [hL.out.2]; exact hs65⟩
      subst h0
      clear HX HR2
      go_upto_region 27 with fail
      go_wp2_with fail
      refine (rdiff_any F LL nf n HB.out.1 hL.out.1 HN.out.1 hL.out.2 lf hs65 a (some ⟨g, 0, none⟩) kf n x2 (HR.out _ HW2.out).1 HO2.out.row).mono ?_
      rintro e x3 ⟨v3, rfl, X3, b3⟩
      have HW3 : Hid (Below w.heap.size w x3) := HW2.out.trans (b3.mono HW2.out.size)
      have HO3 : Hid (Own x3 g LL) := HO2.out.below HO2.out.lt b3
      obtain ⟨a3, k3, rfl, hk3, r3, -⟩ := X3.full
      have HR3 : Hid (Row x3 a3 (diffL F LL)) := r3.row
      have HBL : Hid (Bytes (diffL F LL)) := diffL_bytes HB.out.1 hL.out.1
      obtain ⟨nx, hnx⟩ : ∃ nx, (diffL F LL).length = nx := ⟨_, rfl⟩
      have HNX : Hid ((diffL F LL).length = nx) := hnx
      have hx65 : nx ≤ 65560 := by rw [← hnx]; exact (diffL_len HFL.out HGL.out.2).2
      rw [hnx] at hk3 ⊢
      have HNQ : Hid (diffL F LL ≠ D → ∀ T2, Good T2 → D ≠ diffL F T2) := fun h T2 hG hD => by
        rw [HU.out T2 hG hD] at hD
        exact h hD.symm
      clear X3 b3 r3 hnx HW2 HO2 HU
      by_cases hln : nx = nd
      · subst hln
        have hlb : ((nx : Int) == (nx : Int)) = true := beq_self_eq_true _
        have HRDx : Hid (Row x3 ad D) := (HR.out _ HW3.out).2
        go_upto_region 31 with fail
        go_loopw [14] (fun i wr => ∃ j : Nat, j ≤ nx ∧ i = .int .i64 j ∧ Hid (Below x3.heap.size x3 wr) ∧ Hid (∀ q, q < j → (diffL F LL).getD q 0 = D.getD q 0)) (fun i _ => nx - (intOf i).toNat)
        case atStart => exact ⟨0, by omega, rfl, Below.refl _ _, fun q h => by omega⟩
        case round =>
          obtain ⟨j, hj, rfl, hbw, hE⟩ := hrel
          have hbN : ∀ m, Hid (Below x3.heap.size x3 (wr.drewN m)) := fun m => below_drawsX hbw.out m
          by_cases hjn : j < nx
          · have ja : j < (diffL F LL).length := by rw [HNX.out]; exact hjn
            have jb : j < D.length := by rw [HN.out.2]; exact hjn
            rcases HR3.out.below hbw.out with e | ⟨ba, oa, rfl, ca⟩
            · rw [e] at ja; exact absurd ja (Nat.not_lt_zero _)
            rcases HRDx.out.below hbw.out with e | ⟨bb, ob, rfl, cb⟩
            · rw [e] at jb; exact absurd jb (Nat.not_lt_zero _)
            have d1 := ca j ja
            have d2 := cb j jb
            have l1 := bytes_at HBL.out j
            have l2 := bytes_at HB.out.2 j
            have HS1 : Hid ((diffL F LL).getD j 0 ≠ D.getD j 0 → diffL F LL ≠ D) := fun h e => h (by rw [e])
            have HE1 : Hid ((diffL F LL).getD j 0 = D.getD j 0 → ∀ q, q < j + 1 → (diffL F LL).getD q 0 = D.getD q 0) := fun he q hq => by
              by_cases hqj : q = j
              · rw [hqj]; exact he
              · exact hE.out q (by omega)
            have i5 : (j : Int) < (nx : Int) := by omega
            clear ca cb ja jb hE
            generalize (diffL F LL).getD j 0 = y1 at *
            generalize D.getD j 0 = y2 at *
            by_cases hpq : y1 = y2
            · have HE2 := HE1.out hpq
              have HE3 : Hid (∀ q, q < j + 1 → (diffL F LL).getD q 0 = D.getD q 0) := HE2
              clear HE2 HE1 HS1
              subst hpq
              go_upto_region 33 with fail
              go_quiet (skip)
              go_wp2
              go_roundw
              case rel => exact ⟨j + 1, by omega, by go_num, hbN _, HE3⟩
              case measure => simp [intOf]; omega
            · have HS3 : Hid (∀ T2, Good T2 → D ≠ diffL F T2) := HNQ.out (HS1.out hpq)
              have hyb : ((y1 : Int) == (y2 : Int)) = false := by rw [beq_eq_false_iff_ne]; omega
              have HWN : ∀ m, Hid (Below w.heap.size w (wr.drewN m)) := fun m => HW3.out.trans ((hbN m).out.mono HW3.out.size)
              clear HE1 HS1
              go_upto_region 33 with fail
              go_quiet (skip)
              go_wp2
              go_ret2
              exact ⟨(HWN _).out, .inl ⟨rfl, HS3.out⟩⟩
          · obtain rfl : j = nx := by omega
            have HEQ : Hid (D = diffL F LL) := (list_eq (by rw [HNX.out, HN.out.2]) fun q hq => hE.out q (by rw [HNX.out] at hq; exact hq)).symm
            have i5 : ¬ (j : Int) < (j : Int) := by omega
            have HWN : Hid (Below w.heap.size w wr) := HW3.out.trans (hbw.out.mono HW3.out.size)
            have HON : Hid (Own wr g LL) := HO3.out.below HO3.out.lt hbw.out
            go_wp2
            go_ret2
            exact ⟨HWN.out, .inr ⟨g, n, LL, rfl, hL.out.2, hgw, HON.out, HGL.out, HEQ.out⟩⟩
      · have HNL : Hid (∀ T2, Good T2 → D ≠ diffL F T2) := HNQ.out (fun e => hln (by rw [← HNX.out, e]; exact HN.out.2))
        have hlb : ((nx : Int) == (nd : Int)) = false := by rw [beq_eq_false_iff_ne]; omega
        go_wp2
        go_ret2
        exact ⟨HW3.out, .inl ⟨rfl, HNL.out⟩⟩
    · have i5 : ((m2 : Int) == 0) = false := by rw [beq_eq_false_iff_ne]; omega
      by_cases hbad : n < k1 + m2 ∨ nd < p2 + m2
      · have HN2 : Hid (∀ T2, Good T2 → D ≠ diffL F T2) := fun T2 hG hD => by
          obtain ⟨-, h2, h3, -⟩ := HX.out T2 hG hD
          omega
        by_cases hb4 : n < k1 + m2
        · have i6 : (n : Int) < (k1 : Int) + (m2 : Int) := by omega
          clear hbad hb4 HX
          go_wp2
          go_ret2
          exact ⟨HW2.out, .inl ⟨rfl, HN2.out⟩⟩
        · have i6 : ¬ (n : Int) < (k1 : Int) + (m2 : Int) := by omega
          have i7 : (nd : Int) < (p2 : Int) + (m2 : Int) := by omega
          clear hbad hb4 HX
          go_wp2
          go_ret2
          exact ⟨HW2.out, .inl ⟨rfl, HN2.out⟩⟩
      have i6 : ¬ (n : Int) < (k1 : Int) + (m2 : Int) := by omega
      have i7 : ¬ (nd : Int) < (p2 : Int) + (m2 : Int) := by omega
      have hkn2 : k1 + m2 ≤ n := by omega
      have hpn2 : p2 + m2 ≤ nd := by omega
      clear hbad
      rcases HRD.out with e | ⟨bd, od, rfl, hcd⟩
      · have h1 := HN.out.2; rw [e] at h1; simp at h1; omega
      have HCD : Hid (∀ W i, Below w.heap.size w W → i < nd → W.cell? ⟨bd, od + i, none⟩ = some (.int .u8 (D.getD i 0 : Nat))) := fun W i hW hi => by
        have h1 := hcd i (by rw [HN.out.2]; exact hi)
        exact (hW.cell (p := ⟨bd, od + i, none⟩) (cell_lt h1)).trans h1
      obtain ⟨M, hM⟩ : ∃ M, M = (D.drop p2).take m2 := ⟨_, rfl⟩
      have HM : Hid (M.length = m2 ∧ Bytes M ∧ ∀ i, i < m2 → M.getD i 0 = D.getD (p2 + i) 0) := by
        refine ⟨by rw [hM, List.length_take, List.length_drop, HN.out.2]; omega, ?_, fun i hi => ?_⟩
        · rw [hM]; exact bytes_take (fun x hx => HB.out.2 x (List.mem_of_mem_drop hx)) m2
        · rw [hM, getD_take_lt _ hi, getD_drop]
      rw [← hM] at HX
      clear hM hcd
      go_upto_region 22 with fail
      go_loopw [12] (fun i wr => ∃ j : Nat, j ≤ m2 ∧ i = .int .i64 j ∧ Hid (Own wr g (tn LL (M.take j) k1)) ∧ Hid (x2.grownBy wr (some g))) (fun i _ => m2 - (intOf i).toNat)
      case atStart => exact ⟨0, by omega, rfl, by show Own _ _ _; rw [List.take_zero, tn_nil]; exact HO2.out, World.grownBy.refl _ _⟩
      case round =>
        obtain ⟨j, hj, rfl, hOj, hGj⟩ := hrel
        have hrr : ∀ q : Nat, wr.cell? ⟨w.heap.size, q, none⟩ = x2.cell? ⟨w.heap.size, q, none⟩ := fun q => World.cell?_of_block (hGj.out.block w.heap.size HR2.out.1.lt (fun e => hgr (by cases e; rfl)))
        have d1 : wr.cell? ⟨w.heap.size, 1, none⟩ = some (.int .i64 (p2 : Nat)) := (hrr 1).trans c1
        by_cases hjm : j < m2
        · have hlen1 : k1 + j < LL.length := by rw [hL.out.2]; omega
          have hlen2 : j < M.length := by rw [HM.out.1]; exact hjm
          obtain ⟨kj, hkj⟩ : ∃ kj, kj = k1 + j := ⟨_, rfl⟩
          obtain ⟨pj, hpj⟩ : ∃ pj, pj = p2 + j := ⟨_, rfl⟩
          have ekj : (k1 : Int) + (j : Int) = (kj : Int) := by omega
          have epj : (p2 : Int) + (j : Int) = (pj : Int) := by omega
          have hHWj : Below w.heap.size w wr := HW2.out.grown hGj.out HW2.out.size (fun q hq => by cases hq; exact hgw)
          have d2 := hOj.out.cell kj (by rw [tn_len]; omega)
          have fr := hOj.out.free kj
          have d3 := HCD.out wr pj hHWj (by omega)
          have b1 := bytes_at (tn_bytes hL.out.1 (bytes_take HM.out.2.1 j) k1) kj
          have b2 := bytes_at HB.out.2 pj
          have HS : Hid (tn LL (M.take (j + 1)) k1 = (tn LL (M.take j) k1).set kj ((tn LL (M.take j) k1).getD kj 0 ^^^ D.getD pj 0)) := by
            unfold Hid
            rw [tn_step LL M k1 j hlen1 hlen2, HM.out.2.2 j hjm, hkj, hpj]
          have hS := hOj.out.set kj ((tn LL (M.take j) k1).getD kj 0 ^^^ D.getD pj 0)
          rw [← HS.out] at hS
          have hG2 : Hid (x2.grownBy (wr.setCell ⟨g, kj, none⟩ (.int .u8 (((tn LL (M.take j) k1).getD kj 0 ^^^ D.getD pj 0 : Nat) : Int))) (some g)) := grown_trans hGj.out (grown_set _ _ _ _)
          have HS2 : Hid (Own (wr.setCell ⟨g, kj, none⟩ (.int .u8 (((tn LL (M.take j) k1).getD kj 0 ^^^ D.getD pj 0 : Nat) : Int))) g (tn LL (M.take (j + 1)) k1)) := hS
          have hkjn : kj < n := by have := hL.out.2; omega
          have hpjn : pj < nd := by omega
          have l1 : (kj : Int) < (n : Int) := by omega
          have l2 : (pj : Int) < (nd : Int) := by omega
          have l3 : (j : Int) < (m2 : Int) := by omega
          have wk : IntKind.i64.wrap (kj : Int) = (kj : Int) := by rw [IntKind.wrap_i64]; omega
          have wp : IntKind.i64.wrap (pj : Int) = (pj : Int) := by rw [IntKind.wrap_i64]; omega
          clear hS HS hOj hGj hrr hkj hpj hHWj hlen1 hlen2 HX
          generalize (tn LL (M.take j) k1).getD kj 0 = y1 at *
          generalize D.getD pj 0 = y2 at *
          have e1 := xor_u8 y1 y2 b1 b2
          go_upto_region 24 with fail
          go_still_tail 21, (by kernel_rfl)
          go_wp2
          go_roundw
          case rel => exact ⟨j + 1, by omega, by go_num, HS2, hid_drew hG2⟩
          case measure => simp [intOf]; omega
        · obtain rfl : j = m2 := by omega
          have HTT : Hid (tn LL (M.take j) k1 = tn LL M k1) := by unfold Hid; rw [List.take_of_length_le (by rw [HM.out.1]; exact Nat.le_refl _)]
          have hOe : Own wr g (tn LL M k1) := by rw [← HTT.out]; exact hOj.out
          have hBr : Blk wr w.heap.size #[.slice (some ⟨bd, od, none⟩) nd kd, .int .i64 (p2 : Nat), .bool false] 46 := (hGj.out.block w.heap.size HR2.out.1.lt (fun e => hgr (by cases e; rfl))).trans HR2.out.1
          have f1 := hBr.free 1
          obtain ⟨pz, hpz⟩ : ∃ pz, pz = p2 + j := ⟨_, rfl⟩
          have epz : (p2 : Int) + (j : Int) = (pz : Int) := by omega
          obtain ⟨kz, hkz⟩ : ∃ kz, kz = k1 + j := ⟨_, rfl⟩
          have ekz : (k1 : Int) + (j : Int) = (kz : Int) := by omega
          have HRz : Hid (Rq w (wr.setCell ⟨w.heap.size, 1, none⟩ (.int .i64 (pz : Int))) w.heap.size (some ⟨bd, od, none⟩) nd kd D pz false) := ⟨hBr.set 1 (.int .i64 (pz : Int)), HN.out.2, by omega, HRD.out⟩
          have HOz : Hid (Own (wr.setCell ⟨w.heap.size, 1, none⟩ (.int .i64 (pz : Int))) g (tn LL M k1)) := (Below.heap_setCell wr ⟨w.heap.size, 1, none⟩ _ g hgr).trans hOe
          have HWz : Hid (Below w.heap.size w (wr.setCell ⟨w.heap.size, 1, none⟩ (.int .i64 (pz : Int)))) := by
            have h1 : Below w.heap.size w wr := HW2.out.grown hGj.out HW2.out.size (fun q hq => by cases hq; exact hgw)
            exact h1.setCell (p := ⟨w.heap.size, 1, none⟩) (Nat.le_refl _) _
          have HLz : Hid (Bytes (tn LL M k1) ∧ (tn LL M k1).length = n) := ⟨tn_bytes hL.out.1 HM.out.2.1 _, by rw [tn_len]; exact hL.out.2⟩
          have HPz : Hid (PInv F D kz (D.drop pz) (tn LL M k1)) := by
            intro T2 hG hD
            obtain ⟨-, -, -, -, h4⟩ := HX.out T2 hG hD
            obtain ⟨h5, h6, h7, h8⟩ := h4 (by omega)
            rw [hpz, hkz]
            exact ⟨h5, by rw [tn_len]; exact h6, h7, h8⟩
          have hkzn : kz ≤ n := by omega
          have hkk : k < kz := by omega
          have l3 : ¬ (j : Int) < (j : Int) := by omega
          clear hOe hBr hpz hkz HX hOj hGj hrr HTT c1
          go_wp2
          go_roundw
          case rel => exact ⟨kz, pz, _, rfl, hkzn, HRz, HOz, HLz, HWz, HPz⟩
          case measure => simp [intOf]; omega
end Go.Proofs.YtbgikffoidaamaaDoor
