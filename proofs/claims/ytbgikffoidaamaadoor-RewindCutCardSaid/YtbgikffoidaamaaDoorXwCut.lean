/-
  The law RewindCut returns true of any two lists of bytes, any place and any list behind.
-/
import Derived.Test.YtbgikffoidaamaaDoorXwCutW
set_option linter.unusedSimpArgs false
set_option linter.unusedVariables false
namespace Go.Proofs.YtbgikffoidaamaaDoor
open Go.RowKit Classical
set_option maxRecDepth 100000 in
set_option maxHeartbeats 3200000 in
theorem cut_law (F T : List Nat) (nf nt : Nat) (hF : Bytes F) (hT : Bytes T) (hnf : F.length = nf) (hnt : T.length = nt) (mf : nf ≤ 140737488351232) (mt : nt ≤ 140737488351232) (a b : Option Addr) (kf kt : Nat) (n : Int) (hn0 : -9223372036854775808 ≤ n) (hn1 : n ≤ 9223372036854775807) (M : List Nat) (nm' km : Nat) (am : Option Addr) (hM : Bytes M) (hnm : M.length = nm') (mm : nm' ≤ 140737488351232) (w : World)
    (RF : Row w a F) (RT : Row w b T) (RM : Row w am M) (tab : Tab w) :
    Calls Tryd.prog 4 #[.slice a nf kf, .slice b nt kt, .int .i64 n, .slice am nm' km] w fun e w' => e = .returned (.bool true) ∧ Below w.heap.size w w' := by
  have HN : Hid (F.length = nf ∧ T.length = nt) := ⟨hnf, hnt⟩
  have HB : Hid (Bytes F ∧ Bytes T) := ⟨hF, hT⟩
  have HR : Hid (∀ W, Below w.heap.size w W → Row W a F ∧ Row W b T ∧ Tab W) := fun W h => ⟨RF.below h, RT.below h, tab.below tab.lt h⟩
  have HBW : Hid (Below w.heap.size w w) := Below.refl _ _
  have HM : Hid (Bytes M ∧ M.length = nm') := ⟨hM, hnm⟩
  have HRM : Hid (Row w am M) := RM
  clear hF hT hnf hnt RF RT tab hM hnm RM
  by_cases h : 65536 < nf ∨ 65536 < nt
  · by_cases h1 : 65536 < nf
    · have i1 : (65536 : Int) < (nf : Int) := by omega
      go_enter Tryd.func4, Tryd.ntmps4
      go_wp2
      go_ret
      exact ⟨rfl, HBW.out⟩
    · have i1 : ¬ (65536 : Int) < (nf : Int) := by omega
      have i2 : (65536 : Int) < (nt : Int) := by omega
      go_enter Tryd.func4, Tryd.ntmps4
      go_wp2
      go_ret
      exact ⟨rfl, HBW.out⟩
  have hl : nf ≤ 65536 ∧ nt ≤ 65536 := by omega
  have i1 : ¬ (65536 : Int) < (nf : Int) := by omega
  have i2 : ¬ (65536 : Int) < (nt : Int) := by omega
  have HG : Hid (Good T) := ⟨HB.out.2, by rw [HN.out.2]; exact hl.2⟩
  have HFL : Hid (F.length ≤ 65536) := by unfold Hid; rw [HN.out.1]; exact hl.1
  obtain ⟨nd, hnd⟩ : ∃ nd, (diffL F T).length = nd := ⟨_, rfl⟩
  have HLD : Hid ((diffL F T).length = nd) := hnd
  have hd10 : 10 ≤ nd := by rw [← hnd]; exact (diffL_len HFL.out HG.out.2).1
  have hd65 : nd ≤ 65560 := by rw [← hnd]; exact (diffL_len HFL.out HG.out.2).2
  have HBD : Hid (Bytes (diffL F T)) := diffL_bytes HB.out.1 HB.out.2
  clear hnd h
  go_enter Tryd.func4, Tryd.ntmps4
  go_upto_region 3 with fail
  go_wp2_with fail
  refine (diff_any F T nf nt HB.out.1 HB.out.2 HN.out.1 HN.out.2 hl.1 hl.2 a b kf kt w (HR.out _ HBW.out).1 (HR.out _ HBW.out).2.1 (HR.out _ HBW.out).2.2).mono ?_
  rintro e w1 ⟨x1, rfl, X1, b1⟩
  have HB1 : Hid (Below w.heap.size w w1) := b1
  obtain ⟨g1, k1, rfl, hg1, hg2, hk1, -, -, -⟩ := X1.open (by rw [HLD.out]; omega)
  have HX1 : Hid (Tx w1 w.heap.size (.slice (some ⟨g1, 0, none⟩) (diffL F T).length k1) (diffL F T)) := X1
  have HR1 : Hid (Row w1 (some ⟨g1, 0, none⟩) (diffL F T)) := by
    obtain ⟨a2, k2, e2, -, r2, -⟩ := X1.full
    cases e2
    exact r2.row
  rw [HLD.out] at hk1 HX1 ⊢
  clear X1 b1
  go_upto_region 4 with fail
  go_wp2_with fail
  refine (patch_yes F T (diffL F T) nf nd kf k1 a _ HB.out.1 HG.out rfl HN.out.1 HLD.out hl.1 hk1 (fun h => by cases h) w1 (HR.out _ HB1.out).1 HR1.out (HR.out _ HB1.out).2.2).mono ?_
  rintro e w2 ⟨g, s, rfl, hs, hg, O2, b2⟩
  obtain rfl : s = nt := by rw [← hs]; exact HN.out.2
  have HB2 : Hid (Below w.heap.size w w2) := HB1.out.trans (b2.mono HB1.out.size)
  have HO2 : Hid (Own w2 g T) := O2
  have HX2 : Hid (Tx w2 w.heap.size (.slice (some ⟨g1, 0, none⟩) nd k1) (diffL F T)) := HX1.out.on b2
  clear hs O2 b2 HX1 HR1
  have HX3 : Hid (Tx w2 w.heap.size (.slice (some ⟨g1, 0, none⟩) nd k1) (diffL F T)) := HX2
  have i3 : ¬ (nd : Int) < 10 := by omega
  clear HX2 HO2
  obtain ⟨kz, hkz⟩ : ∃ kz : Int, kz = n.tmod (nd : Int) := ⟨_, rfl⟩
  have hzb := tmod_bd n nd (by omega)
  rw [← hkz] at hzb
  have et : n.tmod (nd : Int) = kz := hkz.symm
  have hnz : ((nd : Int) == 0) = false := by rw [beq_eq_false_iff_ne]; omega
  have hnz2 : ¬ (nd : Int) = 0 := by omega
  clear hkz
  go_upto_if 45 with fail
  go_cut [12] (fun v wx => ∃ k : Nat, k < nd ∧ v = .int .i64 k ∧ wx = w2)
  case first =>
    by_cases hz : kz < 0
    · obtain ⟨k, hk⟩ : ∃ k : Nat, kz + (nd : Int) = (k : Int) := ⟨(kz + nd).toNat, by omega⟩
      go_wp2
      go_meet
      exact ⟨k, by omega, rfl, rfl⟩
    · obtain ⟨k, hk⟩ : ∃ k : Nat, kz = (k : Int) := ⟨kz.toNat, by omega⟩
      go_wp2
      go_meet
      exact ⟨k, by omega, rfl, rfl⟩
  case rest =>
  obtain ⟨k, hk, rfl, hwc⟩ := hcut
  rw [hwc]
  clear hwc et hzb hnz hnz2
  obtain ⟨aX, kX, e1, hkX, rX, -⟩ := HX3.out.full
  rw [HLD.out] at e1 hkX
  cases e1
  have HRD : Hid (Row w2 (some ⟨g1, 0, none⟩) (diffL F T)) := rX.row
  have HRK : Hid (Row w2 (some ⟨g1, 0, none⟩) ((diffL F T).take k)) := rX.row.take k
  have HKL : Hid (((diffL F T).take k).length = k) := by unfold Hid; rw [List.length_take, HLD.out]; omega
  have HNO : Hid (∀ T2, Good T2 → (diffL F T).take k ≠ diffL F T2) := fun T2 hG e => by
    have h1 : diffL F T2 ++ (diffL F T).drop k = diffL F T := by rw [← e]; exact List.take_append_drop k _
    have h2 := (diffL_prefix HFL.out hG HG.out h1).2
    have h3 := congrArg List.length h2
    rw [List.length_drop, HLD.out] at h3
    simp at h3
    omega
  have hkk : k ≤ k1 := by omega
  clear rX
  go_upto_region 10 with fail
  go_wp2_with fail
  refine (patch_no F ((diffL F T).take k) nf k kf k1 a _ HB.out.1 (bytes_take HBD.out k) HN.out.1 HKL.out hl.1 (by omega) hkk (fun h => by cases h) w2 (HR.out _ HB2.out).1 HRK.out (HR.out _ HB2.out).2.2 HNO.out).mono ?_
  rintro e w4 ⟨rfl, b4⟩
  have HB4 : Hid (Below w.heap.size w w4) := HB2.out.trans (b4.mono HB2.out.size)
  have HRD4 : Hid (Row w4 (some ⟨g1, 0, none⟩) (diffL F T)) := HRD.out.below b4
  clear b4 HRD HRK HNO HX3 HKL
  by_cases hm0 : nm' = 0
  · subst hm0
    go_wp2
    go_ret
    exact ⟨rfl, HB4.out⟩
  have im : ((nm' : Int) == 0) = false := by rw [beq_eq_false_iff_ne]; omega
  have HT5 : Hid (∀ W : World, w.heap.size ≤ W.heap.size → Tx (W.alloc (.cells #[] 5)) w.heap.size (.slice (some ⟨W.heap.size, 0, none⟩) 0 0) []) := fun W hW => ⟨rfl, .inr ⟨_, 0, _, rfl, hW, heap_alloc_new W _, Nat.le_refl _, by decide, rfl, rfl⟩⟩
  have HB5 : Hid (Below w.heap.size w (w4.alloc (.cells #[] 5))) := HB4.out.alloc HB4.out.size _
  have HRD5 : Hid (Row (w4.alloc (.cells #[] 5)) (some ⟨g1, 0, none⟩) (diffL F T)) := HRD4.out.below ((Below.refl _ _).alloc (Nat.le_refl _) _)
  have HL6 : Hid (([] : List Nat).length + (diffL F T).length ≤ 140737488500000) := by unfold Hid; rw [HLD.out]; simp; omega
  have HL7 : Hid (([] ++ diffL F T).length + M.length ≤ 140737488500000) := by unfold Hid; rw [List.nil_append, HLD.out, HM.out.2]; omega
  have hsz4 := HB4.out.size
  clear HRD4
  go_wp2_with (first
    | (refine wpList_apW rfl _ _ rfl (HT5.out w4 hsz4) HB5.out HB5.out.size rfl rfl HLD.out HRD5.out HL6.out ?_; intro v6 w6 T6 B6 hs6; clear HRD5)
    | (refine wpList_apW rfl _ _ rfl T6 B6 hs6 rfl rfl HM.out.2 (HRM.out.below B6) HL7.out ?_; intro v7 w7 T7 B7 hs7))
  rw [List.nil_append] at T7
  obtain ⟨a7, k7, rfl, hk7, r7, -, n7⟩ := T7.full2
  have HLL : Hid ((diffL F T ++ M).length = nd + nm') := by unfold Hid; rw [List.length_append, HLD.out, HM.out.2]
  have HR7 : Hid (Row w7 a7 (diffL F T ++ M)) := r7.row
  have HN7 : Hid (a7 = none → k7 = 0) := n7
  have HB7 : Hid (Below w.heap.size w w7) := B7
  have HBM : Hid (Bytes (diffL F T ++ M)) := bytes_app HBD.out HM.out.1
  have HNO7 : Hid (∀ T2, Good T2 → diffL F T ++ M ≠ diffL F T2) := fun T2 hG e => by
    have h2 := (diffL_prefix HFL.out HG.out hG e).2
    have h3 := HM.out.2
    rw [h2] at h3
    simp at h3
    omega
  rw [HLL.out] at hk7 ⊢
  clear T7 r7 n7 B7 T6 B6 HT5 HB5
  refine (patch_no F (diffL F T ++ M) nf (nd + nm') kf k7 a a7 HB.out.1 HBM.out HN.out.1 HLL.out hl.1 (by omega) hk7 HN7.out w7 (HR.out _ HB7.out).1 HR7.out (HR.out _ HB7.out).2.2 HNO7.out).mono ?_
  rintro e w8 ⟨rfl, b8⟩
  have HB8 : Hid (Below w.heap.size w w8) := HB7.out.trans (b8.mono HB7.out.size)
  clear b8
  go_wp2
  go_ret
  exact ⟨rfl, HB8.out⟩
end Go.Proofs.YtbgikffoidaamaaDoor
