/-
  The law RewindRoom returns true.
-/
import Derived.Test.YtnlklbfmpmkoiaaDoorXtRoomS
set_option linter.unusedSimpArgs false
set_option linter.unusedVariables false
namespace Go.Proofs.YtnlklbfmpmkoiaaDoor
open Go.RowKit Classical
set_option maxRecDepth 100000 in
set_option maxHeartbeats 6400000 in
theorem room_law (limit : Int) (hl0 : -9223372036854775808 ≤ limit ∧ limit ≤ 9223372036854775807) (a : Option Addr) (len cap : Nat) (E : Nat → Option Addr) (C : Nat → Nat) (L : Nat → List Nat) (b o : Nat) (hlen : len ≤ 140737488355328) (w : World) (HA : Als w a len E C L b o) (tab : Tab w) :
    Calls Tryd.prog 3 #[.int .i64 limit, .slice a len cap] w fun e w' => e = .returned (.bool true) ∧ Below w.heap.size w w' := by
  have HR : Hid (∀ W, Below w.heap.size w W → Als W a len E C L b o ∧ Tab W) := fun W h => ⟨HA.below h, tab.below tab.lt h⟩
  have HBW : Hid (Below w.heap.size w w) := Below.refl _ _
  have HA0 : Hid (Als w a len E C L b o) := HA
  have HTB : Hid (Tab w) := tab
  clear HA tab
  obtain ⟨z, hz⟩ : ∃ z : Int, z = limit.tmod 20 := ⟨_, rfl⟩
  have hzb := tmod_in limit 20 (by decide)
  rw [show ((20 : Nat) : Int) = 20 from rfl, ← hz] at hzb
  have et : limit.tmod 20 = z := hz.symm
  clear hz
  go_enter Tryd.func3, Tryd.ntmps3
  go_upto_if 19 with fail
  go_cut [0] (fun v wx => ∃ K : Nat, K < 20 ∧ v = .int .i64 K ∧ wx = w)
  case first =>
    by_cases hz : z < 0
    · obtain ⟨K, hK⟩ : ∃ K : Nat, -z = (K : Int) := ⟨(-z).toNat, by omega⟩
      go_wp2
      go_meet
      exact ⟨K, by omega, rfl, rfl⟩
    · obtain ⟨K, hK⟩ : ∃ K : Nat, z = (K : Int) := ⟨z.toNat, by omega⟩
      go_wp2
      go_meet
      exact ⟨K, by omega, rfl, rfl⟩
  case rest =>
  obtain ⟨K, hK, rfl, hwc⟩ := hcut
  rw [hwc]
  clear hwc et hzb hl0
  obtain ⟨c, hc⟩ : ∃ c, c = K + 1 := ⟨_, rfl⟩
  have hK1 : (K : Int) + 1 = (c : Int) := by omega
  have HC : Hid (c = K + 1) := hc
  have hc20 : 1 ≤ c ∧ c ≤ 20 := by omega
  clear hc
  go_upto_region 5 with fail
  go_wp2_with fail
  refine (new_in c (by omega) (by omega) w).mono ?_
  rintro e w1 ⟨t, rfl, T1, b1⟩
  rw [show c - 1 = K by have := HC.out; omega] at T1
  clear hK1
  have HT1 : Hid (Tp (Fp w w1) t K ((psh L 0).take (K + 1)) w1) := T1
  have HB1 : Hid (Below w.heap.size w w1) := b1
  clear T1 b1
  go_upto_region 10 with fail
  go_loopw [7, 8] (fun v x wr => ∃ j m : Nat, j ≤ len ∧ x = .int .i64 j ∧ v = .int .i64 m ∧ Hid (m = (psh L j).length) ∧ Hid (Tp (Fp w wr) t K ((psh L j).take (K + 1)) wr) ∧ Hid (Below w.heap.size w wr)) (fun _ x _ => len - (intOf x).toNat)
  case atStart => exact ⟨0, 0, by omega, rfl, rfl, rfl, HT1, HB1⟩
  case round =>
    obtain ⟨j, m, hj, rfl, rfl, hm, hT, hB⟩ := hrel
    by_cases hjl : j < len
    · have ijl : (j : Int) < (len : Int) := by omega
      have hA := (HR.out _ hB.out).1
      obtain rfl := hA.at_ (by omega)
      have d1 := hA.cells j hjl
      obtain ⟨-, hy, hy2⟩ := hA.rows j hjl
      obtain ⟨y, hyy⟩ : ∃ y, y = (L j).length := ⟨_, rfl⟩
      rw [← hyy] at d1 hy2
      have HY : Hid (Bytes (L j) ∧ (L j).length = y) := ⟨hy, hyy.symm⟩
      have hmj : m ≤ j := by rw [hm.out]; exact psh_le L j
      clear hA hy hyy
      by_cases hy3 : y ≤ 65536
      · have iy : (y : Int) ≤ 65536 := by omega
        go_wp2_with fail
        refine (push_in w t K ((psh L j).take (K + 1)) (L j) (E j) y (C j) ⟨HY.out.1, by rw [HY.out.2]; exact hy3⟩ HY.out.2 wr hB.out hT.out (HA0.out.rows j hjl).1 HTB.out).mono ?_
        rintro e w5 ⟨rfl, hT5, b5⟩
        have d5 := (HR.out _ b5).1.cells j hjl
        rw [HY.out.2] at d5
        obtain ⟨SS, hSS⟩ : ∃ SS, SS = (psh L (j + 1)).take (K + 1) := ⟨_, rfl⟩
        have ep : psh L (j + 1) = L j :: psh L j := by rw [psh, if_pos (by rw [HY.out.2]; exact hy3)]
        rw [take_push, ← ep, ← hSS] at hT5
        obtain ⟨m2, hm2, em2⟩ : ∃ m2, m2 = (psh L (j + 1)).length ∧ m2 = m + 1 := ⟨_, rfl, by rw [ep, hm.out]; rfl⟩
        have im2 : (m : Int) + 1 = (m2 : Int) := by omega
        have hm2l : m2 ≤ len := by omega
        clear ep hT hB hm d1 em2
        obtain ⟨nn, hnn⟩ : ∃ nn, nn = SS.length := ⟨_, rfl⟩
        have HNN : Hid (SS.length = nn) := hnn.symm
        have HTP : Hid (Tp (Fp w w5) t K SS w5) := hT5
        have hn20 : nn ≤ 20 := by have := hT5.le; omega
        have HGD : Hid (∀ k, k < nn → Good (SS.getD k [])) := fun k hk => hT5.good _ (by rw [List.getD, List.getElem?_eq_getElem (by omega)]; exact List.getElem_mem _)
        have HBY : Hid (∀ k, k ≤ nn → byt (SS.take k) ≤ 2000000) := fun k hk => by
          have := byt_le (SS.take k) 20 (by rw [List.length_take]; omega) (fun S hS => hT5.good S (List.mem_of_mem_take hS))
          omega
        have HB5 : Hid (Below w.heap.size w w5) := b5
        have HMN : Hid (min m2 (K + 1) = nn) := by unfold Hid; rw [hnn, hSS, List.length_take, ← hm2]; omega
        have HSS : Hid (SS = (psh L (j + 1)).take (K + 1) ∧ m2 = (psh L (j + 1)).length) := ⟨hSS, hm2⟩
        clear hT5 b5 hnn hSS hm2
        go_upto_if 63 with fail
        go_cut [9] (fun v wx => v = .int .i64 nn ∧ wx = w5)
        case first =>
          have hmn := HMN.out
          rw [← HC.out] at hmn
          by_cases hz : c < m2
          · have q1 : (c : Int) < (m2 : Int) := by omega
            obtain rfl : nn = c := by omega
            go_wp2
            go_meet
            exact ⟨rfl, rfl⟩
          · have q1 : ¬ (c : Int) < (m2 : Int) := by omega
            obtain rfl : nn = m2 := by omega
            go_wp2
            go_meet
            exact ⟨rfl, rfl⟩
        case rest =>
        obtain ⟨rfl, hwc⟩ := hcut
        rw [hwc]
        clear hwc
        go_wp2_with fail
        refine (len_any (Fp w w5) t K SS w5 HTP.out).mono ?_
        rintro e w6 ⟨rfl, rfl⟩
        rw [HNN.out]
        go_upto_region 24 with fail
        go_loopw [10, 11] (fun v x wr => ∃ k s : Nat, k ≤ nn ∧ x = .int .i64 k ∧ v = .int .i64 s ∧ Hid (s = byt (SS.take k)) ∧ Hid (Tp (Fp w wr) t K SS wr) ∧ Hid (Below w.heap.size w wr)) (fun _ x _ => nn - (intOf x).toNat)
        case atStart => exact ⟨0, 0, by omega, rfl, rfl, rfl, HTP, HB5⟩
        case round =>
          obtain ⟨k, s, hk, rfl, rfl, hs, hT, hB⟩ := hrel
          by_cases hkn : k < nn
          · have ikn : (k : Int) < (nn : Int) := by omega
            go_wp2_with fail
            refine (at_good (Fp w wr) t K SS wr hT.out k (by rw [HNN.out]; exact hkn)).mono ?_
            rintro e w7 ⟨g7, rfl, hg7, O7, b7⟩
            have HT7 : Hid (Tp (Fp w w7) t K SS w7) := hT.out.later b7
            have HB7 : Hid (Below w.heap.size w w7) := hB.out.trans (b7.mono hB.out.size)
            have HO7 : Hid (Own w7 g7 (SS.getD k [])) := O7
            obtain ⟨n7, hn7⟩ : ∃ n7, n7 = (SS.getD k []).length := ⟨_, rfl⟩
            have HN7 : Hid ((SS.getD k []).length = n7) := hn7.symm
            have h65 : n7 ≤ 65536 := by rw [hn7]; exact (HGD.out k hkn).2
            rw [← hn7]
            clear hn7 O7 b7 hT hB
            by_cases hk0 : k = 0
            · subst hk0
              have HS7 : Hid (n7 = byt (SS.take 1)) := by unfold Hid; rw [byt_one SS (by rw [HNN.out]; omega)]; exact HN7.out.symm
              clear hs
              go_wp2
              go_roundw
              case rel => exact ⟨1, n7, by omega, by go_num, rfl, HS7, HT7, HB7⟩
              case measure => simp [intOf]; omega
            · have i0 : ¬ (k : Int) = 0 := by omega
              have i0b : ((k : Int) == 0) = false := by rw [beq_eq_false_iff_ne]; exact i0
              obtain ⟨q, hq⟩ : ∃ q, q = k - 1 := ⟨_, rfl⟩
              have ikq : (k : Int) - 1 = (q : Int) := by omega
              have HQ : Hid (q = k - 1) := hq
              have hqn : q < nn := by omega
              have hs2 : s ≤ 2000000 := by rw [hs.out]; exact HBY.out k hk
              clear hq
              go_wp2_with fail
              refine (at_good (Fp w w7) t K SS w7 HT7.out q (by rw [HNN.out]; exact hqn)).mono ?_
              rintro e w8 ⟨g8, rfl, hg8, O8, b8⟩
              have HT8 : Hid (Tp (Fp w w8) t K SS w8) := HT7.out.later b8
              have HB8 : Hid (Below w.heap.size w w8) := HB7.out.trans (b8.mono HB7.out.size)
              have HO8 : Hid (Own w8 g8 (SS.getD q [])) := O8
              have HO7' : Hid (Own w8 g7 (SS.getD k [])) := HO7.out.below HO7.out.lt b8
              obtain ⟨n8, hn8⟩ : ∃ n8, n8 = (SS.getD q []).length := ⟨_, rfl⟩
              have HN8 : Hid ((SS.getD q []).length = n8) := hn8.symm
              have h65b : n8 ≤ 65536 := by rw [hn8]; exact (HGD.out q hqn).2
              rw [← hn8]
              clear hn8 O8 b8 HT7 HO7
              go_upto_region 30 with fail
              go_wp2_with fail
              refine (diff_any (SS.getD q []) (SS.getD k []) n8 n7 (HGD.out q hqn).1 (HGD.out k hkn).1 HN8.out HN7.out h65b h65 (some ⟨g8, 0, none⟩) (some ⟨g7, 0, none⟩) n8 n7 w8 HO8.out.row HO7'.out.row (HR.out _ HB8.out).2).mono ?_
              rintro e w9 ⟨x9, rfl, X9, b9⟩
              obtain ⟨a9, k9, rfl, -, -, -⟩ := X9.full
              have HT9 : Hid (Tp (Fp w w9) t K SS w9) := HT8.out.later b9
              have HB9 : Hid (Below w.heap.size w w9) := HB8.out.trans (b9.mono HB8.out.size)
              obtain ⟨d9, hd9⟩ : ∃ d9, d9 = (diffL (SS.getD q []) (SS.getD k [])).length := ⟨_, rfl⟩
              have hd65 : d9 ≤ 65560 := by rw [hd9]; exact diffL_le (HGD.out q hqn) (HGD.out k hkn)
              have HS9 : Hid (s + d9 = byt (SS.take (k + 1))) := by
                unfold Hid
                rw [byt_step SS k (by rw [HNN.out]; exact hkn) (by omega), hs.out, hd9, HQ.out]
              rw [← hd9]
              clear hd9 X9 b9 hs HT8 HO8 HO7'
              go_wp2
              go_roundw
              case rel => exact ⟨k + 1, s + d9, by omega, by go_num, by go_num, HS9, HT9, HB9⟩
              case measure => simp [intOf]; omega
          · obtain rfl : k = nn := by omega
            have hs2 : s = byt SS := by rw [hs.out, List.take_of_length_le (by rw [HNN.out]; exact Nat.le_refl _)]
            have HS2 : Hid (s = byt SS) := hs2
            clear hs hs2
            go_upto_region 31 with fail
            go_wp2_with fail
            refine (bytes_any (Fp w wr) t K SS wr hT.out).mono ?_
            rintro e w10 ⟨rfl, mm, rfl⟩
            rw [← HS2.out]
            have HT10 : Hid (Tp (Fp w (wr.drewN mm)) t K ((psh L (j + 1)).take (K + 1)) (wr.drewN mm)) := by rw [← HSS.out.1]; exact hT.out.later (below_drawsX (Below.refl _ _) mm)
            have HB10 : Hid (Below w.heap.size w (wr.drewN mm)) := below_drawsX hB.out mm
            have HM10 : Hid (m2 = (psh L (j + 1)).length) := HSS.out.2
            clear hT hB HS2 HSS
            generalize wr.drewN mm = w11 at *
            go_wp2
            go_roundw
            case rel => exact ⟨j + 1, m2, by omega, by go_num, rfl, HM10, HT10, HB10⟩
            case measure => simp [intOf]; omega
      · have iy : ¬ (y : Int) ≤ 65536 := by omega
        go_wp2_with fail
        refine (push_long (Fp w wr) t K ((psh L j).take (K + 1)) (E j) y (C j) (by omega) wr hT.out).mono ?_
        rintro e w5 ⟨rfl, rfl⟩
        have hT5 := hT.out
        have b5 := hB.out
        obtain ⟨SS, hSS⟩ : ∃ SS, SS = (psh L (j + 1)).take (K + 1) := ⟨_, rfl⟩
        have ep : psh L (j + 1) = psh L j := by rw [psh, if_neg (by rw [HY.out.2]; exact hy3)]
        rw [← ep, ← hSS] at hT5
        obtain ⟨m2, hm2, em2⟩ : ∃ m2, m2 = (psh L (j + 1)).length ∧ m2 = m := ⟨_, rfl, by rw [ep, hm.out]⟩
        subst em2
        have hm2l : m2 ≤ len := by omega
        clear ep hT hB hm
        obtain ⟨nn, hnn⟩ : ∃ nn, nn = SS.length := ⟨_, rfl⟩
        have HNN : Hid (SS.length = nn) := hnn.symm
        have HTP : Hid (Tp (Fp w w5) t K SS w5) := hT5
        have hn20 : nn ≤ 20 := by have := hT5.le; omega
        have HGD : Hid (∀ k, k < nn → Good (SS.getD k [])) := fun k hk => hT5.good _ (by rw [List.getD, List.getElem?_eq_getElem (by omega)]; exact List.getElem_mem _)
        have HBY : Hid (∀ k, k ≤ nn → byt (SS.take k) ≤ 2000000) := fun k hk => by
          have := byt_le (SS.take k) 20 (by rw [List.length_take]; omega) (fun S hS => hT5.good S (List.mem_of_mem_take hS))
          omega
        have HB5 : Hid (Below w.heap.size w w5) := b5
        have HMN : Hid (min m2 (K + 1) = nn) := by unfold Hid; rw [hnn, hSS, List.length_take, ← hm2]; omega
        have HSS : Hid (SS = (psh L (j + 1)).take (K + 1) ∧ m2 = (psh L (j + 1)).length) := ⟨hSS, hm2⟩
        clear hT5 b5 hnn hSS hm2
        go_upto_if 63 with fail
        go_cut [9] (fun v wx => v = .int .i64 nn ∧ wx = w5)
        case first =>
          have hmn := HMN.out
          rw [← HC.out] at hmn
          by_cases hz : c < m2
          · have q1 : (c : Int) < (m2 : Int) := by omega
            obtain rfl : nn = c := by omega
            go_wp2
            go_meet
            exact ⟨rfl, rfl⟩
          · have q1 : ¬ (c : Int) < (m2 : Int) := by omega
            obtain rfl : nn = m2 := by omega
            go_wp2
            go_meet
            exact ⟨rfl, rfl⟩
        case rest =>
        obtain ⟨rfl, hwc⟩ := hcut
        rw [hwc]
        clear hwc
        go_wp2_with fail
        refine (len_any (Fp w w5) t K SS w5 HTP.out).mono ?_
        rintro e w6 ⟨rfl, rfl⟩
        rw [HNN.out]
        go_upto_region 24 with fail
        go_loopw [10, 11] (fun v x wr => ∃ k s : Nat, k ≤ nn ∧ x = .int .i64 k ∧ v = .int .i64 s ∧ Hid (s = byt (SS.take k)) ∧ Hid (Tp (Fp w wr) t K SS wr) ∧ Hid (Below w.heap.size w wr)) (fun _ x _ => nn - (intOf x).toNat)
        case atStart => exact ⟨0, 0, by omega, rfl, rfl, rfl, HTP, HB5⟩
        case round =>
          obtain ⟨k, s, hk, rfl, rfl, hs, hT, hB⟩ := hrel
          by_cases hkn : k < nn
          · have ikn : (k : Int) < (nn : Int) := by omega
            go_wp2_with fail
            refine (at_good (Fp w wr) t K SS wr hT.out k (by rw [HNN.out]; exact hkn)).mono ?_
            rintro e w7 ⟨g7, rfl, hg7, O7, b7⟩
            have HT7 : Hid (Tp (Fp w w7) t K SS w7) := hT.out.later b7
            have HB7 : Hid (Below w.heap.size w w7) := hB.out.trans (b7.mono hB.out.size)
            have HO7 : Hid (Own w7 g7 (SS.getD k [])) := O7
            obtain ⟨n7, hn7⟩ : ∃ n7, n7 = (SS.getD k []).length := ⟨_, rfl⟩
            have HN7 : Hid ((SS.getD k []).length = n7) := hn7.symm
            have h65 : n7 ≤ 65536 := by rw [hn7]; exact (HGD.out k hkn).2
            rw [← hn7]
            clear hn7 O7 b7 hT hB
            by_cases hk0 : k = 0
            · subst hk0
              have HS7 : Hid (n7 = byt (SS.take 1)) := by unfold Hid; rw [byt_one SS (by rw [HNN.out]; omega)]; exact HN7.out.symm
              clear hs
              go_wp2
              go_roundw
              case rel => exact ⟨1, n7, by omega, by go_num, rfl, HS7, HT7, HB7⟩
              case measure => simp [intOf]; omega
            · have i0 : ¬ (k : Int) = 0 := by omega
              have i0b : ((k : Int) == 0) = false := by rw [beq_eq_false_iff_ne]; exact i0
              obtain ⟨q, hq⟩ : ∃ q, q = k - 1 := ⟨_, rfl⟩
              have ikq : (k : Int) - 1 = (q : Int) := by omega
              have HQ : Hid (q = k - 1) := hq
              have hqn : q < nn := by omega
              have hs2 : s ≤ 2000000 := by rw [hs.out]; exact HBY.out k hk
              clear hq
              go_wp2_with fail
              refine (at_good (Fp w w7) t K SS w7 HT7.out q (by rw [HNN.out]; exact hqn)).mono ?_
              rintro e w8 ⟨g8, rfl, hg8, O8, b8⟩
              have HT8 : Hid (Tp (Fp w w8) t K SS w8) := HT7.out.later b8
              have HB8 : Hid (Below w.heap.size w w8) := HB7.out.trans (b8.mono HB7.out.size)
              have HO8 : Hid (Own w8 g8 (SS.getD q [])) := O8
              have HO7' : Hid (Own w8 g7 (SS.getD k [])) := HO7.out.below HO7.out.lt b8
              obtain ⟨n8, hn8⟩ : ∃ n8, n8 = (SS.getD q []).length := ⟨_, rfl⟩
              have HN8 : Hid ((SS.getD q []).length = n8) := hn8.symm
              have h65b : n8 ≤ 65536 := by rw [hn8]; exact (HGD.out q hqn).2
              rw [← hn8]
              clear hn8 O8 b8 HT7 HO7
              go_upto_region 30 with fail
              go_wp2_with fail
              refine (diff_any (SS.getD q []) (SS.getD k []) n8 n7 (HGD.out q hqn).1 (HGD.out k hkn).1 HN8.out HN7.out h65b h65 (some ⟨g8, 0, none⟩) (some ⟨g7, 0, none⟩) n8 n7 w8 HO8.out.row HO7'.out.row (HR.out _ HB8.out).2).mono ?_
              rintro e w9 ⟨x9, rfl, X9, b9⟩
              obtain ⟨a9, k9, rfl, -, -, -⟩ := X9.full
              have HT9 : Hid (Tp (Fp w w9) t K SS w9) := HT8.out.later b9
              have HB9 : Hid (Below w.heap.size w w9) := HB8.out.trans (b9.mono HB8.out.size)
              obtain ⟨d9, hd9⟩ : ∃ d9, d9 = (diffL (SS.getD q []) (SS.getD k [])).length := ⟨_, rfl⟩
              have hd65 : d9 ≤ 65560 := by rw [hd9]; exact diffL_le (HGD.out q hqn) (HGD.out k hkn)
              have HS9 : Hid (s + d9 = byt (SS.take (k + 1))) := by
                unfold Hid
                rw [byt_step SS k (by rw [HNN.out]; exact hkn) (by omega), hs.out, hd9, HQ.out]
              rw [← hd9]
              clear hd9 X9 b9 hs HT8 HO8 HO7'
              go_wp2
              go_roundw
              case rel => exact ⟨k + 1, s + d9, by omega, by go_num, by go_num, HS9, HT9, HB9⟩
              case measure => simp [intOf]; omega
          · obtain rfl : k = nn := by omega
            have hs2 : s = byt SS := by rw [hs.out, List.take_of_length_le (by rw [HNN.out]; exact Nat.le_refl _)]
            have HS2 : Hid (s = byt SS) := hs2
            clear hs hs2
            go_upto_region 31 with fail
            go_wp2_with fail
            refine (bytes_any (Fp w wr) t K SS wr hT.out).mono ?_
            rintro e w10 ⟨rfl, mm, rfl⟩
            rw [← HS2.out]
            have HT10 : Hid (Tp (Fp w (wr.drewN mm)) t K ((psh L (j + 1)).take (K + 1)) (wr.drewN mm)) := by rw [← HSS.out.1]; exact hT.out.later (below_drawsX (Below.refl _ _) mm)
            have HB10 : Hid (Below w.heap.size w (wr.drewN mm)) := below_drawsX hB.out mm
            have HM10 : Hid (m2 = (psh L (j + 1)).length) := HSS.out.2
            clear hT hB HS2 HSS
            generalize wr.drewN mm = w11 at *
            go_wp2
            go_roundw
            case rel => exact ⟨j + 1, m2, by omega, by go_num, rfl, HM10, HT10, HB10⟩
            case measure => simp [intOf]; omega
    · obtain rfl : j = len := by omega
      go_wp2
      go_ret
      exact ⟨rfl, hB.out⟩
end Go.Proofs.YtnlklbfmpmkoiaaDoor
