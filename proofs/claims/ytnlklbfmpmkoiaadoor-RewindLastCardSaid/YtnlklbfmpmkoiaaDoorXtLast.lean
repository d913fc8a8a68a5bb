/-
  The law RewindLast returns true.
-/
import Derived.Test.YtnlklbfmpmkoiaaDoorXtApW
set_option linter.unusedSimpArgs false
set_option linter.unusedVariables false
namespace Go.Proofs.YtnlklbfmpmkoiaaDoor
open Go.RowKit Classical
set_option maxRecDepth 100000 in
set_option maxHeartbeats 12800000 in
theorem last_law (limit : Int) (hl0 : -9223372036854775808 ≤ limit ∧ limit ≤ 9223372036854775807) (a : Option Addr) (len cap : Nat) (E : Nat → Option Addr) (C : Nat → Nat) (L : Nat → List Nat) (b o : Nat) (hlen : len ≤ 5864062014634) (w : World) (HA : Als w a len E C L b o) (hre : ∀ i, i < len → (L i).length ≤ 140737488351232) (tab : Tab w) :
    Calls Tryd.prog 4 #[.int .i64 limit, .slice a len cap] w fun e w' => e = .returned (.bool true) ∧ Below w.heap.size w w' := by
  have HR : Hid (∀ W, Below w.heap.size w W → Als W a len E C L b o ∧ Tab W) := fun W h => ⟨HA.below h, tab.below tab.lt h⟩
  have HRE : Hid (∀ i, i < len → (L i).length ≤ 140737488351232) := hre
  have HA0 : Hid (Als w a len E C L b o) := HA
  clear HA tab hre
  obtain ⟨z, hz⟩ : ∃ z : Int, z = limit.tmod 40 := ⟨_, rfl⟩
  have hzb := tmod_in limit 40 (by decide)
  rw [show ((40 : Nat) : Int) = 40 from rfl, ← hz] at hzb
  have et : limit.tmod 40 = z := hz.symm
  clear hz
  go_enter Tryd.func4, Tryd.ntmps4
  go_upto_if 26 with fail
  go_cut [0] (fun v wx => ∃ K : Nat, K < 40 ∧ v = .int .i64 K ∧ wx = w)
  case first =>
    by_cases hz : z < 0
    · obtain ⟨K, hK⟩ : ∃ K : Nat, -z = (K : Int) := ⟨(-z).toNat, by omega⟩
      go_wp2
      go_meet
      exact ⟨K, by omega, rfl, rfl⟩
    · obtain ⟨K, hK⟩ : ∃ K : Nat, z = (K : Int) := ⟨z.toNat, by omega⟩
      go_wp2
      go_meet
      exact ⟨K, by omega, rfl, rfl⟩
  case rest =>
  obtain ⟨K, hK, rfl, hwc⟩ := hcut
  rw [hwc]
  clear hwc et hzb hl0
  obtain ⟨c, hc⟩ : ∃ c, c = K + 1 := ⟨_, rfl⟩
  have hK1 : (K : Int) + 1 = (c : Int) := by omega
  have HC : Hid (c = K + 1) := hc
  have hc20 : 1 ≤ c ∧ c ≤ 40 := by omega
  clear hc
  go_upto_region 5 with fail
  go_wp2_with fail
  refine (new_in c (by omega) (by omega) w).mono ?_
  rintro e w1 ⟨t, rfl, T1, b1⟩
  rw [show c - 1 = K by have := HC.out; omega] at T1
  clear hK1
  have HT1 : Hid (Tp (Fp w w1) t K [] w1) := T1
  have HB1 : Hid (Below w.heap.size w w1) := b1
  clear T1 b1
  go_upto_region 6 with fail
  go_wp2_with fail
  refine (len_any (Fp w w1) t K [] w1 HT1.out).mono ?_
  rintro e w2 ⟨rfl, rfl⟩
  go_wp2_with fail
  refine (bytes_any (Fp w w2) t K [] w2 HT1.out).mono ?_
  rintro e w3 ⟨rfl, mm, rfl⟩
  have HB3 : Hid (Below w.heap.size w (w2.drewN mm)) := below_drawsX HB1.out mm
  have HT3 : Hid (Tp (Fp w (w2.drewN mm)) t K [] (w2.drewN mm)) := HT1.out.later (below_drawsX (Below.refl _ _) mm)
  clear HT1 HB1
  generalize w2.drewN mm = w3 at *
  rw [show byt [] = 0 from rfl]
  go_upto_region 10 with fail
  go_loopw [7, 8] (fun u7 x wr => ∃ (j : Nat) (FP : Nat → Prop), j ≤ len ∧ x = .int .i64 j ∧ Hid (Kt wr w.heap.size E C L u7 (kpt L j)) ∧ Hid (Tp FP t K ((psh L j).take (K + 1)) wr) ∧ Hid (Fk w FP wr u7) ∧ Hid (Below w.heap.size w wr)) (fun _ x _ => len - (intOf x).toNat)
  case atStart => exact ⟨0, Fp w w3, by omega, rfl, ⟨rfl, .inl ⟨rfl, rfl⟩⟩, HT3, (fun k hk => ⟨hk.1, hk.2, fun h => by cases h⟩), HB3⟩
  case round =>
    obtain ⟨j, FP, hj, rfl, hKt, hT, hF, hB⟩ := hrel
    obtain ⟨wq, rfl⟩ : ∃ x, x = wr := ⟨_, rfl⟩
    by_cases hjl : j < len
    · have ijl : (j : Int) < (len : Int) := by omega
      have HBa : Hid (Below w.heap.size w (wq.alloc (.cells #[] 5))) := hB.out.alloc hB.out.size _
      have hA := (HR.out _ HBa.out).1
      obtain rfl := hA.at_ (by omega)
      have d1 := hA.cells j hjl
      obtain ⟨y, hyy⟩ : ∃ y, y = (L j).length := ⟨_, rfl⟩
      have hy2 : y ≤ 140737488351232 := by rw [hyy]; exact HRE.out j hjl
      rw [← hyy] at d1
      have HY : Hid (Bytes (L j) ∧ (L j).length = y) := ⟨(hA.rows j hjl).2.1, hyy.symm⟩
      have HRj : Hid (Row (wq.alloc (.cells #[] 5)) (E j) (L j)) := (hA.rows j hjl).1
      have HT1 : Hid (Tx (wq.alloc (.cells #[] 5)) wq.heap.size (.slice (some ⟨wq.heap.size, 0, none⟩) 0 0) []) := ⟨rfl, .inr ⟨_, 0, _, rfl, Nat.le_refl _, heap_alloc_new wq _, Nat.le_refl _, by decide, rfl, rfl⟩⟩
      have HB1 : Hid (Below wq.heap.size wq (wq.alloc (.cells #[] 5))) := (Below.refl _ _).alloc (Nat.le_refl _) _
      have HL1 : Hid (([] : List Nat).length + (L j).length ≤ 140737488500000) := by unfold Hid; rw [HY.out.2]; simp; omega
      clear hA hyy
      go_upto_region 12 with fail
      go_upto_region 13 with (refine wpList_apW rfl _ _ rfl HT1.out HB1.out HB1.out.size rfl rfl HY.out.2 HRj.out HL1.out ?_; intro v9 w5 T5 B5 hs5)
      rw [List.nil_append] at T5
      obtain ⟨a9, k9, rfl, hk9, -, -⟩ := T5.full
      rw [HY.out.2] at hk9 T5 ⊢
      have HT5 : Hid (Tx w5 wq.heap.size (.slice a9 y k9) (L j)) := T5
      have HB5 : Hid (Below wq.heap.size wq w5) := B5
      have HTp5 : Hid (Tp FP t K ((psh L j).take (K + 1)) w5) := hT.out.on fun k hk => B5.block k (hF.out k hk).2.1
      have HK5 : Hid (Kt w5 w.heap.size E C L u7 (kpt L j)) := hKt.out.on fun k hk => B5.block k (hKt.out.lt k hk).2
      have HKL : Hid (∀ k, u7.ownBlock = some k → w.heap.size ≤ k ∧ k < wq.heap.size) := hKt.out.lt
      have HBw5 : Hid (Below w.heap.size w w5) := hB.out.trans (B5.mono hB.out.size)
      clear T5 B5 hs5 HT1 HB1 HL1 HBa HRj hT hKt d1
      by_cases hy3 : y ≤ 65536
      · have iy : ¬ (65536 : Int) < (y : Int) := by omega
        obtain ⟨FQ, hFQ⟩ : ∃ FQ : Nat → Prop, FQ = fun k => FP k ∨ (w5.heap.size ≤ k ∧ k < w5.heap.size) := ⟨_, rfl⟩
        clear hFQ FQ
        go_wp2_with fail
        refine (push_own FP t K ((psh L j).take (K + 1)) (L j) (.slice a9 y k9) wq.heap.size ⟨HY.out.1, by rw [HY.out.2]; exact hy3⟩ w5 HTp5.out HT5.out (HR.out _ HBw5.out).2 (fun k hk => (hF.out k hk).2.1)).mono ?_
        rintro e w6 ⟨rfl, T6, K6⟩
        have ep : psh L (j + 1) = L j :: psh L j := by rw [psh, if_pos (by rw [HY.out.2]; exact hy3)]
        have ek : kpt L (j + 1) = kpt L j ++ [j] := by rw [kpt, if_pos (by rw [HY.out.2]; exact hy3)]
        rw [take_push, ← ep] at T6
        have HZ : Hid (wq.heap.size ≤ w5.heap.size ∧ w5.heap.size ≤ w6.heap.size) := ⟨HB5.out.size, K6.size⟩
        have HTp6 : Hid (Tp (fun k => FP k ∨ (w5.heap.size ≤ k ∧ k < w6.heap.size)) t K ((psh L (j + 1)).take (K + 1)) w6) := T6
        have HBw6 : Hid (Below w.heap.size w w6) := HBw5.out.trans (K6.below HBw5.out.size fun k hk => (hF.out k hk).1)
        have HX6 : Hid (Tx w6 wq.heap.size (.slice a9 y k9) (L j)) := HT5.out.keep fun k hk => K6.block k (HT5.out.block k hk).2 fun h => by
          have h1 := (hF.out k h).2.1
          have h2 := (HT5.out.block k hk).1
          omega
        have HXL : Hid (∀ k, Value.ownBlock (.slice a9 y k9) = some k → wq.heap.size ≤ k ∧ k < w5.heap.size) := HT5.out.block
        have HK6 : Hid (Kt w6 w.heap.size E C L u7 (kpt L j)) := HK5.out.on fun k hk => K6.block k (Nat.lt_of_lt_of_le (HKL.out k hk).2 HB5.out.size) fun h => (hF.out k h).2.2 hk
        have HEK : Hid (kpt L (j + 1) = kpt L j ++ [j]) := ek
        have HBY : Hid (Bytes (L j) ∧ (L j).length = y) := HY
        clear ep ek T6 K6 HTp5 HK5 HT5
        obtain ⟨bj, hbj, hbj2⟩ : ∃ bj : Nat, IntKind.u8.wrap ((j : Int) + 1) = (bj : Int) ∧ bj < 256 := ⟨(j + 1) % 256, by simp [IntKind.wrap, IntKind.bits, IntKind.signed], Nat.mod_lt _ (by decide)⟩
        go_upto_region 20 with fail
        go_loopw [10] (fun x wr => ∃ (q : Nat) (Ld : List Nat), q ≤ y ∧ x = .int .i64 q ∧ Hid (Tx wr wq.heap.size (.slice a9 y k9) Ld) ∧ Hid (Bytes Ld ∧ Ld.length = y) ∧ Hid (Kp (fun k => Value.ownBlock (.slice a9 y k9) = some k) w6 wr)) (fun x _ => y - (intOf x).toNat)
        case atStart => exact ⟨0, L j, by omega, rfl, HX6, HBY, Kp.refl _ _⟩
        case round =>
          obtain ⟨q, Ld, hq, rfl, hX, hLd, hKz⟩ := hrel
          by_cases hqy : q < y
          · have iqy : (q : Int) < (y : Int) := by omega
            obtain ⟨g9, k9', e9, -, -, -, hcl, hfr, hset⟩ := hX.out.opened (by rw [hLd.out.2]; omega)
            rw [hLd.out.2] at e9
            cases e9
            have d9 := hcl q (by rw [hLd.out.2]; exact hqy)
            have f9 := hfr q
            have b9 := bytes_at hLd.out.1 q
            obtain ⟨y1, hy1⟩ : ∃ y1, y1 = Ld.getD q 0 := ⟨_, rfl⟩
            rw [← hy1] at d9 b9
            have e1 := xor_u8 y1 bj b9 hbj2
            have HS : Hid (Tx (wr.setCell ⟨g9, q, none⟩ (.int .u8 ((y1 ^^^ bj : Nat) : Int))) wq.heap.size (.slice (some ⟨g9, 0, none⟩) y k9) (Ld.set q (y1 ^^^ bj))) := hset q (by rw [hLd.out.2]; exact hqy) _
            have HLS : Hid (Bytes (Ld.set q (y1 ^^^ bj)) ∧ (Ld.set q (y1 ^^^ bj)).length = y) := ⟨fun x hx => by
              rcases List.mem_or_eq_of_mem_set hx with h | rfl
              · exact hLd.out.1 x h
              · exact Nat.xor_lt_two_pow (n := 8) b9 hbj2, by rw [List.length_set]; exact hLd.out.2⟩
            have HKS : Hid (Kp (fun k => Value.ownBlock (.slice (some ⟨g9, 0, none⟩) y k9) = some k) w6 (wr.setCell ⟨g9, q, none⟩ (.int .u8 ((y1 ^^^ bj : Nat) : Int)))) := hKz.out.trans (Kp.of_grown (grown_set wr g9 q _) rfl)
            clear hcl hfr hset hX hLd hKz hy1
            go_wp2
            go_roundw
            case rel => exact ⟨q + 1, Ld.set q (y1 ^^^ bj), by omega, by go_num, HS, HLS, HKS⟩
            case measure => simp [intOf]; omega
          · obtain rfl : q = y := by omega
            have HBz : Hid (Below w.heap.size w wr) := HBw6.out.trans (hKz.out.below HBw6.out.size fun k hk => Nat.le_trans hB.out.size (HXL.out k hk).1)
            have d5 := (HR.out _ HBz.out).1.cells j hjl
            rw [HY.out.2] at d5
            have HTz : Hid (Tp (fun k => FP k ∨ (w5.heap.size ≤ k ∧ k < w6.heap.size)) t K ((psh L (j + 1)).take (K + 1)) wr) := HTp6.out.on fun k hk => hKz.out.block k (by
              have hz := HZ.out
              rcases hk with h | h
              · have := (hF.out k h).2.1; omega
              · exact h.2) (fun hS => by
              have h1 := HXL.out k hS
              rcases hk with h | h
              · have := (hF.out k h).2.1; omega
              · omega)
            have HKz : Hid (Kt wr w.heap.size E C L u7 (kpt L j)) := HK6.out.on fun k hk => hKz.out.block k (by have := HKL.out k hk; have := HZ.out; omega) fun hS => by
              have h1 := HXL.out k hS
              have h2 := HKL.out k hk
              omega
            have HLE : Hid ((kpt L j).length ≤ 5864062014700) := by
              have h1 := psh_le L j
              rw [kpt_len] at h1
              unfold Hid
              omega
            have HSZ : Hid (w6.heap.size ≤ wr.heap.size) := hKz.out.size
            clear hX hLd hKz HTp6 HK6 HBw6
            go_upto_region 23 with fail
            go_upto_region 11 with (refine wpList_appSl rfl _ _ rfl (cells := kv E C L (kpt L j)) (n := (kpt L j).length) (v := u7) (cs := #[.slice (E j) q (C j)]) HKz.out HBz.out.size rfl rfl rfl (fun u hu => by simp at hu; subst hu; rfl) HLE.out ?_; intro v8 w8 r1 r2 r3 r4 r5)
            have HB8 : Hid (Below w.heap.size w w8) := HBz.out.trans r4
            have HK8 : Hid (Kt w8 w.heap.size E C L v8 (kpt L (j + 1))) := by
              unfold Hid Kt
              rw [HEK.out, List.length_append, List.length_singleton]
              have : kv E C L (kpt L j ++ [j]) = kv E C L (kpt L j) ++ [.slice (E j) q (C j)] := by simp [kv, HY.out.2]
              rw [this]
              exact r1
            have HT8 : Hid (Tp (fun k => FP k ∨ (w5.heap.size ≤ k ∧ k < w6.heap.size)) t K ((psh L (j + 1)).take (K + 1)) w8) := HTz.out.on fun k hk => r3 k (by
              have hz := HZ.out
              have hs := HSZ.out
              rcases hk with h | h
              · have := (hF.out k h).2.1; omega
              · omega) (fun hS => by
              have h2 := HKL.out k hS
              have hz := HZ.out
              rcases hk with h | h
              · exact (hF.out k h).2.2 hS
              · omega)
            have HF8 : Hid (Fk w (fun k => FP k ∨ (w5.heap.size ≤ k ∧ k < w6.heap.size)) w8 v8) := fun k hk => by
              have hz := HZ.out
              have hs := HSZ.out
              have hs2 := r4.size
              have hb := hB.out.size
              rcases hk with h | h
              · have h1 := hF.out k h
                exact ⟨h1.1, by omega, fun h2 => by
                  rcases r5 k h2 with h3 | h3
                  · exact h1.2.2 h3
                  · omega⟩
              · exact ⟨by omega, by omega, fun h2 => by
                  rcases r5 k h2 with h3 | h3
                  · have := HKL.out k h3; omega
                  · omega⟩
            clear r1 r2 r3 r4 r5 HTz HKz d5
            go_wp2
            go_roundw
            case rel => exact ⟨j + 1, _, by omega, by go_num, HK8, HT8, HF8, HB8⟩
            case measure => simp [intOf]; omega
      · have iy : (65536 : Int) < (y : Int) := by omega
        go_wp2_with fail
        refine (push_long FP t K ((psh L j).take (K + 1)) a9 y k9 (by omega) w5 HTp5.out).mono ?_
        rintro e w6 ⟨rfl, rfl⟩
        have ep : psh L (j + 1) = psh L j := by rw [psh, if_neg (by rw [HY.out.2]; exact hy3)]
        have ek : kpt L (j + 1) = kpt L j := by rw [kpt, if_neg (by rw [HY.out.2]; exact hy3)]
        have HT6 : Hid (Tp FP t K ((psh L (j + 1)).take (K + 1)) w6) := by rw [ep]; exact HTp5.out
        have HK6 : Hid (Kt w6 w.heap.size E C L u7 (kpt L (j + 1))) := by rw [ek]; exact HK5.out
        have HF6 : Hid (Fk w FP w6 u7) := fun k hk => ⟨(hF.out k hk).1, Nat.lt_of_lt_of_le (hF.out k hk).2.1 HB5.out.size, (hF.out k hk).2.2⟩
        clear ep ek HTp5 HK5 hF
        go_wp2
        go_roundw
        case rel => exact ⟨j + 1, FP, by omega, by go_num, HK6, HT6, HF6, HBw5⟩
        case measure => simp [intOf]; omega
    · obtain rfl : j = len := by omega
      clear hj hjl
      obtain ⟨ks, hks⟩ : ∃ ks, ks = kpt L j := ⟨_, rfl⟩
      rw [← hks] at hKt
      obtain ⟨a7, c7, hu7, -⟩ := hKt.out.form
      subst hu7
      obtain ⟨m, hm⟩ : ∃ m, m = ks.length := ⟨_, rfl⟩
      have HM : Hid (ks.length = m) := hm.symm
      rw [← hm] at hKt hF ⊢
      have hmj : m ≤ j := by
        have h1 := psh_le L j
        rw [kpt_len, ← hks, ← hm] at h1
        exact h1
      obtain ⟨SS, hSS⟩ : ∃ SS, SS = (psh L j).take (K + 1) := ⟨_, rfl⟩
      rw [← hSS] at hT
      obtain ⟨nn, hnn⟩ : ∃ nn, nn = SS.length := ⟨_, rfl⟩
      have HNN : Hid (SS.length = nn) := hnn.symm
      have hnm : nn = min m c := by rw [hnn, hSS, List.length_take, kpt_len, ← hks, ← hm, HC.out, Nat.min_comm]
      have HKI : Hid (∀ i, i < m → ks.getD i 0 < j ∧ (L (ks.getD i 0)).length ≤ 65536) := fun i hi => kpt_mem L j _ (by rw [← hks, List.getD, List.getElem?_eq_getElem (by omega)]; exact List.getElem_mem _)
      have HSA : Hid (∀ q, q < nn → SS.getD q [] = L (ks.getD (m - 1 - q) 0)) := fun q hq => by
        rw [hSS, take_at _ _ _ (by have := HC.out; omega), psh_at L j q (by rw [← hks, ← hm]; omega), ← hks, ← hm]
      have HMN : Hid (nn = min m c) := hnm
      clear hks hm hSS hnn hnm
      go_upto_if 102 with fail
      go_cut [11] (fun v wx => v = .int .i64 nn ∧ wx = wq)
      case first =>
        have hmn := HMN.out
        by_cases hz : c < m
        · have q1 : (c : Int) < (m : Int) := by omega
          have hnc : nn = c := by omega
          clear hmn
          subst hnc
          go_wp2
          go_meet
          exact ⟨rfl, rfl⟩
        · have q1 : ¬ (c : Int) < (m : Int) := by omega
          have hnc : nn = m := by omega
          clear hmn
          subst hnc
          go_wp2
          go_meet
          exact ⟨rfl, rfl⟩
      case rest =>
      obtain ⟨rfl, hwc⟩ := hcut
      rw [hwc]
      clear hwc
      have hnm : nn ≤ m := by have := HMN.out; omega
      have HT0 : Hid (Tp FP t K (SS.drop 0) wq) := hT
      go_upto_region 28 with fail
      go_loopw [12] (fun x wr => ∃ (i : Nat) (FP : Nat → Prop), i ≤ nn ∧ x = .int .i64 i ∧ Hid (Kt wr w.heap.size E C L (.slice a7 m c7) ks) ∧ Hid (Tp FP t K (SS.drop i) wr) ∧ Hid (Fk w FP wr (.slice a7 m c7)) ∧ Hid (Below w.heap.size w wr)) (fun x _ => nn - (intOf x).toNat)
      case atStart => exact ⟨0, FP, by omega, rfl, hKt, HT0, hF, hB⟩
      case round =>
        clear hKt hT HT0 hF hB
        obtain ⟨i, FP, hi, rfl, hKt, hT, hF, hB⟩ := hrel
        obtain ⟨wi, rfl⟩ : ∃ x, x = wr := ⟨_, rfl⟩
        by_cases hin : i < nn
        · have iin : (i : Int) < (nn : Int) := by omega
          obtain ⟨r, hr⟩ : ∃ r, r = nn - i := ⟨_, rfl⟩
          have ir : (nn : Int) - (i : Int) = (r : Int) := by omega
          have HRL : Hid ((SS.drop i).length = r) := by unfold Hid; rw [List.length_drop, HNN.out, hr]
          have HRR : Hid (r = nn - i) := hr
          have hr41 : r ≤ nn := by omega
          clear hr
          go_wp2_with fail
          refine (len_any FP t K (SS.drop i) wi hT.out).mono ?_
          rintro e w2 ⟨rfl, rfl⟩
          rw [HRL.out]
          obtain ⟨m1, hm1⟩ : ∃ m1 : Nat, (m : Int) - 1 = (m1 : Int) := ⟨m - 1, by omega⟩
          obtain ⟨m2, hm2⟩ : ∃ m2 : Nat, (m1 : Int) - (i : Int) = (m2 : Int) := ⟨m - 1 - i, by omega⟩
          have HM2 : Hid (m2 = m - 1 - i) := by unfold Hid; omega
          go_upto_region 33 with fail
          go_loopw [13] (fun x wr => ∃ (k : Nat), k ≤ r ∧ x = .int .i64 k ∧ Hid (Below w2.heap.size w2 wr)) (fun x _ => r - (intOf x).toNat)
          case atStart => exact ⟨0, by omega, rfl, Below.refl _ _⟩
          case round =>
            obtain ⟨k, hk, rfl, hb⟩ := hrel
            obtain ⟨w3, rfl⟩ : ∃ x, x = wr := ⟨_, rfl⟩
            have HT3 : Hid (Tp FP t K (SS.drop i) w3) := hT.out.below (fun k hk => (hF.out k hk).2.1) hb.out
            go_wp2_with fail
            refine (len_any FP t K (SS.drop i) w3 HT3.out).mono ?_
            rintro e w4 ⟨rfl, rfl⟩
            rw [HRL.out]
            by_cases hkr : k < r
            · have ikr : (k : Int) < (r : Int) := by omega
              have HKt : Hid (Kt w4 w.heap.size E C L (.slice a7 m c7) ks) := hKt.out.on fun q hq => hb.out.block q (hKt.out.lt q hq).2
              obtain ⟨m3, hm3⟩ : ∃ m3 : Nat, (m2 : Int) - (k : Int) = (m3 : Int) := ⟨m2 - k, by have := HM2.out; have := HRR.out; omega⟩
              have hm3m : m3 < m := by omega
              have HM3 : Hid (m3 = m - 1 - (i + k)) := by unfold Hid; have := HM2.out; omega
              go_wp2_with fail
              refine (at_good FP t K (SS.drop i) w4 HT3.out k (by rw [HRL.out]; exact hkr)).mono ?_
              rintro e w5 ⟨g, rfl, hg, O5, b5⟩
              rw [drop_at, HSA.out (i + k) (by have := HRR.out; omega), ← HM3.out] at O5 ⊢
              obtain ⟨kk, hkk⟩ : ∃ kk, kk = ks.getD m3 0 := ⟨_, rfl⟩
              rw [← hkk] at O5 ⊢
              have hkj := HKI.out m3 hm3m
              rw [← hkk] at hkj
              obtain ⟨np, hnp⟩ : ∃ np, np = (L kk).length := ⟨_, rfl⟩
              have HNP : Hid ((L kk).length = np) := hnp.symm
              obtain ⟨a8, c8, e8, h8⟩ := (HKt.out.on (W' := w5) fun q hq => b5.block q (HKt.out.lt q hq).2).form
              rw [HM.out] at e8 h8
              cases e8
              obtain ⟨g7, rfl, d7⟩ := h8 m3 hm3m
              rw [← hkk, ← hnp] at d7
              rw [← hnp]
              rw [← hnp] at hkj
              have HB5 : Hid (Below w2.heap.size w2 w5) := hb.out.trans (b5.mono hb.out.size)
              have HBw5 : Hid (Below w.heap.size w w5) := hB.out.trans (HB5.out.mono hB.out.size)
              have HO5 : Hid (Own w5 g (L kk)) := O5
              have hg2 : w2.heap.size ≤ g := Nat.le_trans hb.out.size hg
              have HAK : Hid (Row w5 (E kk) (L kk) ∧ Bytes (L kk)) := by
                have := (HR.out _ HBw5.out).1.rows kk hkj.1
                exact ⟨this.1, this.2.1⟩
              have hnp65 := hkj.2
              have im3 : (m3 : Int) < (m : Int) := by omega
              clear h8 hkk hnp O5 b5 hkj hb HKt HT3
              go_upto_region 36 with fail
              go_wp2_with fail
              refine (same_any (L kk) (L kk) np np HAK.out.2 HAK.out.2 HNP.out HNP.out (by omega) (some ⟨g, 0, none⟩) (E kk) np (C kk) w5 HO5.out.row HAK.out.1).mono ?_
              rintro e w6 ⟨rfl, b6⟩
              rw [sameB_self]
              have HB6 : Hid (Below w2.heap.size w2 w6) := HB5.out.trans (b6.mono HB5.out.size)
              have HO6 : Hid (Own w6 g (L kk)) := HO5.out.below HO5.out.lt b6
              have HBL : Hid (Bytes (L kk) ∧ (L kk).length = np) := ⟨HAK.out.2, HNP.out⟩
              clear b6 HB5 HBw5 HO5 d7
              obtain ⟨bj, hbj, hbj2⟩ : ∃ bj : Nat, IntKind.u8.wrap ((k : Int) + 7) = (bj : Int) ∧ bj < 256 := ⟨(k + 7) % 256, by simp [IntKind.wrap, IntKind.bits, IntKind.signed], Nat.mod_lt _ (by decide)⟩
              go_upto_region 39 with fail
              go_loopw [16] (fun x wr => ∃ (q : Nat) (Ld : List Nat), q ≤ np ∧ x = .int .i64 q ∧ Hid (Own wr g Ld) ∧ Hid (Bytes Ld ∧ Ld.length = np) ∧ Hid (Kp (fun k => k = g) w6 wr)) (fun x _ => np - (intOf x).toNat)
              case atStart => exact ⟨0, L kk, by omega, rfl, HO6, HBL, Kp.refl _ _⟩
              case round =>
              obtain ⟨q, Ld, hq, rfl, hX, hLd, hKz⟩ := hrel
              by_cases hqy : q < np
              · have iqy : (q : Int) < (np : Int) := by omega
                obtain ⟨y1, hy1⟩ : ∃ y1, y1 = Ld.getD q 0 := ⟨_, rfl⟩
                have d9 := hX.out.cell q (by rw [hLd.out.2]; exact hqy)
                have f9 := hX.out.free q
                have b9 := bytes_at hLd.out.1 q
                rw [← hy1] at d9 b9
                have e1 := xor_u8 y1 bj b9 hbj2
                have HS : Hid (Own (wr.setCell ⟨g, q, none⟩ (.int .u8 ((y1 ^^^ bj : Nat) : Int))) g (Ld.set q (y1 ^^^ bj))) := hX.out.set q _
                have HLS : Hid (Bytes (Ld.set q (y1 ^^^ bj)) ∧ (Ld.set q (y1 ^^^ bj)).length = np) := ⟨fun x hx => by
                  rcases List.mem_or_eq_of_mem_set hx with h | rfl
                  · exact hLd.out.1 x h
                  · exact Nat.xor_lt_two_pow (n := 8) b9 hbj2, by rw [List.length_set]; exact hLd.out.2⟩
                have HKS : Hid (Kp (fun k => k = g) w6 (wr.setCell ⟨g, q, none⟩ (.int .u8 ((y1 ^^^ bj : Nat) : Int)))) := hKz.out.trans (Kp.of_grown (grown_set wr g q _) rfl)
                clear hX hLd hKz hy1
                go_wp2
                go_roundw
                case rel => exact ⟨q + 1, Ld.set q (y1 ^^^ bj), by omega, by go_num, HS, HLS, HKS⟩
                case measure => simp [intOf]; omega
              · obtain rfl : q = np := by omega
                have HBz : Hid (Below w2.heap.size w2 wr) := HB6.out.trans (hKz.out.below HB6.out.size fun k hk => by rw [hk]; exact hg2)
                clear hX hLd hKz
                go_wp2
                go_roundw
                case rel => exact ⟨k + 1, by omega, by go_num, HBz⟩
                case measure => simp [intOf]; omega
            · obtain rfl : k = r := by omega
              have hdr : SS.drop i = SS.getD i [] :: SS.drop (i + 1) := by
                have hl : i < SS.length := by rw [HNN.out]; exact hin
                rw [List.drop_eq_getElem_cons hl, List.getD, List.getElem?_eq_getElem hl, Option.getD_some]
              have HT4 : Hid (Tp FP t K (SS.getD i [] :: SS.drop (i + 1)) w4) := by rw [← hdr]; exact HT3.out
              have HK4 : Hid (Kt w4 w.heap.size E C L (.slice a7 m c7) ks) := hKt.out.on fun q hq => hb.out.block q (hKt.out.lt q hq).2
              have HB4 : Hid (Below w.heap.size w w4) := hB.out.trans (hb.out.mono hB.out.size)
              have HF4 : Hid (Fk w FP w4 (.slice a7 m c7)) := fun q hq => ⟨(hF.out q hq).1, Nat.lt_of_lt_of_le (hF.out q hq).2.1 hb.out.size, (hF.out q hq).2.2⟩
              clear hdr HT3 hKt hB hF hb hT
              go_wp2_with fail
              refine (back_some FP t K (SS.getD i []) (SS.drop (i + 1)) w4 HT4.out).mono ?_
              rintro e w5 ⟨g, rfl, O5, hgF, T5, K5⟩
              have hm2m : m2 < m := by omega
              rw [HSA.out i hin, ← HM2.out] at O5 ⊢
              obtain ⟨kk, hkk⟩ : ∃ kk, kk = ks.getD m2 0 := ⟨_, rfl⟩
              rw [← hkk] at O5 ⊢
              have hkj := HKI.out m2 hm2m
              rw [← hkk] at hkj
              obtain ⟨np, hnp⟩ : ∃ np, np = (L kk).length := ⟨_, rfl⟩
              have HNP : Hid ((L kk).length = np) := hnp.symm
              have HK5 : Hid (Kt w5 w.heap.size E C L (.slice a7 m c7) ks) := HK4.out.on fun q hq => K5.block q (HK4.out.lt q hq).2 fun h => (HF4.out q h).2.2 hq
              have HKL : Hid (∀ q, Value.ownBlock (.slice a7 m c7) = some q → w.heap.size ≤ q ∧ q < w4.heap.size) := HK4.out.lt
              obtain ⟨a8, c8, e8, h8⟩ := HK5.out.form
              rw [HM.out] at e8 h8
              cases e8
              obtain ⟨g7, rfl, d7⟩ := h8 m2 hm2m
              rw [← hkk, ← hnp] at d7
              rw [← hnp]
              rw [← hnp] at hkj
              have HBw5 : Hid (Below w.heap.size w w5) := HB4.out.trans (K5.below HB4.out.size fun q hq => (HF4.out q hq).1)
              have HO5 : Hid (Own w5 g (L kk)) := O5
              have HAK : Hid (Row w5 (E kk) (L kk) ∧ Bytes (L kk)) := by
                have := (HR.out _ HBw5.out).1.rows kk hkj.1
                exact ⟨this.1, this.2.1⟩
              have HZ : Hid (w.heap.size ≤ w4.heap.size ∧ w4.heap.size ≤ w5.heap.size) := ⟨HB4.out.size, K5.size⟩
              have HT5 : Hid (Tp (fun k => (FP k ∧ k ≠ g) ∨ (w4.heap.size ≤ k ∧ k < w5.heap.size)) t K (SS.drop (i + 1)) w5) := T5
              have HG : Hid (w.heap.size ≤ g ∧ g < w4.heap.size ∧ Value.ownBlock (.slice (some ⟨g7, 0, none⟩) m c7) ≠ some g) := HF4.out g hgF
              have hnp65 := hkj.2
              have im2 : (m2 : Int) < (m : Int) := by omega
              clear h8 hkk hnp O5 hkj HK4 HT4 HB4 T5 K5
              go_upto_region 43 with fail
              go_wp2_with fail
              refine (same_any (L kk) (L kk) np np HAK.out.2 HAK.out.2 HNP.out HNP.out (by omega) (some ⟨g, 0, none⟩) (E kk) np (C kk) w5 HO5.out.row HAK.out.1).mono ?_
              rintro e w6 ⟨rfl, b6⟩
              rw [sameB_self]
              have HB6 : Hid (Below w.heap.size w w6) := HBw5.out.trans (b6.mono HBw5.out.size)
              have HO6 : Hid (Own w6 g (L kk)) := HO5.out.below HO5.out.lt b6
              have HT6 : Hid (Tp (fun k => (FP k ∧ k ≠ g) ∨ (w4.heap.size ≤ k ∧ k < w5.heap.size)) t K (SS.drop (i + 1)) w6) := HT5.out.below (fun q hq => by
                have hz := HZ.out
                rcases hq with h | h
                · have := (HF4.out q h.1).2.1; omega
                · exact h.2) b6
              have HK6 : Hid (Kt w6 w.heap.size E C L (.slice (some ⟨g7, 0, none⟩) m c7) ks) := HK5.out.on fun q hq => b6.block q (HK5.out.lt q hq).2
              have HBL : Hid (Bytes (L kk) ∧ (L kk).length = np) := ⟨HAK.out.2, HNP.out⟩
              have HZ6 : Hid (w5.heap.size ≤ w6.heap.size) := b6.size
              clear b6 HBw5 HO5 d7 HT5 HK5
              go_upto_region 46 with fail
              go_loopw [19] (fun x wr => ∃ (q : Nat) (Ld : List Nat), q ≤ np ∧ x = .int .i64 q ∧ Hid (Own wr g Ld) ∧ Hid (Bytes Ld ∧ Ld.length = np) ∧ Hid (Kp (fun k => k = g) w6 wr)) (fun x _ => np - (intOf x).toNat)
              case atStart => exact ⟨0, L kk, by omega, rfl, HO6, HBL, Kp.refl _ _⟩
              case round =>
              obtain ⟨q, Ld, hq, rfl, hX, hLd, hKz⟩ := hrel
              by_cases hqy : q < np
              · have iqy : (q : Int) < (np : Int) := by omega
                obtain ⟨y1, hy1⟩ : ∃ y1, y1 = Ld.getD q 0 := ⟨_, rfl⟩
                have d9 := hX.out.cell q (by rw [hLd.out.2]; exact hqy)
                have f9 := hX.out.free q
                have b9 := bytes_at hLd.out.1 q
                rw [← hy1] at d9 b9
                have e1 : bits .xor .u8 (y1 : Int) 153 = ((y1 ^^^ 153 : Nat) : Int) := xor_u8 y1 153 b9 (by decide)
                have HS : Hid (Own (wr.setCell ⟨g, q, none⟩ (.int .u8 ((y1 ^^^ 153 : Nat) : Int))) g (Ld.set q (y1 ^^^ 153))) := hX.out.set q _
                have HLS : Hid (Bytes (Ld.set q (y1 ^^^ 153)) ∧ (Ld.set q (y1 ^^^ 153)).length = np) := ⟨fun x hx => by
                  rcases List.mem_or_eq_of_mem_set hx with h | rfl
                  · exact hLd.out.1 x h
                  · exact Nat.xor_lt_two_pow (n := 8) b9 (by decide), by rw [List.length_set]; exact hLd.out.2⟩
                have HKS : Hid (Kp (fun k => k = g) w6 (wr.setCell ⟨g, q, none⟩ (.int .u8 ((y1 ^^^ 153 : Nat) : Int)))) := hKz.out.trans (Kp.of_grown (grown_set wr g q _) rfl)
                clear hX hLd hKz hy1
                go_wp2
                go_roundw
                case rel => exact ⟨q + 1, Ld.set q (y1 ^^^ 153), by omega, by go_num, HS, HLS, HKS⟩
                case measure => simp [intOf]; omega
              · obtain rfl : q = np := by omega
                have HBz : Hid (Below w.heap.size w wr) := HB6.out.trans (hKz.out.below HB6.out.size fun k hk => by rw [hk]; exact HG.out.1)
                have HTz : Hid (Tp (fun k => (FP k ∧ k ≠ g) ∨ (w4.heap.size ≤ k ∧ k < w5.heap.size)) t K (SS.drop (i + 1)) wr) := HT6.out.on fun k hk => hKz.out.block k (by
                  have hz := HZ.out
                  have hz6 := HZ6.out
                  rcases hk with h | h
                  · have := (HF4.out k h.1).2.1; omega
                  · omega) (fun hS => by
                  have hg := HG.out.2.1
                  rcases hk with h | h
                  · exact h.2 hS
                  · omega)
                have HKz : Hid (Kt wr w.heap.size E C L (.slice (some ⟨g7, 0, none⟩) m c7) ks) := HK6.out.on fun k hk => hKz.out.block k (HK6.out.lt k hk).2 fun hS => by
                  rw [hS] at hk
                  exact HG.out.2.2 hk
                have HFz : Hid (Fk w (fun k => (FP k ∧ k ≠ g) ∨ (w4.heap.size ≤ k ∧ k < w5.heap.size)) wr (.slice (some ⟨g7, 0, none⟩) m c7)) := fun k hk => by
                  have hz := HZ.out
                  have hz6 := HZ6.out
                  have hz7 := hKz.out.size
                  rcases hk with h | h
                  · have h1 := HF4.out k h.1
                    exact ⟨h1.1, by omega, h1.2.2⟩
                  · exact ⟨by omega, by omega, fun h2 => by have := HKL.out k h2; omega⟩
                clear hX hLd hKz HT6 HK6
                go_wp2
                go_roundw
                case rel => exact ⟨i + 1, _, by omega, by go_num, HKz, HTz, HFz, HBz⟩
                case measure => simp [intOf]; omega
        · obtain rfl : i = nn := by omega
          have hd : SS.drop i = [] := List.drop_eq_nil_of_le (by rw [HNN.out]; exact Nat.le_refl _)
          have HT4 : Hid (Tp FP t K [] wi) := by rw [← hd]; exact hT.out
          have HB4 : Hid (Below w.heap.size w wi) := hB.out
          clear hd hT hKt hF hB
          go_wp2_with fail
          refine (back_empty FP t K wi HT4.out).mono ?_
          rintro e w5 ⟨rfl, rfl⟩
          go_wp2_with fail
          refine (at_bad FP t K [] w5 HT4.out 0 (.inr (by simp))).mono ?_
          rintro e w6 ⟨rfl, rfl⟩
          go_wp2_with fail
          refine (len_any FP t K [] w6 HT4.out).mono ?_
          rintro e w7 ⟨rfl, rfl⟩
          go_wp2_with fail
          refine (bytes_any FP t K [] w7 HT4.out).mono ?_
          rintro e w8 ⟨rfl, nd, rfl⟩
          rw [show byt [] = 0 from rfl]
          go_wp2
          go_ret
          exact ⟨rfl, below_drawsX HB4.out nd⟩
end Go.Proofs.YtnlklbfmpmkoiaaDoor
