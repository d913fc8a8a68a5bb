/-
  answers: Push.
-/
import Derived.Test.YtlckjbangdnejaaDoorXtAnsB
set_option linter.unusedSimpArgs false
set_option linter.unusedVariables false
namespace Go.Proofs.YtlckjbangdnejaaDoor
open Go.RowKit Classical
set_option maxRecDepth 100000 in
set_option maxHeartbeats 6400000 in
theorem nil_1 (nn : Int) (ea : Option Addr) (y ek : Nat) (P : List Nat) (hP : Bytes P ∧ P.length = y) (hy : y ≤ 140737488351232) (W : World) (hR : Row W ea P) :
    Calls Tryd.prog 23 #[.pointer none, .pointer none, .agg #[.int .i64 1, .int .i64 nn, .slice ea y ek]] W fun e W' => e = .returned (.bool true) ∧ Below W.heap.size W W' := by
  have HP : Hid (Bytes P ∧ P.length = y) := hP
  obtain ⟨w1, hw1⟩ : ∃ w1, (W.alloc (.cells #[.int .i64 1, .int .i64 nn, .slice ea y ek] 38)) = w1 := ⟨_, rfl⟩
  have HW1 : Hid ((W.alloc (.cells #[.int .i64 1, .int .i64 nn, .slice ea y ek] 38)) = w1) := hw1
  have c0 : w1.cell? ⟨W.heap.size, 0, none⟩ = some (.int .i64 1) := by rw [← hw1]; exact (Blk.new W _ _).cell 0
  have c2 : w1.cell? ⟨W.heap.size, 2, none⟩ = some (.slice ea y ek) := by rw [← hw1]; exact (Blk.new W _ _).cell 2
  have bW1 : Below W.heap.size W w1 := by rw [← hw1]; exact (Below.refl _ _).alloc (Nat.le_refl _) _
  have HBW : Hid (Below W.heap.size W w1) := bW1
  have HRW : Hid (Row w1 ea P) := hR.below bW1
  clear hP hw1 bW1 hR
  have HC2 : Hid (∀ V, Below w1.heap.size w1 V → V.cell? ⟨W.heap.size, 2, none⟩ = some (.slice ea y ek)) := fun V hV => (hV.cell (p := ⟨W.heap.size, 2, none⟩) (cell_lt c2)).trans c2
  have HT1 : Hid (Tx (w1.alloc (.cells #[] 5)) w1.heap.size (.slice (some ⟨w1.heap.size, 0, none⟩) 0 0) []) := ⟨rfl, .inr ⟨_, 0, _, rfl, Nat.le_refl _, heap_alloc_new w1 _, Nat.le_refl _, by decide, rfl, rfl⟩⟩
  have HB1 : Hid (Below w1.heap.size w1 (w1.alloc (.cells #[] 5))) := (Below.refl _ _).alloc (Nat.le_refl _) _
  have HL1 : Hid (([] : List Nat).length + P.length ≤ 140737488500000) := by unfold Hid; rw [HP.out.2]; simp; omega
  have HR1 : Hid (Row (w1.alloc (.cells #[] 5)) ea P) := HRW.out.below HB1.out
  clear c2
  go_enter Tryd.func23, Tryd.ntmps23
  go_upto_region 1 with fail
  rw [HW1.out]
  clear HW1
  go_upto_region 3 with fail
  clear c0
  have c2 := HC2.out _ HB1.out
  go_upto_region 4 with (refine wpList_apW rfl _ _ rfl HT1.out HB1.out HB1.out.size rfl rfl HP.out.2 HR1.out HL1.out ?_; intro v9 w5 T5 B5 hs5)
  rw [List.nil_append] at T5
  obtain ⟨a9, k9, rfl, hk9, -, -⟩ := T5.full
  rw [HP.out.2] at hk9 T5 ⊢
  have HT5 : Hid (Tx w5 w1.heap.size (.slice a9 y k9) P) := T5
  have HB5 : Hid (Below w1.heap.size w1 w5) := B5
  clear T5 B5 hs5 HT1 HB1 HL1 HR1 c2
  go_wp2_with fail
  refine (push_nil _ w5).mono ?_
  rintro e w6 ⟨rfl, rfl⟩
  have c2 := HC2.out w6 HB5.out
  go_wp2_with fail
  refine (dpush_nil _ w6).mono ?_
  rintro e w7 ⟨rfl, rfl⟩
  have HX7 : Hid (Tx w7 w1.heap.size (.slice a9 y k9) P) := HT5
  have HB7 : Hid (Below W.heap.size W w7) := HBW.out.trans (HB5.out.mono HBW.out.size)
  have HXL : Hid (∀ k, Value.ownBlock (.slice a9 y k9) = some k → W.heap.size ≤ k) := fun k hk => Nat.le_trans HBW.out.size (HT5.out.block k hk).1
  clear c2 HT5 HB5 HC2
  go_upto_region 7 with fail
  go_loopw [10] (fun x wr => ∃ (q : Nat) (Ld : List Nat), q ≤ y ∧ x = .int .i64 q ∧ Hid (Tx wr w1.heap.size (.slice a9 y k9) Ld) ∧ Hid (Bytes Ld ∧ Ld.length = y) ∧ Hid (Kp (fun k => Value.ownBlock (.slice a9 y k9) = some k) w7 wr)) (fun x _ => y - (intOf x).toNat)
  case atStart => exact ⟨0, P, by omega, rfl, HX7, HP, Kp.refl _ _⟩
  case round =>
    obtain ⟨q, Ld, hq, rfl, hX, hLd, hKz⟩ := hrel
    by_cases hqy : q < y
    · have iqy : (q : Int) < (y : Int) := by omega
      obtain ⟨g9, k9', e9, -, -, -, hcl, hfr, hset⟩ := hX.out.opened (by rw [hLd.out.2]; omega)
      rw [hLd.out.2] at e9
      cases e9
      have d9 := hcl q (by rw [hLd.out.2]; exact hqy)
      have f9 := hfr q
      have b9 := bytes_at hLd.out.1 q
      obtain ⟨y1, hy1⟩ : ∃ y1, y1 = Ld.getD q 0 := ⟨_, rfl⟩
      rw [← hy1] at d9 b9
      have e1 : bits .xor .u8 (y1 : Int) 90 = ((y1 ^^^ 90 : Nat) : Int) := xor_u8 y1 90 b9 (by decide)
      have HS : Hid (Tx (wr.setCell ⟨g9, q, none⟩ (.int .u8 ((y1 ^^^ 90 : Nat) : Int))) w1.heap.size (.slice (some ⟨g9, 0, none⟩) y k9) (Ld.set q (y1 ^^^ 90))) := hset q (by rw [hLd.out.2]; exact hqy) _
      have HLS : Hid (Bytes (Ld.set q (y1 ^^^ 90)) ∧ (Ld.set q (y1 ^^^ 90)).length = y) := ⟨fun x hx => by
        rcases List.mem_or_eq_of_mem_set hx with h | rfl
        · exact hLd.out.1 x h
        · exact Nat.xor_lt_two_pow (n := 8) b9 (by decide), by rw [List.length_set]; exact hLd.out.2⟩
      have HKS : Hid (Kp (fun k => Value.ownBlock (.slice (some ⟨g9, 0, none⟩) y k9) = some k) w7 (wr.setCell ⟨g9, q, none⟩ (.int .u8 ((y1 ^^^ 90 : Nat) : Int)))) := hKz.out.trans (Kp.of_grown (grown_set wr g9 q _) rfl)
      clear hcl hfr hset hX hLd hKz hy1
      go_wp2
      go_roundw
      case rel => exact ⟨q + 1, Ld.set q (y1 ^^^ 90), by omega, by go_num, HS, HLS, HKS⟩
      case measure => simp [intOf]; omega
    · obtain rfl : q = y := by omega
      have HF : Hid (Below W.heap.size W wr) := HB7.out.trans (hKz.out.below HB7.out.size HXL.out)
      clear hX hLd hKz
      go_wp2
      go_ret
      exact ⟨rfl, HF.out⟩
set_option maxRecDepth 100000 in
set_option maxHeartbeats 6400000 in
theorem ans_1 (w0 : World) (t K u : Nat) (FP FU : Nat → Prop) (Ss : List (List Nat)) (nn : Int) (ea : Option Addr) (y ek : Nat) (P : List Nat) (hP : Bytes P ∧ P.length = y) (hy : y ≤ 140737488351232) (W : World) (h : Tu w0 t K u FP FU Ss W) (hK : K ≤ 4095) (hR : Row w0 ea P) (tab : Tab w0) :
    Calls Tryd.prog 23 #[.pointer (some ⟨t, 0, none⟩), .pointer (some ⟨u, 0, none⟩), .agg #[.int .i64 1, .int .i64 nn, .slice ea y ek]] W fun e W' => e = .returned (.bool true) ∧ ∃ FQ GQ Ts, Tu w0 t K u FQ GQ Ts W' := by
  have HP : Hid (Bytes P ∧ P.length = y) := hP
  obtain ⟨w1, hw1⟩ : ∃ w1, (W.alloc (.cells #[.int .i64 1, .int .i64 nn, .slice ea y ek] 38)) = w1 := ⟨_, rfl⟩
  have HW1 : Hid ((W.alloc (.cells #[.int .i64 1, .int .i64 nn, .slice ea y ek] 38)) = w1) := hw1
  have c0 : w1.cell? ⟨W.heap.size, 0, none⟩ = some (.int .i64 1) := by rw [← hw1]; exact (Blk.new W _ _).cell 0
  have c2 : w1.cell? ⟨W.heap.size, 2, none⟩ = some (.slice ea y ek) := by rw [← hw1]; exact (Blk.new W _ _).cell 2
  have bW1 : Below W.heap.size W w1 := by rw [← hw1]; exact (Below.refl _ _).alloc (Nat.le_refl _) _
  have HT : Hid (Tu w0 t K u FP FU Ss w1) := h.on bW1
  have HWS : Hid (W.heap.size < w1.heap.size) := cell_lt c2
  have HWS2 : Hid (¬ FP W.heap.size) := fun hf => by have := (h.f1 _ hf).2; omega
  have HRW : Hid (Row w1 ea P) := hR.below HT.out.b
  have HR0 : Hid (Row w0 ea P ∧ Tab w0) := ⟨hR, tab⟩
  clear hP hw1 bW1 hR h tab
  have HC2 : Hid (∀ V, Below w1.heap.size w1 V → V.cell? ⟨W.heap.size, 2, none⟩ = some (.slice ea y ek)) := fun V hV => (hV.cell (p := ⟨W.heap.size, 2, none⟩) (cell_lt c2)).trans c2
  have HT1 : Hid (Tx (w1.alloc (.cells #[] 5)) w1.heap.size (.slice (some ⟨w1.heap.size, 0, none⟩) 0 0) []) := ⟨rfl, .inr ⟨_, 0, _, rfl, Nat.le_refl _, heap_alloc_new w1 _, Nat.le_refl _, by decide, rfl, rfl⟩⟩
  have HB1 : Hid (Below w1.heap.size w1 (w1.alloc (.cells #[] 5))) := (Below.refl _ _).alloc (Nat.le_refl _) _
  have HL1 : Hid (([] : List Nat).length + P.length ≤ 140737488500000) := by unfold Hid; rw [HP.out.2]; simp; omega
  have HR1 : Hid (Row (w1.alloc (.cells #[] 5)) ea P) := HRW.out.below HB1.out
  clear c2
  go_enter Tryd.func23, Tryd.ntmps23
  go_upto_region 1 with fail
  rw [HW1.out]
  clear HW1
  go_upto_region 3 with fail
  clear c0
  have c2 := HC2.out _ HB1.out
  go_upto_region 4 with (refine wpList_apW rfl _ _ rfl HT1.out HB1.out HB1.out.size rfl rfl HP.out.2 HR1.out HL1.out ?_; intro v9 w5 T5 B5 hs5)
  rw [List.nil_append] at T5
  obtain ⟨a9, k9, rfl, hk9, -, -⟩ := T5.full
  rw [HP.out.2] at hk9 T5 ⊢
  have HT5 : Hid (Tx w5 w1.heap.size (.slice a9 y k9) P) := T5
  have HB5 : Hid (Below w1.heap.size w1 w5) := B5
  clear T5 B5 hs5 HT1 HB1 HL1 HR1 c2
  have HT5' : Hid (Tu w0 t K u FP FU Ss w5) := HT.out.on HB5.out
  have HF1 : Hid ((∀ k, FP k → k < w1.heap.size) ∧ ∀ k, FU k → k < w1.heap.size) := ⟨fun k hk => (HT.out.f1 k hk).2, fun k hk => (HT.out.f2 k hk).2⟩
  by_cases hy3 : y ≤ 65536
  · have HGD : Hid (Good P) := ⟨HP.out.1, by rw [HP.out.2]; exact hy3⟩
    have iy : ¬ (65536 : Int) < (y : Int) := by omega
    go_wp2_with fail
    refine (push_own FP t K Ss P (.slice a9 y k9) w1.heap.size HGD.out w5 HT5'.out.t1 HT5.out (HR0.out.2.below HR0.out.2.lt HT5'.out.b) HF1.out.1).mono ?_
    rintro e w6 ⟨rfl, T6, K6⟩
    have hs5 := HB5.out.size
    have hs6 := K6.size
    have b6 : Below w0.heap.size w0 w6 := HT5'.out.b.trans (K6.below HT5'.out.b.size fun k hk => (HT.out.f1 k hk).1)
    have HD6 : Hid (Dt FU u (K + 1) Ss.reverse w6) := HT5'.out.t2.on fun k hk => K6.block k (HT5'.out.f2 k hk).2 fun h => HT.out.ap k h hk
    have HR6 : Hid (Row w6 ea P) := HR0.out.1.below b6
    have c2 : w6.cell? ⟨W.heap.size, 2, none⟩ = some (.slice ea y ek) := (World.cell?_of_block (a := ⟨W.heap.size, 2, none⟩) (K6.block W.heap.size (by have := HWS.out; omega) fun h => HWS2.out h)).trans (HC2.out w5 HB5.out)
    have HM : Hid (Tp (fun k => FP k ∨ (w5.heap.size ≤ k ∧ k < w6.heap.size)) t K ((P :: Ss).take (K + 1)) w6 ∧ Kp FP w5 w6 ∧ Below w0.heap.size w0 w6) := ⟨T6, K6, b6⟩
    have HX6 : Hid (Tx w6 w1.heap.size (.slice a9 y k9) P) := HT5.out.keep fun k hk => K6.block k (HT5.out.block k hk).2 fun h => by
      have h1 := HF1.out.1 k h
      have h2 := (HT5.out.block k hk).1
      omega
    have HLE : Hid (Ss.length ≤ K + 1) := HT.out.t1.le
    clear T6 K6 b6 hs5 hs6
    go_wp2_with fail
    refine (dpush_any FU u (K + 1) Ss.reverse w6 HD6.out (fun k hk => by have := HF1.out.2 k hk; have := HB5.out.size; have := HM.out.2.1.size; omega) (by omega) (by omega) P ea y ek HGD.out HP.out.2 HR6.out).mono ?_
    rintro e w7 ⟨rfl, D7, K7⟩
    rw [← take_rev Ss P K HLE.out] at D7
    have HT7 : Hid (Tu w0 t K u (fun k => FP k ∨ (w5.heap.size ≤ k ∧ k < w6.heap.size)) (fun k => FU k ∨ (w6.heap.size ≤ k ∧ k < w7.heap.size)) ((P :: Ss).take (K + 1)) w7) := by
      have hs5 := HB5.out.size
      have hs6 := HM.out.2.1.size
      have hs7 := K7.size
      have hs0 := HT.out.b.size
      refine ⟨HM.out.1.on fun k hk => K7.block k ?_ ?_, D7, fun k hk => ?_, fun k hk => ?_, fun k hk hu => ?_, HM.out.2.2.trans (K7.below HM.out.2.2.size fun k hk => (HT.out.f2 k hk).1)⟩
      · rcases hk with h | h
        · have := HF1.out.1 k h; omega
        · exact h.2
      · intro hu
        rcases hk with h | h
        · exact HT.out.ap k h hu
        · have := HF1.out.2 k hu; omega
      · rcases hk with h | h
        · have := HT.out.f1 k h; omega
        · omega
      · rcases hk with h | h
        · have := HT.out.f2 k h; omega
        · omega
      · rcases hk with h | h
        · rcases hu with h2 | h2
          · exact HT.out.ap k h h2
          · have := HF1.out.1 k h; omega
        · rcases hu with h2 | h2
          · have := HF1.out.2 k h2; omega
          · omega
    have HX7 : Hid (Tx w7 w1.heap.size (.slice a9 y k9) P) := HX6.out.keep fun k hk => K7.block k (HX6.out.block k hk).2 fun h => by
      have h1 := HF1.out.2 k h
      have h2 := (HX6.out.block k hk).1
      omega
    have HXL : Hid (∀ k, Value.ownBlock (.slice a9 y k9) = some k → w0.heap.size ≤ k ∧ ¬ (FP k ∨ (w5.heap.size ≤ k ∧ k < w6.heap.size)) ∧ ¬ (FU k ∨ (w6.heap.size ≤ k ∧ k < w7.heap.size))) := fun k hk => by
      have h1 := HT5.out.block k hk
      have h2 := HT.out.b.size
      have h3 := HM.out.2.1.size
      refine ⟨by omega, fun h => ?_, fun h => ?_⟩
      · rcases h with h | h
        · have := HF1.out.1 k h; omega
        · omega
      · rcases h with h | h
        · have := HF1.out.2 k h; omega
        · omega
    obtain ⟨FQ, hFQ⟩ : ∃ FQ : Nat → Prop, (fun k => FP k ∨ (w5.heap.size ≤ k ∧ k < w6.heap.size)) = FQ := ⟨_, rfl⟩
    obtain ⟨GQ, hGQ⟩ : ∃ GQ : Nat → Prop, (fun k => FU k ∨ (w6.heap.size ≤ k ∧ k < w7.heap.size)) = GQ := ⟨_, rfl⟩
    have HXM : Hid (∀ k, Value.ownBlock (.slice a9 y k9) = some k → w0.heap.size ≤ k ∧ ¬ FQ k ∧ ¬ GQ k) := by rw [← hFQ, ← hGQ]; exact HXL.out
    rw [hFQ, hGQ] at HT7
    obtain ⟨Ts, hTs⟩ : ∃ Ts, (P :: Ss).take (K + 1) = Ts := ⟨_, rfl⟩
    rw [hTs] at HT7
    clear hFQ hGQ hTs HXL D7 K7 HX6 HM HD6 HR6 c2 HT5' HT5 HT HB5 HC2 HR0 HRW HLE HF1
    go_upto_region 7 with fail
    go_loopw [10] (fun x wr => ∃ (q : Nat) (Ld : List Nat), q ≤ y ∧ x = .int .i64 q ∧ Hid (Tx wr w1.heap.size (.slice a9 y k9) Ld) ∧ Hid (Bytes Ld ∧ Ld.length = y) ∧ Hid (Kp (fun k => Value.ownBlock (.slice a9 y k9) = some k) w7 wr)) (fun x _ => y - (intOf x).toNat)
    case atStart => exact ⟨0, P, by omega, rfl, HX7, HP, Kp.refl _ _⟩
    case round =>
      obtain ⟨q, Ld, hq, rfl, hX, hLd, hKz⟩ := hrel
      by_cases hqy : q < y
      · have iqy : (q : Int) < (y : Int) := by omega
        obtain ⟨g9, k9', e9, -, -, -, hcl, hfr, hset⟩ := hX.out.opened (by rw [hLd.out.2]; omega)
        rw [hLd.out.2] at e9
        cases e9
        have d9 := hcl q (by rw [hLd.out.2]; exact hqy)
        have f9 := hfr q
        have b9 := bytes_at hLd.out.1 q
        obtain ⟨y1, hy1⟩ : ∃ y1, y1 = Ld.getD q 0 := ⟨_, rfl⟩
        rw [← hy1] at d9 b9
        have e1 : bits .xor .u8 (y1 : Int) 90 = ((y1 ^^^ 90 : Nat) : Int) := xor_u8 y1 90 b9 (by decide)
        have HS : Hid (Tx (wr.setCell ⟨g9, q, none⟩ (.int .u8 ((y1 ^^^ 90 : Nat) : Int))) w1.heap.size (.slice (some ⟨g9, 0, none⟩) y k9) (Ld.set q (y1 ^^^ 90))) := hset q (by rw [hLd.out.2]; exact hqy) _
        have HLS : Hid (Bytes (Ld.set q (y1 ^^^ 90)) ∧ (Ld.set q (y1 ^^^ 90)).length = y) := ⟨fun x hx => by
          rcases List.mem_or_eq_of_mem_set hx with h | rfl
          · exact hLd.out.1 x h
          · exact Nat.xor_lt_two_pow (n := 8) b9 (by decide), by rw [List.length_set]; exact hLd.out.2⟩
        have HKS : Hid (Kp (fun k => Value.ownBlock (.slice (some ⟨g9, 0, none⟩) y k9) = some k) w7 (wr.setCell ⟨g9, q, none⟩ (.int .u8 ((y1 ^^^ 90 : Nat) : Int)))) := hKz.out.trans (Kp.of_grown (grown_set wr g9 q _) rfl)
        clear hcl hfr hset hX hLd hKz hy1
        go_wp2
        go_roundw
        case rel => exact ⟨q + 1, Ld.set q (y1 ^^^ 90), by omega, by go_num, HS, HLS, HKS⟩
        case measure => simp [intOf]; omega
      · obtain rfl : q = y := by omega
        have HF : Hid (Tu w0 t K u FQ GQ Ts wr) := HT7.out.kp hKz.out HXM.out
        clear hX hLd hKz
        go_wp2
        go_ret
        exact ⟨rfl, FQ, GQ, Ts, HF.out⟩
  · have iy : (65536 : Int) < (y : Int) := by omega
    go_wp2_with fail
    refine (push_long FP t K Ss a9 y k9 (by omega) w5 HT5'.out.t1).mono ?_
    rintro e w6 ⟨rfl, rfl⟩
    have c2 := HC2.out w6 HB5.out
    go_wp2_with fail
    refine (dpush_long FU u (K + 1) Ss.reverse ea y ek (by omega) w6).mono ?_
    rintro e w7 ⟨rfl, rfl⟩
    have HX7 : Hid (Tx w7 w1.heap.size (.slice a9 y k9) P) := HT5
    have HXM : Hid (∀ k, Value.ownBlock (.slice a9 y k9) = some k → w0.heap.size ≤ k ∧ ¬ FP k ∧ ¬ FU k) := fun k hk => by
      have h1 := HT5.out.block k hk
      have h2 := HT.out.b.size
      exact ⟨by omega, fun h => by have := HF1.out.1 k h; omega, fun h => by have := HF1.out.2 k h; omega⟩
    have HT7 : Hid (Tu w0 t K u FP FU Ss w7) := HT5'
    clear c2 HT5 HT5' HT HB5 HC2 HR0 HRW HF1
    go_upto_region 7 with fail
    go_loopw [10] (fun x wr => ∃ (q : Nat) (Ld : List Nat), q ≤ y ∧ x = .int .i64 q ∧ Hid (Tx wr w1.heap.size (.slice a9 y k9) Ld) ∧ Hid (Bytes Ld ∧ Ld.length = y) ∧ Hid (Kp (fun k => Value.ownBlock (.slice a9 y k9) = some k) w7 wr)) (fun x _ => y - (intOf x).toNat)
    case atStart => exact ⟨0, P, by omega, rfl, HX7, HP, Kp.refl _ _⟩
    case round =>
      obtain ⟨q, Ld, hq, rfl, hX, hLd, hKz⟩ := hrel
      by_cases hqy : q < y
      · have iqy : (q : Int) < (y : Int) := by omega
        obtain ⟨g9, k9', e9, -, -, -, hcl, hfr, hset⟩ := hX.out.opened (by rw [hLd.out.2]; omega)
        rw [hLd.out.2] at e9
        cases e9
        have d9 := hcl q (by rw [hLd.out.2]; exact hqy)
        have f9 := hfr q
        have b9 := bytes_at hLd.out.1 q
        obtain ⟨y1, hy1⟩ : ∃ y1, y1 = Ld.getD q 0 := ⟨_, rfl⟩
        rw [← hy1] at d9 b9
        have e1 : bits .xor .u8 (y1 : Int) 90 = ((y1 ^^^ 90 : Nat) : Int) := xor_u8 y1 90 b9 (by decide)
        have HS : Hid (Tx (wr.setCell ⟨g9, q, none⟩ (.int .u8 ((y1 ^^^ 90 : Nat) : Int))) w1.heap.size (.slice (some ⟨g9, 0, none⟩) y k9) (Ld.set q (y1 ^^^ 90))) := hset q (by rw [hLd.out.2]; exact hqy) _
        have HLS : Hid (Bytes (Ld.set q (y1 ^^^ 90)) ∧ (Ld.set q (y1 ^^^ 90)).length = y) := ⟨fun x hx => by
          rcases List.mem_or_eq_of_mem_set hx with h | rfl
          · exact hLd.out.1 x h
          · exact Nat.xor_lt_two_pow (n := 8) b9 (by decide), by rw [List.length_set]; exact hLd.out.2⟩
        have HKS : Hid (Kp (fun k => Value.ownBlock (.slice (some ⟨g9, 0, none⟩) y k9) = some k) w7 (wr.setCell ⟨g9, q, none⟩ (.int .u8 ((y1 ^^^ 90 : Nat) : Int)))) := hKz.out.trans (Kp.of_grown (grown_set wr g9 q _) rfl)
        clear hcl hfr hset hX hLd hKz hy1
        go_wp2
        go_roundw
        case rel => exact ⟨q + 1, Ld.set q (y1 ^^^ 90), by omega, by go_num, HS, HLS, HKS⟩
        case measure => simp [intOf]; omega
      · obtain rfl : q = y := by omega
        have HF : Hid (Tu w0 t K u FP FU Ss wr) := HT7.out.kp hKz.out HXM.out
        clear hX hLd hKz
        go_wp2
        go_ret
        exact ⟨rfl, FP, FU, Ss, HF.out⟩
end Go.Proofs.YtlckjbangdnejaaDoor
