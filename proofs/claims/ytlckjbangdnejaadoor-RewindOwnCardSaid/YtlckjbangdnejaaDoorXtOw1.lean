/-
  The law RewindOwn.
-/
import Derived.Test.YtlckjbangdnejaaDoorXtOw2
set_option linter.unusedSimpArgs false
set_option linter.unusedVariables false
namespace Go.Proofs.YtlckjbangdnejaaDoor
open Go.RowKit Classical
set_option maxRecDepth 100000 in
set_option maxHeartbeats 16000000 in
theorem own_law (F T : List Nat) (nf nt : Nat) (hF : Good F) (hT : Good T) (hnf : F.length = nf) (hnt : T.length = nt) (a b : Option Addr) (ka kb : Nat) (w : World) (RF : Row w a F) (RT : Row w b T) (tab : Tab w) :
    Calls Tryd.prog 6 #[.slice a nf ka, .slice b nt kb] w fun e w' => e = .returned (.bool true) ∧ Below w.heap.size w w' := by
  have f6 : nf ≤ 65536 := by rw [← hnf]; exact hF.2
  have t6 : nt ≤ 65536 := by rw [← hnt]; exact hT.2
  have HF : Hid (Good F ∧ F.length = nf) := ⟨hF, hnf⟩
  have HT : Hid (Good T ∧ T.length = nt) := ⟨hT, hnt⟩
  have HR : Hid (Row w a F ∧ Row w b T ∧ Tab w) := ⟨RF, RT, tab⟩
  obtain ⟨d1, hd1⟩ : ∃ d1, (diffL F T).length = d1 := ⟨_, rfl⟩
  obtain ⟨d2, hd2⟩ : ∃ d2, (diffL T F).length = d2 := ⟨_, rfl⟩
  have hd1b : d1 ≤ 65560 := by rw [← hd1]; exact (diffL_len hF.2 hT.2).2
  have hd2b : d2 ≤ 65560 := by rw [← hd2]; exact (diffL_len hT.2 hF.2).2
  have HD0 : Hid ((diffL F T).length = d1 ∧ (diffL T F).length = d2 ∧ Bytes (diffL F T) ∧ Bytes (diffL T F)) := ⟨hd1, hd2, diffL_bytes hF.1 hT.1, diffL_bytes hT.1 hF.1⟩
  have HDA : Hid (∀ a b ka kb V, Row V a F → Row V b T → Tab V → Calls Tryd.prog 12 #[.slice a nf ka, .slice b nt kb] V (DfOk V (diffL F T))) := fun a b ka kb V RF RT tb => diff_any F T nf nt hF.1 hT.1 hnf hnt f6 t6 a b ka kb V RF RT tb
  have HDB : Hid (∀ a b ka kb V, Row V a T → Row V b F → Tab V → Calls Tryd.prog 12 #[.slice a nt ka, .slice b nf kb] V (DfOk V (diffL T F))) := fun a b ka kb V RT RF tb => diff_any T F nt nf hT.1 hF.1 hnt hnf t6 f6 a b ka kb V RT RF tb
  have HPA : Hid (∀ a ad ka kd V, d1 ≤ kd → (ad = none → kd = 0) → Row V a F → Row V ad (diffL F T) → Tab V → Calls Tryd.prog 20 #[.slice a nf ka, .slice ad d1 kd] V fun e w' => ∃ g, e = .returned (.tuple #[.slice (some ⟨g, 0, none⟩) T.length T.length, .int .i64 0]) ∧ V.heap.size ≤ g ∧ Own w' g T ∧ Below V.heap.size V w') := fun a ad ka kd V h1 h2 RF RD tb => patch_back F T nf d1 ka kd a ad hF hT hnf hd1 h1 h2 V RF RD (diffL_bytes hF.1 hT.1) tb
  have HPB : Hid (∀ a ad ka kd V, d2 ≤ kd → (ad = none → kd = 0) → Row V a T → Row V ad (diffL T F) → Tab V → Calls Tryd.prog 20 #[.slice a nt ka, .slice ad d2 kd] V fun e w' => ∃ g, e = .returned (.tuple #[.slice (some ⟨g, 0, none⟩) F.length F.length, .int .i64 0]) ∧ V.heap.size ≤ g ∧ Own w' g F ∧ Below V.heap.size V w') := fun a ad ka kd V h1 h2 RT RD tb => patch_back T F nt d2 ka kd a ad hT hF hnt hd2 h1 h2 V RT RD (diffL_bytes hT.1 hF.1) tb
  obtain ⟨D1, hD1⟩ : ∃ D1, diffL F T = D1 := ⟨_, rfl⟩
  obtain ⟨D2, hD2⟩ : ∃ D2, diffL T F = D2 := ⟨_, rfl⟩
  rw [hD1] at HDA HPA
  rw [hD2] at HDB HPB
  have HD : Hid (D1.length = d1 ∧ D2.length = d2 ∧ Bytes D1 ∧ Bytes D2) := by rw [← hD1, ← hD2]; exact HD0.out
  clear hF hT hnf hnt RF RT tab hd1 hd2 hD1 hD2 HD0
  have i1 : ¬ (65536 : Int) < (nf : Int) := by omega
  have i2 : ¬ (65536 : Int) < (nt : Int) := by omega
  go_enter Tryd.func6, Tryd.ntmps6
  go_wp2_with fail
  refine (room_any F a nf ka HF.out.2 (by omega) w HR.out.1).mono ?_
  rintro e w1 ⟨gf, cf, rfl, T1, b1⟩
  have HT1 : Hid (Tx w1 w.heap.size (.slice (some ⟨gf, 0, none⟩) (nf + 8) cf) (padL F)) := T1
  have HB1 : Hid (Below w.heap.size w w1) := b1
  clear T1 b1
  go_wp2_with fail
  refine (room_any T b nt kb HT.out.2 (by omega) w1 (HR.out.2.1.below HB1.out)).mono ?_
  rintro e z ⟨gg, cg, rfl, T2, b2⟩
  have HZ : Hid (∀ V, Below z.heap.size z V → Row V a F ∧ Row V b T ∧ Row V (some ⟨gf, 0, none⟩) (padL F) ∧ Row V (some ⟨gg, 0, none⟩) (padL T) ∧ Tab V ∧ Below w.heap.size w V) := fun V hV => by
    have bz := HB1.out.trans (b2.mono HB1.out.size)
    have bv := bz.trans (hV.mono bz.size)
    have h1 := (Tx.on HT1.out b2)
    obtain ⟨a1, k1, e1, -, R1, -⟩ := h1.full
    obtain ⟨a2, k2, e2, -, R2, -⟩ := T2.full
    rw [padL_len, HF.out.2] at e1
    rw [padL_len, HT.out.2] at e2
    cases e1
    cases e2
    exact ⟨HR.out.1.below bv, HR.out.2.1.below bv, R1.row.below hV, R2.row.below hV, HR.out.2.2.below HR.out.2.2.lt bv, bv⟩
  clear T2 b2 HT1 HB1 HR
  go_wp2_with fail
  refine (new_in 3 (by decide) (by decide) z).mono ?_
  rintro e w5 ⟨t, rfl, T5, b5⟩
  have HI5 : Hid (Iv z t (Fp z w5) [] (.slice none 0 0) [] [] w5) := ⟨b5, World.ownsRow_nil _ _ _ _, Fm.nil _ _, T5, fun k hk => ⟨hk.1, hk.2, (fun h => by cases h), fun i hi => absurd hi (Nat.not_lt_zero i)⟩⟩
  clear T5 b5
  obtain ⟨FP, hFP⟩ : ∃ FP, FP = Fp z w5 := ⟨_, rfl⟩
  rw [← hFP] at HI5
  clear hFP
  go_upto_region 9 with fail
  obtain ⟨v5, hv5⟩ : ∃ v5, v5 = Value.slice none 0 0 := ⟨_, rfl⟩
  rw [← hv5] at HI5 ⊢
  clear hv5
  go_wp2_with fail
  refine (HDA.out (some ⟨gf, 0, none⟩) (some ⟨gg, 0, none⟩) cf cg w5 (Row.pre (m := List.replicate 8 199) (HZ.out _ HI5.out.b).2.2.1) (Row.pre (m := List.replicate 8 199) (HZ.out _ HI5.out.b).2.2.2.1) (HZ.out _ HI5.out.b).2.2.2.2.1).mono ?_
  rintro e y5 ⟨x5, rfl, X5, b9⟩
  obtain ⟨ea5, ek5, hx5⟩ := X5.len
  rw [HD.out.1] at hx5
  subst hx5
  have HIp : Hid (Iv z t FP [] v5 [] [] w5) := HI5
  have HX5 : Hid (Nx z FP [] y5 (.slice ea5 d1 ek5) D1) := HIp.out.fresh X5
  clear HI5
  have HI5 : Hid (Iv z t FP [] v5 [] [] y5) := HIp.out.below b9
  clear HIp b9 X5
  have HOW : Hid ((y5).ownsRow z.heap.size 28 1 v5 0 []) := HI5.out.o
  go_upto_region 10 with (refine wpList_appSl rfl _ _ rfl (cells := []) (n := 0) (v := v5) (cs := #[.slice ea5 d1 ek5]) HOW.out HI5.out.b.size rfl rfl rfl (fun u hu => by simp at hu; subst hu; rfl) (by decide) ?_; intro v6 w6 r1 r2 r3 r4 r5)
  have HI6 : Hid (Iv z t FP [] v6 [.slice ea5 d1 ek5] [D1] w6) := HI5.out.app HX5.out r1 r3 r4 r5
  clear r1 r2 r3 r4 r5 HI5 HX5 HOW
  go_wp2_with fail
  refine (HDB.out (some ⟨gg, 0, none⟩) (some ⟨gf, 0, none⟩) cg cf w6 (Row.pre (m := List.replicate 8 199) (HZ.out _ HI6.out.b).2.2.2.1) (Row.pre (m := List.replicate 8 199) (HZ.out _ HI6.out.b).2.2.1) (HZ.out _ HI6.out.b).2.2.2.2.1).mono ?_
  rintro e y6 ⟨x6, rfl, X6, b9⟩
  obtain ⟨ea6, ek6, hx6⟩ := X6.len
  rw [HD.out.2.1] at hx6
  subst hx6
  have HIp : Hid (Iv z t FP [] v6 [.slice ea5 d1 ek5] [D1] w6) := HI6
  have HX6 : Hid (Nx z FP [.slice ea5 d1 ek5] y6 (.slice ea6 d2 ek6) D2) := HIp.out.fresh X6
  clear HI6
  have HI6 : Hid (Iv z t FP [] v6 [.slice ea5 d1 ek5] [D1] y6) := HIp.out.below b9
  clear HIp b9 X6
  have HOW : Hid ((y6).ownsRow z.heap.size 28 1 v6 1 [.slice ea5 d1 ek5]) := HI6.out.o
  go_upto_region 11 with (refine wpList_appSl rfl _ _ rfl (cells := [.slice ea5 d1 ek5]) (n := 1) (v := v6) (cs := #[.slice ea6 d2 ek6]) HOW.out HI6.out.b.size rfl rfl rfl (fun u hu => by simp at hu; subst hu; rfl) (by decide) ?_; intro v7 w7 r1 r2 r3 r4 r5)
  have HI7 : Hid (Iv z t FP [] v7 [.slice ea5 d1 ek5, .slice ea6 d2 ek6] [D1, D2] w7) := HI6.out.app HX6.out r1 r3 r4 r5
  clear r1 r2 r3 r4 r5 HI6 HX6 HOW
  go_wp2_with fail
  refine (HDA.out (some ⟨gf, 0, none⟩) (some ⟨gg, 0, none⟩) cf cg w7 (Row.pre (m := List.replicate 8 199) (HZ.out _ HI7.out.b).2.2.1) (Row.pre (m := List.replicate 8 199) (HZ.out _ HI7.out.b).2.2.2.1) (HZ.out _ HI7.out.b).2.2.2.2.1).mono ?_
  rintro e y7 ⟨x7, rfl, X7, b9⟩
  obtain ⟨ea7, ek7, hx7⟩ := X7.len
  rw [HD.out.1] at hx7
  subst hx7
  have HIp : Hid (Iv z t FP [] v7 [.slice ea5 d1 ek5, .slice ea6 d2 ek6] [D1, D2] w7) := HI7
  have HX7 : Hid (Nx z FP [.slice ea5 d1 ek5, .slice ea6 d2 ek6] y7 (.slice ea7 d1 ek7) D1) := HIp.out.fresh X7
  clear HI7
  have HI7 : Hid (Iv z t FP [] v7 [.slice ea5 d1 ek5, .slice ea6 d2 ek6] [D1, D2] y7) := HIp.out.below b9
  clear HIp b9 X7
  have HOW : Hid ((y7).ownsRow z.heap.size 28 1 v7 2 [.slice ea5 d1 ek5, .slice ea6 d2 ek6]) := HI7.out.o
  go_upto_region 12 with (refine wpList_appSl rfl _ _ rfl (cells := [.slice ea5 d1 ek5, .slice ea6 d2 ek6]) (n := 2) (v := v7) (cs := #[.slice ea7 d1 ek7]) HOW.out HI7.out.b.size rfl rfl rfl (fun u hu => by simp at hu; subst hu; rfl) (by decide) ?_; intro v8 w8 r1 r2 r3 r4 r5)
  have HI8 : Hid (Iv z t FP [] v8 [.slice ea5 d1 ek5, .slice ea6 d2 ek6, .slice ea7 d1 ek7] [D1, D2, D1] w8) := HI7.out.app HX7.out r1 r3 r4 r5
  clear r1 r2 r3 r4 r5 HI7 HX7 HOW
  obtain ⟨gl8, cl8, hv8, hc8⟩ := HI8.out.o.form (by simp)
  simp only [List.length_cons, List.length_nil] at hv8 hc8
  have hv8' : v8 = .slice (some ⟨gl8, 0, none⟩) 3 cl8 := hv8
  clear hv8
  subst hv8'
  have c80 := hc8 0 (by omega)
  clear hc8
  have T80 := HI8.out.f.tx 0 (by simp)
  simp only [List.getD_cons_zero] at c80 T80
  obtain ⟨a80, k80, e80, -, R80, -⟩ := T80.full
  rw [HD.out.1] at e80
  cases e80
  have HR80 : Hid (Row w8 ea5 D1) := R80.row
  clear R80 T80
  go_wp2_with fail
  refine (room_any D1 ea5 d1 ek5 HD.out.1 (by omega) w8 HR80.out).mono ?_
  rintro e w9 ⟨gd, cd, rfl, T9, b9⟩
  have HTD : Hid (Tx w9 z.heap.size (.slice (some ⟨gd, 0, none⟩) (d1 + 8) cd) (padL D1)) := orow_lower T9 HI8.out.b.size
  have HCD : Hid (d1 + 8 ≤ cd) := by
    obtain ⟨a2, k2, e2, hk2, -, -⟩ := T9.full
    rw [padL_len, HD.out.1] at e2 hk2
    cases e2
    exact hk2
  have HGD : Hid (w8.heap.size ≤ gd) := (T9.block gd rfl).1
  have HI9 : Hid (Iv z t FP [] (.slice (some ⟨gl8, 0, none⟩) 3 cl8) [.slice ea5 d1 ek5, .slice ea6 d2 ek6, .slice ea7 d1 ek7] [D1, D2, D1] w9) := HI8.out.below b9
  clear T9 b9 HI8 HR80 c80
  go_upto_region 13 with fail
  go_wp2_with fail
  refine (HPA.out (some ⟨gf, 0, none⟩) (some ⟨gd, 0, none⟩) cf cd w9 (by have := HCD.out; omega) (fun h => by cases h) (Row.pre (m := List.replicate 8 199) (HZ.out _ HI9.out.b).2.2.1) (Row.pre (m := List.replicate 8 199) (by obtain ⟨a2, k2, e2, -, R2, -⟩ := HTD.out.full; rw [padL_len, HD.out.1] at e2; cases e2; exact R2.row)) (HZ.out _ HI9.out.b).2.2.2.2.1).mono ?_
  rintro e w10 ⟨g3, rfl, hg9, O9, b9⟩
  rw [HT.out.2]
  have HX10 : Hid (Nx z FP [.slice ea5 d1 ek5, .slice ea6 d2 ek6, .slice ea7 d1 ek7] w10 (.slice (some ⟨g3, 0, none⟩) nt nt) T) := by
    have := HI9.out.fresh (O9.tx hg9 (by rw [HT.out.2]; omega))
    rw [HT.out.2] at this
    exact this
  have HI10 : Hid (Iv z t FP [] (.slice (some ⟨gl8, 0, none⟩) 3 cl8) [.slice ea5 d1 ek5, .slice ea6 d2 ek6, .slice ea7 d1 ek7] [D1, D2, D1] w10) := HI9.out.below b9
  have HTD2 : Hid (Tx w10 z.heap.size (.slice (some ⟨gd, 0, none⟩) (d1 + 8) cd) (padL D1)) := HTD.out.on b9
  have HO10 : Hid (Own w10 g3 T) := O9
  clear O9 hg9 b9 HI9 HTD
  go_upto_region 14 with fail
  go_wp2_with fail
  refine (same_any T T nt nt HT.out.1.1 HT.out.1.1 HT.out.2 HT.out.2 (by omega) (some ⟨g3, 0, none⟩) b nt kb w10 HO10.out.row (HZ.out _ HI10.out.b).2.1).mono ?_
  rintro e w11 ⟨rfl, b9⟩
  rw [sameB_self]
  have HI11 : Hid (Iv z t FP [] (.slice (some ⟨gl8, 0, none⟩) 3 cl8) [.slice ea5 d1 ek5, .slice ea6 d2 ek6, .slice ea7 d1 ek7] [D1, D2, D1] w11) := HI10.out.below b9
  have HTD : Hid (Tx w11 z.heap.size (.slice (some ⟨gd, 0, none⟩) (d1 + 8) cd) (padL D1)) := HTD2.out.on b9
  have HX11 : Hid (Nx z FP [.slice ea5 d1 ek5, .slice ea6 d2 ek6, .slice ea7 d1 ek7] w11 (.slice (some ⟨g3, 0, none⟩) nt nt) T) := ⟨HX10.out.1.on b9, HX10.out.2⟩
  clear b9 HI10 HTD2 HX10 HO10
  have c80 : w11.cell? ⟨gl8, 0, none⟩ = some (.slice ea5 d1 ek5) := by
    obtain ⟨g, c, e, h⟩ := HI11.out.o.form (by simp)
    simp only [List.length_cons, List.length_nil, Value.slice.injEq, Option.some.injEq, Addr.mk.injEq] at e
    have := h 0 (by simp)
    simp only [List.getD_cons_zero] at this
    rw [e.1.1]
    exact this
  have T80 := HI11.out.f.tx 0 (by simp)
  simp only [List.getD_cons_zero] at T80
  obtain ⟨a80, k80, e80, -, R80, -⟩ := T80.full
  rw [HD.out.1] at e80
  cases e80
  have HR80 : Hid (Row w11 ea5 D1) := R80.row
  have HRD : Hid (Row w11 (some ⟨gd, 0, none⟩) (padL D1)) := by
    obtain ⟨a2, k2, e2, -, R2, -⟩ := HTD.out.full
    rw [padL_len, HD.out.1] at e2
    cases e2
    exact R2.row
  clear R80 T80
  go_wp2_with fail
  refine (untouched_any D1 d1 HD.out.2.2.1 HD.out.1 (by omega) (some ⟨gd, 0, none⟩) ea5 cd ek5 w11 HRD.out HR80.out).mono ?_
  rintro e w12 ⟨rfl, b9⟩
  have HI12 : Hid (Iv z t FP [] (.slice (some ⟨gl8, 0, none⟩) 3 cl8) [.slice ea5 d1 ek5, .slice ea6 d2 ek6, .slice ea7 d1 ek7] [D1, D2, D1] w12) := HI11.out.below b9
  have HTD2 : Hid (Tx w12 z.heap.size (.slice (some ⟨gd, 0, none⟩) (d1 + 8) cd) (padL D1)) := HTD.out.on b9
  have HX12 : Hid (Nx z FP [.slice ea5 d1 ek5, .slice ea6 d2 ek6, .slice ea7 d1 ek7] w12 (.slice (some ⟨g3, 0, none⟩) nt nt) T) := ⟨HX11.out.1.on b9, HX11.out.2⟩
  clear b9 HI11 HTD HX11 HR80 HRD c80
  go_upto_region 16 with fail
  obtain ⟨v12, hv12⟩ : ∃ v12, v12 = (.slice (some ⟨gl8, 0, none⟩) 3 cl8 : Value) := ⟨_, rfl⟩
  rw [← hv12] at HI12 ⊢
  clear hv12
  have HOW : Hid ((w12).ownsRow z.heap.size 28 1 v12 3 [.slice ea5 d1 ek5, .slice ea6 d2 ek6, .slice ea7 d1 ek7]) := HI12.out.o
  go_upto_region 17 with (refine wpList_appSl rfl _ _ rfl (cells := [.slice ea5 d1 ek5, .slice ea6 d2 ek6, .slice ea7 d1 ek7]) (n := 3) (v := v12) (cs := #[.slice (some ⟨g3, 0, none⟩) nt nt]) HOW.out HI12.out.b.size rfl rfl rfl (fun u hu => by simp at hu; subst hu; rfl) (by decide) ?_; intro v13 w13 r1 r2 r3 r4 r5)
  have HI13 : Hid (Iv z t FP [] v13 [.slice ea5 d1 ek5, .slice ea6 d2 ek6, .slice ea7 d1 ek7, .slice (some ⟨g3, 0, none⟩) nt nt] [D1, D2, D1, T] w13) := HI12.out.app HX12.out r1 r3 r4 r5
  have HTD : Hid (Tx w13 z.heap.size (.slice (some ⟨gd, 0, none⟩) (d1 + 8) cd) (padL D1)) := HTD2.out.keep fun k hk => r3 k (HTD2.out.block k hk).2 (HI12.out.o.ne HTD2.out k hk)
  clear HTD2
  clear r1 r2 r3 r4 r5 HI12 HX12 HOW
  go_wp2_with fail
  refine (HPA.out (some ⟨gf, 0, none⟩) (some ⟨gd, 0, none⟩) cf cd w13 (by have := HCD.out; omega) (fun h => by cases h) (Row.pre (m := List.replicate 8 199) (HZ.out _ HI13.out.b).2.2.1) (Row.pre (m := List.replicate 8 199) (by obtain ⟨a2, k2, e2, -, R2, -⟩ := HTD.out.full; rw [padL_len, HD.out.1] at e2; cases e2; exact R2.row)) (HZ.out _ HI13.out.b).2.2.2.2.1).mono ?_
  rintro e w14 ⟨g4, rfl, hg9, O9, b9⟩
  rw [HT.out.2]
  have HX14 : Hid (Nx z FP [.slice ea5 d1 ek5, .slice ea6 d2 ek6, .slice ea7 d1 ek7, .slice (some ⟨g3, 0, none⟩) nt nt] w14 (.slice (some ⟨g4, 0, none⟩) nt nt) T) := by
    have := HI13.out.fresh (O9.tx hg9 (by rw [HT.out.2]; omega))
    rw [HT.out.2] at this
    exact this
  have HI14 : Hid (Iv z t FP [] v13 [.slice ea5 d1 ek5, .slice ea6 d2 ek6, .slice ea7 d1 ek7, .slice (some ⟨g3, 0, none⟩) nt nt] [D1, D2, D1, T] w14) := HI13.out.below b9
  clear O9 hg9 b9 HI13 HTD
  go_upto_region 18 with fail
  have HOW : Hid ((w14).ownsRow z.heap.size 28 1 v13 4 [.slice ea5 d1 ek5, .slice ea6 d2 ek6, .slice ea7 d1 ek7, .slice (some ⟨g3, 0, none⟩) nt nt]) := HI14.out.o
  go_upto_region 19 with (refine wpList_appSl rfl _ _ rfl (cells := [.slice ea5 d1 ek5, .slice ea6 d2 ek6, .slice ea7 d1 ek7, .slice (some ⟨g3, 0, none⟩) nt nt]) (n := 4) (v := v13) (cs := #[.slice (some ⟨g4, 0, none⟩) nt nt]) HOW.out HI14.out.b.size rfl rfl rfl (fun u hu => by simp at hu; subst hu; rfl) (by decide) ?_; intro v15 w15 r1 r2 r3 r4 r5)
  have HI15 : Hid (Iv z t FP [] v15 [.slice ea5 d1 ek5, .slice ea6 d2 ek6, .slice ea7 d1 ek7, .slice (some ⟨g3, 0, none⟩) nt nt, .slice (some ⟨g4, 0, none⟩) nt nt] [D1, D2, D1, T, T] w15) := HI14.out.app HX14.out r1 r3 r4 r5
  clear r1 r2 r3 r4 r5 HI14 HX14 HOW
  obtain ⟨gl15, cl15, hv15, hc15⟩ := HI15.out.o.form (by simp)
  simp only [List.length_cons, List.length_nil] at hv15 hc15
  have hv15' : v15 = .slice (some ⟨gl15, 0, none⟩) 5 cl15 := hv15
  clear hv15
  subst hv15'
  have c81 := hc15 1 (by omega)
  clear hc15
  have T81 := HI15.out.f.tx 1 (by simp)
  simp only [List.getD_cons_zero, List.getD_cons_succ] at c81 T81
  obtain ⟨a81, k81, e81, hk81, R81, -, hn81⟩ := T81.full2
  rw [HD.out.2.1] at e81 hk81
  cases e81
  have HR81 : Hid (Row w15 ea6 D2) := R81.row
  have HK81 : Hid (d2 ≤ ek6 ∧ (ea6 = none → ek6 = 0)) := ⟨hk81, hn81⟩
  clear R81 T81 hk81 hn81
  go_wp2_with fail
  refine (HPB.out (some ⟨gg, 0, none⟩) ea6 cg ek6 w15 HK81.out.1 HK81.out.2 (Row.pre (m := List.replicate 8 199) (HZ.out _ HI15.out.b).2.2.2.1) HR81.out (HZ.out _ HI15.out.b).2.2.2.2.1).mono ?_
  rintro e w16 ⟨g5, rfl, hg9, O9, b9⟩
  rw [HF.out.2]
  have HX16 : Hid (Nx z FP [.slice ea5 d1 ek5, .slice ea6 d2 ek6, .slice ea7 d1 ek7, .slice (some ⟨g3, 0, none⟩) nt nt, .slice (some ⟨g4, 0, none⟩) nt nt] w16 (.slice (some ⟨g5, 0, none⟩) nf nf) F) := by
    have := HI15.out.fresh (O9.tx hg9 (by rw [HF.out.2]; omega))
    rw [HF.out.2] at this
    exact this
  have HI16 : Hid (Iv z t FP [] (.slice (some ⟨gl15, 0, none⟩) 5 cl15) [.slice ea5 d1 ek5, .slice ea6 d2 ek6, .slice ea7 d1 ek7, .slice (some ⟨g3, 0, none⟩) nt nt, .slice (some ⟨g4, 0, none⟩) nt nt] [D1, D2, D1, T, T] w16) := HI15.out.below b9
  have HO16 : Hid (Own w16 g5 F) := O9
  clear O9 hg9 b9 HI15 HR81 HK81 c81
  go_upto_region 20 with fail
  go_wp2_with fail
  refine (same_any F F nf nf HF.out.1.1 HF.out.1.1 HF.out.2 HF.out.2 (by omega) (some ⟨g5, 0, none⟩) a nf ka w16 HO16.out.row (HZ.out _ HI16.out.b).1).mono ?_
  rintro e w17 ⟨rfl, b9⟩
  rw [sameB_self]
  obtain ⟨v17, hv17⟩ : ∃ v17, v17 = (.slice (some ⟨gl15, 0, none⟩) 5 cl15 : Value) := ⟨_, rfl⟩
  have HI17 : Hid (Iv z t FP [] v17 [.slice ea5 d1 ek5, .slice ea6 d2 ek6, .slice ea7 d1 ek7, .slice (some ⟨g3, 0, none⟩) nt nt, .slice (some ⟨g4, 0, none⟩) nt nt] [D1, D2, D1, T, T] w17) := by rw [hv17]; exact HI16.out.below b9
  have HX17 : Hid (Nx z FP [.slice ea5 d1 ek5, .slice ea6 d2 ek6, .slice ea7 d1 ek7, .slice (some ⟨g3, 0, none⟩) nt nt, .slice (some ⟨g4, 0, none⟩) nt nt] w17 (.slice (some ⟨g5, 0, none⟩) nf nf) F) := ⟨HX16.out.1.on b9, HX16.out.2⟩
  rw [← hv17]
  clear hv17 b9 HI16 HX16 HO16
  go_upto_region 22 with fail
  have HOW : Hid ((w17).ownsRow z.heap.size 28 1 v17 5 [.slice ea5 d1 ek5, .slice ea6 d2 ek6, .slice ea7 d1 ek7, .slice (some ⟨g3, 0, none⟩) nt nt, .slice (some ⟨g4, 0, none⟩) nt nt]) := HI17.out.o
  go_upto_region 23 with (refine wpList_appSl rfl _ _ rfl (cells := [.slice ea5 d1 ek5, .slice ea6 d2 ek6, .slice ea7 d1 ek7, .slice (some ⟨g3, 0, none⟩) nt nt, .slice (some ⟨g4, 0, none⟩) nt nt]) (n := 5) (v := v17) (cs := #[.slice (some ⟨g5, 0, none⟩) nf nf]) HOW.out HI17.out.b.size rfl rfl rfl (fun u hu => by simp at hu; subst hu; rfl) (by decide) ?_; intro v18 w18 r1 r2 r3 r4 r5)
  have HI18 : Hid (Iv z t FP [] v18 [.slice ea5 d1 ek5, .slice ea6 d2 ek6, .slice ea7 d1 ek7, .slice (some ⟨g3, 0, none⟩) nt nt, .slice (some ⟨g4, 0, none⟩) nt nt, .slice (some ⟨g5, 0, none⟩) nf nf] [D1, D2, D1, T, T, F] w18) := HI17.out.app HX17.out r1 r3 r4 r5
  clear r1 r2 r3 r4 r5 HI17 HX17 HOW
  have HIN := HI18
  clear HI18 HCD HGD HPA HPB HDA HDB
  exact own2 F T nf nt f6 t6 HF HT d1 d2 hd1b hd2b D1 D2 HD a b ka kb w z gf cf gg cg HZ t FP v18 _ rfl w18 HIN _ _ _ _ _ _ _ _ _ _ _ _ _ _ _ _ _ _ _ _ _ _ _ _ _ _ _ _ _ _ _ _ _ _ _ _ _ _ _ _ _ _ _ _ _ _ _ _ _ _ _ _ _ _ _ _ _ _ _ _ _ _ _ _ _ _ _ _ _ _ _ _ _ _ _ _ _ _ _ _ _ _ _ _ _ _ _ _ _ _ _ _ _ _ _ _ _ _ _ _ _ _ _ _ _ _ _ _ _ _ _ _ _ _ _ _ _ _ _ _ _ _ _ _ _ _ _ _ _ _ _ _ _ _ _ _ _ _ _ _ _ _ _ _ _ _ _ _ _ _ _ _ _ _ _ _ _ _ _ _ _ _ _ _ _ _ _ _ _ _ _ _ _ _ _ _ _ _ _ _ _ _ _ _ _ _ _ _ _ _ _ _ _ _ _ _ _ _ _ _ _ _ _ _ _ _ _ _ _ _ _ _ _ _ _ _ _ _ _ _ _ _ _ _ _ _ _ _ _ _ _ _ _ _ _ _ _ _ _ _ _ _ _ _ _ _ _ _ _ _ _ _ _ _ _ _ _ _ _ _ _ _ _ _ _ _ _ _ _ _ _ _ _ _ _ _ _ _ _ _ _ _ _ _ _ _ _ _ _ _ _ _ _ _ _ _ _ _ _ _ _ _ _ _ _ _ _ _ _ _ _ _ _ _ _ _ _ _ _ _ _ _ _ _ _ _ _ _ _ _ _ _ _ _ _ _ _ _ _ _ _ _ _ _ _ _ _ _ _ _ _ _ _ _ _ _ _ _ _ _ _ _ _ _ _ _ _ _ _ _ _ _ _ _ _ _ _ _ _ _ _ _ _ _ _ _ _ _ _ _ _ _ _ _ _ _ _ _ _ _ _ _ _ _ _ _ _ _ (by assumption)
end Go.Proofs.YtlckjbangdnejaaDoor
