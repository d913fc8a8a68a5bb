/-
  Making a list out of another and a patch.
-/
import Derived.Test.YtlckjbangdnejaaDoorXwPatS
set_option linter.unusedSimpArgs false
set_option linter.unusedVariables false
namespace Go.Proofs.YtlckjbangdnejaaDoor
open Go.RowKit Classical
/-- What resized answers. -/
def ResOk (F : List Nat) (g s : Nat) (w : World) (e : Ending) (w' : World) : Prop :=
  ∃ g', e = .returned (.slice (some ⟨g', 0, none⟩) s s) ∧ Own w' g' (fit F s) ∧ Below w.heap.size w w' ∧ (g' = g ∨ g' = w.heap.size)
set_option maxRecDepth 100000 in
set_option maxHeartbeats 800000 in
theorem resized_any (F : List Nat) (n s g : Nat) (hn : F.length = n) (hlen : n ≤ 65536) (hs : s ≤ 65536) (w : World) (O : Own w g F) :
    Calls Tryd.prog 48 #[.slice (some ⟨g, 0, none⟩) n n, .int .i64 s] w (ResOk F g s w) := by
  have HL : Hid (F.length = n) := hn
  have HO : Hid (Own w g F) := O
  have HBW : Hid (Below w.heap.size w w) := Below.refl _ _
  clear hn O
  by_cases h : n = s
  · have HF : Hid (fit F s = F) := by rw [← h, ← HL.out]; exact fit_self F
    subst h
    go_enter Tryd.func48, Tryd.ntmps48
    go_wp2
    go_ret
    exact ⟨g, rfl, by rw [HF.out]; exact HO.out, HBW.out, .inl rfl⟩
  · have i1 : ((n : Int) == (s : Int)) = false := by rw [beq_eq_false_iff_ne]; omega
    obtain ⟨i0, hi, hz0, hz1, hz2⟩ := info_parts Tryd.infoU8
    go_enter Tryd.func48, Tryd.ntmps48
    go_upto_region 4 with (at_make; refine wpList_make_full _ rfl _ _ 28 rfl w.heap.size 5 i0 (.int .u8 0) 1 Tryd.underlying28 hi hz0 hz1 .i64 .i64 _ _ s rfl rfl rfl rfl (by rw [hz2]; omega) (by unfold maxLen; omega) (Nat.le_refl _) ?_; intro w1 hown hgrow)
    have ho := Own.of_row (List.replicate s 0) (vals_zero _) hown
    have hb := (Below.refl w.heap.size w).grown hgrow (Nat.le_refl _) (by simp)
    clear hown hgrow hi hz0 hz1 hz2
    have HO1 : Hid (w1.heap[w.heap.size]? = some (.cells (vals (List.replicate s 0)).toArray 5 (0, 0))) := ho
    have F1 : Hid ((vals (F.take s)).length = Nat.min n s) := by unfold Hid; rw [vals_len, List.length_take, HL.out]; exact Nat.min_comm s n
    have F2 : Hid (0 < (vals (F.take s)).length → (some ⟨w.heap.size, 0, none⟩ : Option Addr) = some ⟨w.heap.size, 0, none⟩ ∧ ∃ ad, (some ⟨g, 0, none⟩ : Option Addr) = some ad ∧ ∀ j v, (vals (F.take s))[j]? = some v → w1.cell? (ad.add j) = some v) := by
      intro h0
      refine ⟨rfl, _, rfl, fun j v hv => ?_⟩
      have hj : j < (F.take s).length := by have := (List.getElem?_eq_some_iff.1 hv).1; rwa [vals_len] at this
      have hj1 : j < F.length := by rw [List.length_take] at hj; omega
      have hj2 : j < s := by rw [List.length_take] at hj; omega
      have h2 := (HO.out.below HO.out.lt hb).cell j hj1
      rw [Addr.add_lit, Nat.zero_add, h2]
      simp [vals, hj2, hj1] at hv
      rw [← hv]
      simp [hj1]
    have F3 : Hid (0 + (vals (F.take s)).length ≤ (vals (List.replicate s 0)).length) := by unfold Hid; rw [vals_len, vals_len, List.length_take]; simp; omega
    clear ho
    go_wp2_with (refine wpList_copy_splice rfl _ _ 28 28 rfl 5 (by kernel_rfl) (by kernel_rfl) (some ⟨w.heap.size, 0, none⟩) (some ⟨g, 0, none⟩) s s n n rfl rfl w.heap.size 0 (vals (List.replicate s 0)) 5 HO1.out (vals (F.take s)) F1.out F2.out F3.out (vals_one _) w.heap.size w hb (Nat.le_refl _) ?_; intro w5 hg5 hb6)
    have hg := hg5.out
    rw [fit_splice] at hg
    go_ret
    exact ⟨_, rfl, show Own w5 w.heap.size (fit F s) from hg, hb6, .inr rfl⟩
/-- What patched answers. -/
def PatOk (w0 : World) (F D : List Nat) (e : Ending) (w' : World) : Prop := Below w0.heap.size w0 w' ∧
  ((e = .returned (.tuple #[.slice none 0 0, .bool false]) ∧ ∀ T2, Good T2 → D ≠ diffL F T2) ∨
   (∃ (g s : Nat) (T : List Nat), e = .returned (.tuple #[.slice (some ⟨g, 0, none⟩) s s, .bool true]) ∧ T.length = s ∧ w0.heap.size ≤ g ∧ Own w' g T ∧ Good T ∧ ∀ T2, Good T2 → D = diffL F T2 → T2 = T))
set_option maxRecDepth 100000 in
set_option maxHeartbeats 3200000 in
theorem patched_any (w0 : World) (F D : List Nat) (nf nd kd g : Nat) (ad : Option Addr) (hF : Bytes F) (hD : Bytes D) (hnf : F.length = nf) (hnd : D.length = nd) (lf : nf ≤ 65536) (ld : nd ≤ 281474976710656) (hkd : nd ≤ kd) (hnil : ad = none → kd = 0) (w : World) (hw : Below w0.heap.size w0 w) (hg : w0.heap.size ≤ g)
    (O : Own w g F) (RD : Row w0 ad D) :
    Calls Tryd.prog 31 #[.slice (some ⟨g, 0, none⟩) nf nf, .slice ad nd kd] w (PatOk w0 F D) := by
  have HN : Hid (F.length = nf ∧ D.length = nd) := ⟨hnf, hnd⟩
  have HB : Hid (Bytes F ∧ Bytes D) := ⟨hF, hD⟩
  have HO : Hid (Own w g F) := O
  have hgw := O.lt
  have hws := hw.size
  have HR : Hid (Rd w0 (w.alloc (.cells #[.slice ad nd kd, .bool false] 72)) w.heap.size D false) := ⟨ad, nd, kd, Blk.new w _ _, hnd, hkd, RD, hnil⟩
  have HW : Hid (Below w0.heap.size w0 (w.alloc (.cells #[.slice ad nd kd, .bool false] 72))) := hw.alloc hws _
  have HO1 : Hid (Own (w.alloc (.cells #[.slice ad nd kd, .bool false] 72)) g F) := O.below O.lt ((Below.refl _ _).alloc (Nat.le_refl _) _)
  have hs1 : (w.alloc (.cells #[.slice ad nd kd, .bool false] 72)).heap.size = w.heap.size + 1 := World.size_alloc _ _
  clear hF hD hnf hnd O RD hnil hkd hw
  go_enter Tryd.func31, Tryd.ntmps31
  go_upto_region 2 with fail
  generalize w.alloc (.cells #[.slice ad nd kd, .bool false] 72) = w1 at *
  obtain ⟨r, hr⟩ : ∃ r, r = w.heap.size := ⟨_, rfl⟩
  rw [← hr] at HR hs1 hgw hws ⊢
  clear hr
  have hrg : g ≠ r := by omega
  go_wp2_with fail
  refine (take_u w0 r D false 2 (by omega) (by have := HN.out.2; omega) HB.out.2 w1 HR.out).mono ?_
  rintro e w2 ⟨a2, k2, M2, R2, b2, l2, rfl, -, G2, -, -, hR2, -, hl2, hB2, hf2, ht2⟩
  have HR2 : Hid (Rd w0 w2 r R2 b2) := hR2
  have HB2 : Hid (Bytes R2 ∧ R2.length ≤ D.length) := ⟨hB2, hl2⟩
  have HF2 : Hid ((b2 = false → 2 ≤ D.length ∧ R2 = D.drop 2) ∧ (2 ≤ D.length → b2 = false)) := ⟨fun h => ⟨(hf2 h).2.1, (hf2 h).2.2.2⟩, fun h => ht2 rfl h⟩
  have HW2 : Hid (Below w0.heap.size w0 w2) := HW.out.grown G2 (by have := HW.out.size; omega) (fun q hq => by cases hq; exact hws)
  have HO2 : Hid (Own w2 g F) := (G2.block g (by omega) (fun e => hrg (by cases e; rfl))).trans HO1.out
  clear hR2 hl2 hB2 hf2 ht2 HR HW HO HO1 G2
  go_upto_region 3 with fail
  go_wp2_with fail
  refine (number_u w0 r R2 b2 (by have := HN.out.2; have := HB2.out.2; omega) HB2.out.1 hws w2 HW2.out HR2.out).mono ?_
  rintro e w3 ⟨m3, R3, b3, rfl, hm3, G3, hR3, hl3, hB3, hf3, ht3⟩
  have HR3 : Hid (Rd w0 w3 r R3 b3) := hR3
  have HB3 : Hid (Bytes R3 ∧ R3.length ≤ D.length) := ⟨hB3, Nat.le_trans hl3 HB2.out.2⟩
  have HF3 : Hid ((b3 = false → b2 = false ∧ RwM.rdN 3 R2 = some (m3, R3)) ∧ ∀ q, b2 = false → RwM.rdN 3 R2 = some q → b3 = false) := ⟨hf3, ht3⟩
  have HW3 : Hid (Below w0.heap.size w0 w3) := HW2.out.grown G3 (by have := HW2.out.size; omega) (fun q hq => by cases hq; exact hws)
  have HO3 : Hid (Own w3 g F) := (G3.block g HO2.out.lt (fun e => hrg (by cases e; rfl))).trans HO2.out
  clear hR3 hl3 hB3 hf3 ht3 HR2 HW2 HO2 G3
  go_upto_region 4 with fail
  go_wp2_with fail
  refine (number_u w0 r R3 b3 (by have := HN.out.2; have := HB3.out.2; omega) HB3.out.1 hws w3 HW3.out HR3.out).mono ?_
  rintro e w4 ⟨s, R4, b4, rfl, hm4, G4, hR4, hl4, hB4, hf4, ht4⟩
  have HR4 : Hid (Rd w0 w4 r R4 b4) := hR4
  have HB4 : Hid (Bytes R4 ∧ R4.length ≤ D.length) := ⟨hB4, Nat.le_trans hl4 HB3.out.2⟩
  have HF4 : Hid ((b4 = false → b3 = false ∧ RwM.rdN 3 R3 = some (s, R4)) ∧ ∀ q, b3 = false → RwM.rdN 3 R3 = some q → b4 = false) := ⟨hf4, ht4⟩
  have HW4 : Hid (Below w0.heap.size w0 w4) := HW3.out.grown G4 (by have := HW3.out.size; omega) (fun q hq => by cases hq; exact hws)
  have HO4 : Hid (Own w4 g F) := (G4.block g HO3.out.lt (fun e => hrg (by cases e; rfl))).trans HO3.out
  have hr4 : r < w4.heap.size := hR4.lt
  have HH : Hid (∀ T2, Good T2 → D = diffL F T2 → b4 = false ∧ s ≤ 65536) := by
    intro T2 hG hD
    obtain ⟨h1, q1, q2, e1, e2⟩ := head_reads F T2 (by rw [HN.out.1]; exact lf) hG.2
    rw [← hD] at h1 e1
    have c2 := HF2.out.2 h1
    have d2 := (HF2.out.1 c2).2
    rw [← d2] at e1
    have c3 := HF3.out.2 _ c2 e1
    have d3 := (HF3.out.1 c3).2
    rw [e1] at d3; cases d3
    have c4 := HF4.out.2 _ c3 e2
    have d4 := (HF4.out.1 c4).2
    rw [e2] at d4; cases d4
    exact ⟨c4, hG.2⟩
  have HP : Hid (b4 = false → PInv F D 0 R4 (fit F s)) := by
    intro c4
    obtain ⟨c3, d4⟩ := HF4.out.1 c4
    obtain ⟨c2, d3⟩ := HF3.out.1 c3
    obtain ⟨h1, d2⟩ := HF2.out.1 c2
    rw [d2] at d3
    exact pinv_start h1 d3 d4 (by rw [HN.out.1]; exact lf)
  have hc4 : ∃ a n k, w4.heap[r]? = some (.cells #[.slice a n k, .bool b4] 72 (0, 0)) := by
    obtain ⟨a, n, k, hB, _⟩ := hR4
    exact ⟨a, n, k, hB⟩
  obtain ⟨aa, na, ka, hcB⟩ := hc4
  have c4 : w4.cell? ⟨r, 1, none⟩ = some (.bool b4) := (show Blk w4 r #[.slice aa na ka, .bool b4] 72 from hcB).cell 1
  clear hR4 hl4 hB4 hf4 ht4 HR3 HW3 HO3 G4 HF2 HF3 HF4 HB2 HB3 hcB
  by_cases hbad : b4 = true ∨ 65536 < s
  · have HN2 : Hid (∀ T2, Good T2 → D ≠ diffL F T2) := fun T2 hG hD => by
      obtain ⟨h1, h2⟩ := HH.out T2 hG hD
      rcases hbad with h | h
      · rw [h1] at h; cases h
      · omega
    by_cases hb4 : b4 = true
    · subst hb4
      clear hbad
      go_wp2
      go_ret2
      exact ⟨HW4.out, .inl ⟨rfl, HN2.out⟩⟩
    · have hs2 : 65536 < s := by rcases hbad with h | h; exact absurd h hb4; exact h
      obtain rfl : b4 = false := by cases b4; rfl; exact absurd rfl hb4
      have i1 : (65536 : Int) < (s : Int) := by omega
      clear hbad hb4
      go_wp2
      go_ret2
      exact ⟨HW4.out, .inl ⟨rfl, HN2.out⟩⟩
  have hs65 : s ≤ 65536 := by omega
  obtain rfl : b4 = false := by
    cases b4 with
    | false => rfl
    | true => exact absurd (Or.inl rfl) hbad
  have HP0 : Hid (PInv F D 0 R4 (fit F s)) := HP.out rfl
  have i1 : ¬ (65536 : Int) < (s : Int) := by omega
  clear hbad HP HH
  go_upto_region 7 with fail
  go_wp2_with fail
  refine (resized_any F nf s g HN.out.1 lf hs65 w4 HO4.out).mono ?_
  rintro e w5 ⟨g', rfl, O5, B5, hg5⟩
  have hgr : g' ≠ r := by rcases hg5 with h | h <;> omega
  have hg0 : w0.heap.size ≤ g' := by have := HW4.out.size; rcases hg5 with h | h <;> omega
  have HW5 : Hid (Below w0.heap.size w0 w5) := HW4.out.trans (B5.mono HW4.out.size)
  have HR5 : Hid (Rd w0 w5 r R4 false) := HR4.out.on (B5.block r hr4)
  have HO5 : Hid (Own w5 g' (fit F s)) := O5
  have HL5 : Hid (Bytes (fit F s) ∧ (fit F s).length = s ∧ Bytes R4 ∧ R4.length ≤ D.length) := ⟨fit_bytes HB.out.1 s, fit_len _ _, HB4.out.1, HB4.out.2⟩
  clear O5 B5 hg5 HR4 HW4 HO4 c4 HB4
  go_upto_region 9 with fail
  go_loopw [8] (fun x wr => ∃ (k : Nat) (Lk LL : List Nat), x = .int .i64 k ∧ k ≤ s ∧ Hid (Rd w0 wr r Lk false) ∧ Hid (Own wr g' LL) ∧ Hid (Bytes LL ∧ LL.length = s ∧ Bytes Lk ∧ Lk.length ≤ D.length) ∧ Hid (Below w0.heap.size w0 wr) ∧ Hid (PInv F D k Lk LL)) (fun x _ => s - (intOf x).toNat)
  case atStart => exact ⟨0, R4, fit F s, rfl, by omega, HR5, HO5, HL5, HW5, HP0⟩
  case round =>
    obtain ⟨k, Lk, LL, rfl, hks, hR, hO, hL, hW, hP⟩ := hrel
    have hlk : Lk.length ≤ 281474976710656 := by have := HN.out.2; have := hL.out.2.2.2; omega
    go_wp2_with fail
    refine (number_u w0 r Lk false hlk hL.out.2.2.1 hws wr hW.out hR.out).mono ?_
    rintro e x1 ⟨m1, Q1, b1, rfl, hm1, G1, hR1, hl1, hB1, hf1, ht1⟩
    obtain ⟨k1, hk1⟩ : ∃ k1, k1 = k + m1 := ⟨_, rfl⟩
    have HK1 : Hid (k + m1 = k1) := hk1.symm
    have j1 : (k : Int) + (m1 : Int) = (k1 : Int) := by omega
    have j4 : k ≤ k1 := by omega
    have j5 : k1 ≤ 2200000 := by omega
    clear hk1
    have HR1 : Hid (Rd w0 x1 r Q1 b1) := hR1
    have HF1 : Hid ((b1 = false → RwM.rdN 3 Lk = some (m1, Q1)) ∧ ∀ q, RwM.rdN 3 Lk = some q → b1 = false) := ⟨fun h => (hf1 h).2, fun q => ht1 q rfl⟩
    have HW1 : Hid (Below w0.heap.size w0 x1) := hW.out.grown G1 (by have := hW.out.size; omega) (fun q hq => by cases hq; exact hws)
    have HO1 : Hid (Own x1 g' LL) := (G1.block g' hO.out.lt (fun e => hgr (by cases e; rfl))).trans hO.out
    have HB1 : Hid (Bytes Q1 ∧ Q1.length ≤ D.length) := ⟨hB1, Nat.le_trans hl1 hL.out.2.2.2⟩
    have hq1 : Q1.length ≤ 281474976710656 := by omega
    clear hR1 hl1 hB1 hf1 ht1 G1 hR hO hW hlk
    go_upto_region 10 with fail
    go_wp2_with fail
    refine (number_u w0 r Q1 b1 hq1 HB1.out.1 hws x1 HW1.out HR1.out).mono ?_
    rintro e x2 ⟨m2, Q2, b2', rfl, hm2, G2, hR2, hl2, hB2, hf2, ht2⟩
    have HR2 : Hid (Rd w0 x2 r Q2 b2') := hR2
    have HF2 : Hid ((b2' = false → b1 = false ∧ RwM.rdN 3 Q1 = some (m2, Q2)) ∧ ∀ q, b1 = false → RwM.rdN 3 Q1 = some q → b2' = false) := ⟨hf2, ht2⟩
    have HW2 : Hid (Below w0.heap.size w0 x2) := HW1.out.grown G2 (by have := HW1.out.size; omega) (fun q hq => by cases hq; exact hws)
    have HO2 : Hid (Own x2 g' LL) := (G2.block g' HO1.out.lt (fun e => hgr (by cases e; rfl))).trans HO1.out
    have HB2 : Hid (Bytes Q2 ∧ Q2.length ≤ D.length) := ⟨hB2, Nat.le_trans hl2 HB1.out.2⟩
    have hq2 : Q2.length ≤ 281474976710656 := by omega
    clear hR2 hl2 hB2 hf2 ht2 G2 HR1 HW1 HO1 hq1
    go_wp2_with fail
    refine (take_u w0 r Q2 b2' m2 (by omega) hq2 HB2.out.1 x2 HR2.out).mono ?_
    rintro e x3 ⟨a3, k3, M, Q3, b3', l3, rfl, hl3, G3, rM, hBM, hR3, hlM, hlQ, hB3, hf3, ht3⟩
    have HR3 : Hid (Rd w0 x3 r Q3 b3') := hR3
    have HF3 : Hid ((b3' = false → b2' = false ∧ m2 ≤ Q2.length ∧ M = Q2.take m2 ∧ Q3 = Q2.drop m2) ∧ (b2' = false → m2 ≤ Q2.length → b3' = false)) := ⟨hf3, ht3⟩
    have HW3 : Hid (Below w0.heap.size w0 x3) := HW2.out.grown G3 (by have := HW2.out.size; omega) (fun q hq => by cases hq; exact hws)
    have HO3 : Hid (Own x3 g' LL) := (G3.block g' HO2.out.lt (fun e => hgr (by cases e; rfl))).trans HO2.out
    have HB3 : Hid (Bytes Q3 ∧ Q3.length ≤ D.length ∧ Bytes M ∧ M.length = l3) := ⟨hB3, Nat.le_trans hlQ HB2.out.2, hBM, hl3⟩
    have HM3 : Hid (Row w0 a3 M) := rM
    have hl3b : l3 ≤ 281474976710656 := by omega
    have HX : Hid (∀ T2, Good T2 → D = diffL F T2 → b3' = false ∧ k1 + l3 ≤ s ∧ (l3 = 0 → T2 = LL) ∧ (1 ≤ l3 → Q3 = RwM.rb ((RwM.xr F T2).drop (k1 + l3)) ++ 0 :: 0 :: sum4 (crc T2) ∧ LL.length = T2.length ∧ k1 + l3 ≤ T2.length ∧ ∀ i, i < T2.length → (tn LL M (k1)).getD i 0 = if i < k1 + l3 then T2.getD i 0 else F.getD i 0)) := by
      intro T2 hG hD
      obtain ⟨z, n, P1, P2, e1, e2, e3, e4, e5, e6⟩ := pinv_next hP.out T2 hG hD
      have c1 := HF1.out.2 _ e1
      have d1 := HF1.out.1 c1
      rw [e1] at d1; cases d1
      have c2 := HF2.out.2 _ c1 e2
      have d2 := (HF2.out.1 c2).2
      rw [e2] at d2; cases d2
      have c3 := HF3.out.2 c2 e3
      obtain ⟨-, -, d3, d4⟩ := HF3.out.1 c3
      have d5 : l3 = m2 := by rw [← hl3, d3, List.length_take]; omega
      rw [d5, d3, d4]
      have := hL.out.2.1
      rw [← HK1.out]
      exact ⟨c3, by omega, fun h => (e5 h).symm, e6⟩
    have hc3 : x3.cell? ⟨r, 1, none⟩ = some (.bool b3') := by
      obtain ⟨a, n, k, hB, _⟩ := hR3
      exact hB.cell 1
    clear hR3 hf3 ht3 G3 HR2 HW2 HO2 hq2 rM hBM hlM hlQ hB3 hl3 HF1 HF2 HF3 HB1 HB2 hP
    by_cases hbad : b3' = true ∨ s < k1 + l3
    · have HN2 : Hid (∀ T2, Good T2 → D ≠ diffL F T2) := fun T2 hG hD => by
        obtain ⟨h1, h2, _⟩ := HX.out T2 hG hD
        rcases hbad with h | h
        · rw [h1] at h; cases h
        · omega
      by_cases hb4 : b3' = true
      · subst hb4
        clear hbad
        go_wp2
        go_ret2
        exact ⟨HW3.out, .inl ⟨rfl, HN2.out⟩⟩
      · have hs2 : s < k1 + l3 := by rcases hbad with h | h; exact absurd h hb4; exact h
        obtain rfl : b3' = false := by cases b3'; rfl; exact absurd rfl hb4
        have i2 : (s : Int) < (k1 : Int) + (l3 : Int) := by omega
        clear hbad hb4
        go_wp2
        go_ret2
        exact ⟨HW3.out, .inl ⟨rfl, HN2.out⟩⟩
    have hs6 : k1 + l3 ≤ s := by omega
    obtain rfl : b3' = false := by
      cases b3' with
      | false => rfl
      | true => exact absurd (Or.inl rfl) hbad
    have i2 : ¬ (s : Int) < (k1 : Int) + (l3 : Int) := by omega
    clear hbad
    by_cases h0 : l3 = 0
    · have HU : Hid (∀ T2, Good T2 → D = diffL F T2 → T2 = LL) := fun T2 hG hD => (HX.out T2 hG hD).2.2.1 h0
      subst h0
      go_wp2
      go_ret2
      exact ⟨HW3.out, .inr ⟨g', s, LL, rfl, hL.out.2.1, hg0, HO3.out, ⟨hL.out.1, by rw [hL.out.2.1]; exact hs65⟩, HU.out⟩⟩
    · have i3 : ((l3 : Int) == 0) = false := by rw [beq_eq_false_iff_ne]; omega
      have j2 : k1 < s := by omega
      have HM4 : Hid (Row x3 a3 M) := HM3.out.below HW3.out
      have HA : Hid (∀ p, a3 = some p → M ≠ [] → p.block ≠ g') := fun p hp hn => by
        rcases HM3.out with e | ⟨bb, off, e, hc⟩
        · exact absurd e hn
        · rw [hp] at e; cases e
          have := cell_lt (hc 0 (List.length_pos_iff.2 hn))
          show bb ≠ g'
          simp only at this
          omega
      go_upto_region 15 with fail
      go_wp2_with fail
      refine (turn_any LL M hL.out.1 HB3.out.2.2.1 (s - k1) k1 l3 (by have := hL.out.2.1; omega) HB3.out.2.2.2 (by have := hL.out.2.1; omega) (by omega) g' (s - k1) k3 a3 x3 HO3.out HM4.out HA.out).mono ?_
      rintro e x4 ⟨rfl, O4, G4⟩
      have HR4 : Hid (Rd w0 x4 r Q3 false) := HR3.out.on (G4.block r HR3.out.lt (fun e => hgr (by cases e; rfl)))
      have HW4 : Hid (Below w0.heap.size w0 x4) := HW3.out.grown G4 (by have := HW3.out.size; omega) (fun q hq => by cases hq; exact hg0)
      have HO4 : Hid (Own x4 g' (tn LL M k1)) := O4
      have HL4 : Hid (Bytes (tn LL M k1) ∧ (tn LL M k1).length = s ∧ Bytes Q3 ∧ Q3.length ≤ D.length) := ⟨tn_bytes hL.out.1 HB3.out.2.2.1 _, by rw [tn_len]; exact hL.out.2.1, HB3.out.1, HB3.out.2.1⟩
      have HP4 : Hid (PInv F D (k1 + l3) Q3 (tn LL M k1)) := by
        intro T2 hG hD
        obtain ⟨-, -, -, h4⟩ := HX.out T2 hG hD
        obtain ⟨h5, h6, h7, h8⟩ := h4 (by omega)
        exact ⟨h5, by rw [tn_len]; exact h6, h7, h8⟩
      clear O4 G4 HX HR3 HW3 HO3 HM3 HM4 HA hc3
      go_wp2
      go_roundw
      case rel => exact ⟨k1 + l3, Q3, _, by go_num, hs6, HR4, HO4, HL4, HW4, HP4⟩
      case measure => simp [intOf]; omega
end Go.Proofs.YtlckjbangdnejaaDoor
