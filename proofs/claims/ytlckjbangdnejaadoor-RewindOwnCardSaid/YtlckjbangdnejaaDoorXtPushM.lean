/-
  A snapshot put on a tape that holds one.
-/
import Derived.Test.YtlckjbangdnejaaDoorXtPushT
set_option linter.unusedSimpArgs false
set_option linter.unusedVariables false
namespace Go.Proofs.YtlckjbangdnejaaDoor
open Go.RowKit Classical
set_option maxRecDepth 100000 in
set_option maxHeartbeats 3200000 in
theorem push_more (FP : Nat → Prop) (t K : Nat) (S0 : List Nat) (r : List (List Nat)) (P : List Nat) (a : Option Addr) (n k : Nat) (hP : Good P) (hn : P.length = n) (w : World) (h : Tp FP t K (S0 :: r) w) (RP : Row w a P) (tab : Tab w) (hap : ∀ p, a = some p → P ≠ [] → ¬ FP p.block) :
    Calls Tryd.prog 9 #[.pointer (some ⟨t, 0, none⟩), .slice a n k] w (PuOk FP t K ((P :: S0 :: r).take (K + 1)) w) := by
  have hle := h.le
  obtain ⟨s, f, cur, nv, gn, R, B, S, N, f1, f2, n1, n2, n3, n4, n5⟩ := h
  have hts := blk_ne B S (by decide)
  obtain ⟨ro, hro⟩ : ∃ ro, ro = room (S0 :: r) := ⟨_, rfl⟩
  have hroL : ro ≤ 268600000 := by
    have := room_le (S0 :: r) n4
    rw [hro]; omega
  rw [← hro] at B
  obtain ⟨hnv, hO0, hfg⟩ := n1
  have HG0 : Hid (Good S0) := n4 S0 (by simp)
  obtain ⟨n0, hn0⟩ : ∃ n0, n0 = S0.length := ⟨_, rfl⟩
  have HN0 : Hid (S0.length = n0) := hn0.symm
  rw [← hn0] at hnv
  have hn065 : n0 ≤ 65536 := by rw [hn0]; exact HG0.out.2
  subst hnv
  have HB : Hid (Blk w t (tc true true (.slice (some ⟨gn, 0, none⟩) n0 n0) s K f R.length (ro : Nat)) 54) := B
  have HS : Hid (Blk w s cur 28) := S
  have HN : Hid (Rn K f cur R ∧ R.length = (S0 :: r).length - 1) := ⟨N, n2⟩
  have H3 : Hid (∀ i v, R[i]? = some v → ∃ g, Lo FP w v g (diffL ((S0 :: r).getD i []) ((S0 :: r).getD (i + 1) [])) ∧ g ≠ gn) := n3
  have H4 : Hid (∀ S ∈ S0 :: r, Good S) := n4
  have HO0 : Hid (Own w gn S0) := hO0
  have HRP : Hid (Row w a P) := RP
  have HP : Hid (Good P ∧ P.length = n) := ⟨hP, hn⟩
  have HTab : Hid (Tab w) := tab
  have HRo : Hid (ro = room (S0 :: r)) := hro
  have HLE : Hid (R.length ≤ K ∧ r.length + 1 ≤ K + 1) := ⟨N.le, by simpa using hle⟩
  have hn65 : n ≤ 65536 := by rw [← hn]; exact hP.2
  have i1 : ¬ (65536 : Int) < (n : Int) := by omega
  have c1 : w.cell? ⟨t, 1, none⟩ = some (.bool true) := B.cell 1
  have c2 : w.cell? ⟨t, 2, none⟩ = some (.slice (some ⟨gn, 0, none⟩) n0 n0) := B.cell 2
  clear B S N n2 n3 n4 hP hn RP tab hO0 hn0 hle hro
  go_enter Tryd.func9, Tryd.ntmps9
  go_wp2_with fail
  refine (none_any t _ _ s K f R.length _ w HB.out).mono ?_
  rintro e w1 ⟨rfl, rfl⟩
  go_upto_region 6 with fail
  go_wp2_with fail
  refine (diff_any P S0 n n0 HP.out.1.1 HG0.out.1 HP.out.2 HN0.out hn65 hn065 a (some ⟨gn, 0, none⟩) k n0 w1 HRP.out HO0.out.row HTab.out).mono ?_
  rintro e w2 ⟨x2, rfl, X2, b2⟩
  obtain ⟨a2, k2, rfl, -, r2, -⟩ := X2.full
  obtain ⟨np, hnp⟩ : ∃ np, np = (diffL P S0).length := ⟨_, rfl⟩
  have HNP : Hid ((diffL P S0).length = np) := hnp.symm
  have hnp65 : np ≤ 65560 := by rw [hnp]; exact diffL_le HP.out.1 HG0.out
  rw [← hnp]
  have HR2 : Hid (Row w2 a2 (diffL P S0)) := r2.row
  have HB2 : Hid (Below w1.heap.size w1 w2) := b2
  clear X2 r2 hnp b2
  go_wp2_with fail
  refine (copied_any np (diffL P S0) HNP.out (by omega) a2 k2 w2 HR2.out).mono ?_
  rintro e w3 ⟨rfl, O3, b3⟩
  have hw2 := HB2.out.size
  have HB3 : Hid (Below w1.heap.size w1 w3) := HB2.out.trans (b3.mono hw2)
  have HO3 : Hid (Own w3 w2.heap.size (diffL P S0)) := O3
  have HT3 : Hid (Blk w3 t (tc true true (.slice (some ⟨gn, 0, none⟩) n0 n0) s K f R.length (ro : Nat)) 54) := HB.out.below HB.out.lt HB3.out
  have HS3 : Hid (Blk w3 s cur 28) := HS.out.below HS.out.lt HB3.out
  have ht1 := HB.out.lt
  have hs1 := HS.out.lt
  clear O3 b3 c1 c2 HR2
  go_upto_region 7 with fail
  go_wp2_with fail
  refine (ring_push t true true _ s K f (ro : Nat) cur (some ⟨w2.heap.size, 0, none⟩) np np _ rfl R n5 w3 HN.out.1 HT3.out HS3.out).mono ?_
  rintro e w4 ⟨lost, b, rfl, ⟨f4, cur4, N4, B4, S4, K4⟩, hcase⟩
  obtain ⟨la, lp, lc, hlost, hlp, hlr⟩ : ∃ (la : Option Addr) (lp lc : Nat), lost = .slice la lp lc ∧ lp ≤ 65560 ∧ room ((P :: S0 :: r).take (K + 1)) + lp = ro + np := by
    have hlen := HN.out.2
    rcases hcase with ⟨h1, h2⟩ | ⟨h1, h2⟩ | ⟨h1, h2, h3⟩
    · subst h1
      have hr0 : r = [] := by have := HLE.out.2; exact List.length_eq_zero_iff.1 (by omega)
      exact ⟨_, np, _, h2, hnp65, by rw [HRo.out, hr0]; simp [room]⟩
    · refine ⟨none, 0, 0, h2, by omega, ?_⟩
      rw [List.take_of_length_le (by simp at hlen ⊢; omega), HRo.out, ← HNP.out]
      simp only [room]
      omega
    · obtain ⟨g, hlo, -⟩ := H3.out (K - 1) lost h3
      have hrl : (S0 :: r).length = K + 1 := by simp at hlen ⊢; omega
      have hg1 : Good ((S0 :: r).getD (K - 1) []) := H4.out _ (by rw [List.getD, List.getElem?_eq_getElem (by omega)]; exact List.getElem_mem _)
      have hg2 : Good ((S0 :: r).getD K []) := H4.out _ (by rw [List.getD, List.getElem?_eq_getElem (by omega)]; exact List.getElem_mem _)
      rw [show K - 1 + 1 = K by omega] at hlo
      refine ⟨_, _, _, hlo.1, diffL_le hg1 hg2, ?_⟩
      have hl := room_last (S0 :: r) K h1 hrl
      obtain ⟨q, rfl⟩ : ∃ q, K = q + 1 := ⟨K - 1, by omega⟩
      rw [HRo.out, hl, ← HNP.out]
      simp only [List.take_succ_cons, room]
      omega
  have HLR : Hid (room ((P :: S0 :: r).take (K + 1)) + lp = ro + np) := hlr
  have HN4 : Hid (Rn K f4 cur4 ((Value.slice (some ⟨w2.heap.size, 0, none⟩) np np :: R).take K)) := N4
  obtain ⟨cn, hcn⟩ : ∃ cn, cn = ((Value.slice (some ⟨w2.heap.size, 0, none⟩) np np :: R).take K).length := ⟨_, rfl⟩
  have HCN : Hid (cn = ((Value.slice (some ⟨w2.heap.size, 0, none⟩) np np :: R).take K).length) := hcn
  rw [← hcn] at B4
  have HT4 : Hid (Blk w4 t (tc true true (.slice (some ⟨gn, 0, none⟩) n0 n0) s K f4 cn (ro : Nat)) 54) := B4
  have HS4 : Hid (Blk w4 s cur4 28) := S4
  have HK4 : Hid (Kp (S2 t s) w3 w4) := K4
  clear hcase hlr N4 hcn B4 S4 K4 HT3 HS3
  subst hlost
  have c6 : w4.cell? ⟨t, 6, none⟩ = some (.int .i64 (ro : Nat)) := HT4.out.cell 6
  have g6 := HT4.out.free 6
  obtain ⟨ro2, hro2⟩ : ∃ ro2 : Nat, ro2 + lp = ro + np := ⟨_, HLR.out⟩
  have e6 : (ro : Int) + ((np : Int) - (lp : Int)) = (ro2 : Int) := by omega
  have HRO2 : Hid (room ((P :: S0 :: r).take (K + 1)) = ro2) := by have := HLR.out; unfold Hid; omega
  have HT5 : Hid (Blk (w4.setCell ⟨t, 6, none⟩ (.int .i64 (ro2 : Nat))) t (tc true true (.slice (some ⟨gn, 0, none⟩) n0 n0) s K f4 cn (ro2 : Nat)) 54) := HT4.out.set 6 (.int .i64 (ro2 : Nat))
  have HS5 : Hid (Blk (w4.setCell ⟨t, 6, none⟩ (.int .i64 (ro2 : Nat))) s cur4 28) := HS4.out.other hts.symm 6 _
  have HK5 : Hid (Kp (S2 t s) w3 (w4.setCell ⟨t, 6, none⟩ (.int .i64 (ro2 : Nat)))) := HK4.out.trans (Kp.of_grown (grown_set w4 t 6 _) (.inl rfl))
  clear hro2
  go_upto_region 9 with fail
  generalize w4.setCell ⟨t, 6, none⟩ (.int .i64 (ro2 : Nat)) = w5 at *
  clear c6 g6 HT4 HS4 HK4
  have hw13 := HB3.out.size
  have hw35 := HK5.out.size
  have HRP5 : Hid (Row w5 a P) := by
    rcases HRP.out.below HB3.out with e | ⟨bb, off, e, hc⟩
    · exact .inl e
    · refine .inr ⟨bb, off, e, fun i hi => ?_⟩
      have hpn : P ≠ [] := fun h => by rw [h] at hi; exact Nat.not_lt_zero _ hi
      have hne : ¬ S2 t s bb := fun h => by
        rcases h with h | h
        · exact hap _ e hpn (by show FP bb; rw [h]; exact f1)
        · exact hap _ e hpn (by show FP bb; rw [h]; exact f2)
      exact (World.cell?_of_block (HK5.out.block bb (cell_lt (p := ⟨bb, off + i, none⟩) (hc i hi)) hne)).trans (hc i hi)
  go_wp2_with fail
  refine (copied_any n P HP.out.2 (by omega) a k w5 HRP5.out).mono ?_
  rintro e w6 ⟨rfl, O6, b6⟩
  have hw56 := b6.size
  have HT6 : Hid (Blk w6 t (tc true true (.slice (some ⟨gn, 0, none⟩) n0 n0) s K f4 cn (ro2 : Nat)) 54) := HT5.out.below HT5.out.lt b6
  have HS6 : Hid (Blk w6 s cur4 28) := HS5.out.below HS5.out.lt b6
  have HO6 : Hid (Own w6 w5.heap.size P) := O6
  have HB56 : Hid (Below w5.heap.size w5 w6) := b6
  clear O6 b6 HT5 HS5
  have c1 : w6.cell? ⟨t, 1, none⟩ = some (.bool true) := HT6.out.cell 1
  have c2 : w6.cell? ⟨t, 2, none⟩ = some (.slice (some ⟨gn, 0, none⟩) n0 n0) := HT6.out.cell 2
  have g1 := HT6.out.free 1
  have g2 := HT6.out.free 2
  have KEEP : Hid (∀ g l, Own w6 g l → g ≠ t → Own ((w6.setCell ⟨t, 2, none⟩ (.slice (some ⟨w5.heap.size, 0, none⟩) n n)).setCell ⟨t, 1, none⟩ (.bool true)) g l) := fun g l h hne => (Below.heap_setCell _ ⟨t, 1, none⟩ _ _ hne).trans ((Below.heap_setCell _ ⟨t, 2, none⟩ _ _ hne).trans h)
  have HT8 : Hid (Blk ((w6.setCell ⟨t, 2, none⟩ (.slice (some ⟨w5.heap.size, 0, none⟩) n n)).setCell ⟨t, 1, none⟩ (.bool true)) t (tc true true (.slice (some ⟨w5.heap.size, 0, none⟩) n n) s K f4 cn (ro2 : Nat)) 54) := (HT6.out.set 2 _).set 1 _
  have HS8 : Hid (Blk ((w6.setCell ⟨t, 2, none⟩ (.slice (some ⟨w5.heap.size, 0, none⟩) n n)).setCell ⟨t, 1, none⟩ (.bool true)) s cur4 28) := (HS6.out.other hts.symm 2 _).other hts.symm 1 _
  have HK8 : Hid (Kp FP w1 ((w6.setCell ⟨t, 2, none⟩ (.slice (some ⟨w5.heap.size, 0, none⟩) n n)).setCell ⟨t, 1, none⟩ (.bool true))) := by
    have k1 : Kp FP w1 w3 := Kp.of_below HB3.out
    have k2 : Kp FP w3 w5 := HK5.out.mono fun k h => by rcases h with rfl | rfl; exact f1; exact f2
    have k3 : Kp FP w5 w6 := Kp.of_below HB56.out
    exact (((k1.trans k2).trans k3).trans (Kp.of_grown (grown_set _ t 2 _) f1)).trans (Kp.of_grown (grown_set _ t 1 _) f1)
  have HO8 : Hid (Own ((w6.setCell ⟨t, 2, none⟩ (.slice (some ⟨w5.heap.size, 0, none⟩) n n)).setCell ⟨t, 1, none⟩ (.bool true)) w5.heap.size P) := KEEP.out _ _ HO6.out (by omega)
  have hsz8 : ((w6.setCell ⟨t, 2, none⟩ (.slice (some ⟨w5.heap.size, 0, none⟩) n n)).setCell ⟨t, 1, none⟩ (.bool true)).heap.size = w6.heap.size := by simp
  have HZ8 : Hid (((w6.setCell ⟨t, 2, none⟩ (.slice (some ⟨w5.heap.size, 0, none⟩) n n)).setCell ⟨t, 1, none⟩ (.bool true)).heap.size = w6.heap.size) := hsz8
  clear hsz8
  go_wp2
  go_ret
  have hlists := push_lists (FP := FP) (FQ := fun k => FP k ∨ (w1.heap.size ≤ k ∧ k < ((w6.setCell ⟨t, 2, none⟩ (.slice (some ⟨w5.heap.size, 0, none⟩) n n)).setCell ⟨t, 1, none⟩ (.bool true)).heap.size)) (w := w1) (w' := (w6.setCell ⟨t, 2, none⟩ (.slice (some ⟨w5.heap.size, 0, none⟩) n n)).setCell ⟨t, 1, none⟩ (.bool true)) (K := K) (S0 := S0) (P := P) (r := r) (R := R) (gn := gn) (gq := w5.heap.size) (e := .slice (some ⟨w2.heap.size, 0, none⟩) np np) (gp := w2.heap.size) HN.out.2 HLE.out.1 H3.out
    (fun g l hO hg => by
      have h1 := hO.lt
      have h2 := own_ne HB.out hO (by decide)
      have h3 := own_ne HS.out hO (by decide)
      have h4 : Own w5 g l := HK5.out.own (hO.below hO.lt HB3.out) (fun h => by rcases h with h | h; exact h2 h; exact h3 h)
      exact ⟨KEEP.out g l (h4.below h4.lt HB56.out) h2, .inl hg, by omega⟩)
    ⟨by rw [HNP.out], by
      have h1 := HO3.out.lt
      have h4 : Own w5 w2.heap.size (diffL P S0) := HK5.out.own HO3.out (fun h => by rcases h with h | h <;> omega)
      exact KEEP.out _ _ (h4.below h4.lt HB56.out) (by omega), .inr ⟨hw2, by rw [HZ8.out]; have := HO3.out.lt; omega⟩⟩ (by have := HO3.out.lt; omega)
  have hsome : (P :: S0 :: r).take (K + 1) = P :: (S0 :: r).take K := by rw [List.take_succ_cons]
  refine ⟨rfl, ⟨s, f4, cur4, .slice (some ⟨w5.heap.size, 0, none⟩) n n, w5.heap.size, (Value.slice (some ⟨w2.heap.size, 0, none⟩) np np :: R).take K, ?_, HS8.out, HN4.out, .inl f1, .inl f2, ?_, hlists.1, hlists.2, ?_, n5⟩, HK8.out⟩
  · rw [← HCN.out, HRO2.out, hsome]; exact HT8.out
  · rw [hsome]; exact ⟨by rw [HP.out.2], HO8.out, .inr ⟨by omega, by rw [HZ8.out]; have := HO6.out.lt; omega⟩⟩
  · intro S hS
    rcases List.mem_cons.1 (List.mem_of_mem_take hS) with rfl | h
    · exact HP.out.1
    · exact H4.out S h
end Go.Proofs.YtlckjbangdnejaaDoor
