/-
  The newest snapshot taken from a tape.
-/
import Derived.Test.YtlckjbangdnejaaDoorXtPushM
set_option linter.unusedSimpArgs false
set_option linter.unusedVariables false
namespace Go.Proofs.YtlckjbangdnejaaDoor
open Go.RowKit Classical
theorem back_nil (w : World) : Calls Tryd.prog 15 #[.pointer none] w fun e w' => e = .returned (.tuple #[.slice none 0 0, .int .i64 0]) ∧ w' = w := by
  go_enter Tryd.func15, Tryd.ntmps15
  go_wp2_with fail
  refine (none_nil w).mono ?_
  rintro e w1 ⟨rfl, rfl⟩
  go_wp2
  go_ret2
  exact ⟨rfl, rfl⟩
theorem back_empty (FP : Nat → Prop) (t K : Nat) (w : World) (h : Tp FP t K [] w) : Calls Tryd.prog 15 #[.pointer (some ⟨t, 0, none⟩)] w fun e w' => e = .returned (.tuple #[.slice none 0 0, .int .i64 171]) ∧ w' = w := by
  obtain ⟨s, f, cur, nv, gn, R, B, -⟩ := h
  have HB : Hid (Blk w t (tc true false nv s K f R.length (room [] : Nat)) 54) := B
  have c1 : w.cell? ⟨t, 1, none⟩ = some (.bool false) := B.cell 1
  clear B
  go_enter Tryd.func15, Tryd.ntmps15
  go_wp2_with fail
  refine (none_any t _ nv s K f R.length _ w HB.out).mono ?_
  rintro e w1 ⟨rfl, rfl⟩
  go_wp2
  go_ret2
  exact ⟨rfl, rfl⟩
/-- A tape behind a Back, and what was taken. -/
def BaOk (FP : Nat → Prop) (t K : Nat) (S0 : List Nat) (rest : List (List Nat)) (w : World) (e : Ending) (w' : World) : Prop :=
  ∃ g, e = .returned (.tuple #[.slice (some ⟨g, 0, none⟩) S0.length S0.length, .int .i64 0]) ∧ Own w' g S0 ∧ FP g ∧ Tp (fun k => (FP k ∧ k ≠ g) ∨ (w.heap.size ≤ k ∧ k < w'.heap.size)) t K rest w' ∧ Kp FP w w'
set_option maxRecDepth 100000 in
set_option maxHeartbeats 3200000 in
theorem back_some (FP : Nat → Prop) (t K : Nat) (S0 : List Nat) (rest : List (List Nat)) (w : World) (h : Tp FP t K (S0 :: rest) w) :
    Calls Tryd.prog 15 #[.pointer (some ⟨t, 0, none⟩)] w (BaOk FP t K S0 rest w) := by
  have hle := h.le
  obtain ⟨s, f, cur, nv, gn, R, B, S, N, f1, f2, n1, n2, n3, n4, n5⟩ := h
  have hts := blk_ne B S (by decide)
  obtain ⟨ro, hro⟩ : ∃ ro, ro = room (S0 :: rest) := ⟨_, rfl⟩
  have hroL : ro ≤ 268600000 := by
    have := room_le (S0 :: rest) n4
    rw [hro]; omega
  rw [← hro] at B
  obtain ⟨hnv, hO0, hfg⟩ := n1
  obtain ⟨n0, hn0⟩ : ∃ n0, n0 = S0.length := ⟨_, rfl⟩
  have HN0 : Hid (S0.length = n0) := hn0.symm
  have hG0 : Good S0 := n4 S0 (by simp)
  rw [← hn0] at hnv
  have hn065 : n0 ≤ 65536 := by rw [hn0]; exact hG0.2
  subst hnv
  have hgt := own_ne B hO0 (by decide)
  have hgs := own_ne S hO0 (by decide)
  have HB : Hid (Blk w t (tc true true (.slice (some ⟨gn, 0, none⟩) n0 n0) s K f R.length (ro : Nat)) 54) := B
  have c1 : w.cell? ⟨t, 1, none⟩ = some (.bool true) := B.cell 1
  have c2 : w.cell? ⟨t, 2, none⟩ = some (.slice (some ⟨gn, 0, none⟩) n0 n0) := B.cell 2
  have g1 := B.free 1
  have g2 := B.free 2
  have HT1 : Hid (Blk ((w.setCell ⟨t, 2, none⟩ (.slice none 0 0)).setCell ⟨t, 1, none⟩ (.bool false)) t (tc true false (.slice none 0 0) s K f R.length (ro : Nat)) 54) := (B.set 2 _).set 1 _
  have HS1 : Hid (Blk ((w.setCell ⟨t, 2, none⟩ (.slice none 0 0)).setCell ⟨t, 1, none⟩ (.bool false)) s cur 28) := (S.other hts.symm 2 _).other hts.symm 1 _
  have HK1 : Hid (Kp (S2 t s) w ((w.setCell ⟨t, 2, none⟩ (.slice none 0 0)).setCell ⟨t, 1, none⟩ (.bool false))) := (Kp.of_grown (grown_set w t 2 _) (.inl rfl)).trans (Kp.of_grown (grown_set _ t 1 _) (.inl rfl))
  have HN : Hid (Rn K f cur R ∧ R.length = (S0 :: rest).length - 1) := ⟨N, n2⟩
  have HO0 : Hid (Own w gn S0) := hO0
  have HKF : Hid (∀ a b, Kp (S2 t s) a b → Kp FP a b) := fun a b h => h.mono fun k h => by rcases h with rfl | rfl; exact f1; exact f2
  have ht1 := B.lt
  have hs1 := S.lt
  have hg1 := hO0.lt
  cases rest with
  | nil =>
    obtain rfl : R = [] := List.length_eq_zero_iff.1 (by simpa using n2)
    have HRo : Hid (ro = 0) := by rw [hro]; rfl
    clear B S N n2 n3 n4 hO0 hn0 hro hle
    go_enter Tryd.func15, Tryd.ntmps15
    go_wp2_with fail
    refine (none_any t _ _ s K f _ _ w HB.out).mono ?_
    rintro e w1 ⟨rfl, rfl⟩
    go_upto_region 7 with fail
    generalize (w1.setCell ⟨t, 2, none⟩ (.slice none 0 0)).setCell ⟨t, 1, none⟩ (.bool false) = w2 at *
    clear c1 c2 g1 g2
    go_wp2_with fail
    refine (newest_none t true false _ s K f _ w2 HT1.out).mono ?_
    rintro e w3 ⟨rfl, rfl⟩
    go_wp2
    go_ret2
    exact ⟨gn, by rw [HN0.out]; rfl, HK1.out.own HO0.out (fun h => by rcases h with h | h; exact hgt h; exact hgs h), hfg, ⟨s, f, cur, .slice none 0 0, 0, [], by have := HT1.out; rw [HRo.out] at this; exact this, HS1.out, HN.out.1, .inl ⟨f1, fun h => hgt h.symm⟩, .inl ⟨f2, fun h => hgs h.symm⟩, rfl, rfl, (fun i v hv => by simp at hv), (fun S hS => by cases hS), n5⟩, HKF.out _ _ HK1.out⟩
  | cons S1' r =>
    cases R with
    | nil => simp at n2
    | cons v0 R' =>
      obtain ⟨gp, hlo, hgp⟩ := n3 0 v0 rfl
      have hG1 : Good S1' := n4 S1' (by simp)
      obtain ⟨np, hnp⟩ : ∃ np, np = (diffL S0 S1').length := ⟨_, rfl⟩
      have HNP : Hid ((diffL S0 S1').length = np) := hnp.symm
      have hv0 : v0 = .slice (some ⟨gp, 0, none⟩) np np := by rw [hnp]; exact hlo.1
      have hnp65 : np ≤ 65560 := by rw [hnp]; exact diffL_le hG0 hG1
      have HOp : Hid (Own w gp (diffL S0 S1')) := hlo.2.1
      have hgpt := own_ne B hlo.2.1 (by decide)
      have hgps := own_ne S hlo.2.1 (by decide)
      have hgp1 := hlo.2.1.lt
      have H3 : Hid (∀ i v, R'[i]? = some v → ∃ g, Lo FP w v g (diffL ((S1' :: r).getD i []) ((S1' :: r).getD (i + 1) [])) ∧ g ≠ gn ∧ g ≠ t ∧ g ≠ s ∧ g < w.heap.size) := fun i v hv => by
        obtain ⟨g, hg, hne⟩ := n3 (i + 1) v (by rw [List.getElem?_cons_succ]; exact hv)
        exact ⟨g, hg, hne, own_ne B hg.2.1 (by decide), own_ne S hg.2.1 (by decide), hg.2.1.lt⟩
      have H4 : Hid (Good S0 ∧ Good S1' ∧ ∀ S ∈ S1' :: r, Good S) := ⟨hG0, hG1, fun S hS => n4 S (by simp at hS ⊢; exact .inr hS)⟩
      have HRo : Hid (ro = np + room (S1' :: r)) := by rw [hro, hnp]; rfl
      obtain ⟨ro2, hro2⟩ : ∃ ro2, ro2 = room (S1' :: r) := ⟨_, rfl⟩
      have hrr : ro = np + ro2 := by rw [hro2]; exact HRo.out
      have HR2 : Hid (ro2 = room (S1' :: r)) := hro2
      have e6 : (ro : Int) - (np : Int) = (ro2 : Int) := by omega
      have HN2 : Hid (R'.length = (S1' :: r).length - 1) := by unfold Hid; simp only [List.length_cons] at n2 ⊢; omega
      clear B S N n2 n3 n4 hO0 hn0 hro hle hlo hnp hro2 hG0 hG1 hrr
      subst hv0
      go_enter Tryd.func15, Tryd.ntmps15
      go_wp2_with fail
      refine (none_any t _ _ s K f _ _ w HB.out).mono ?_
      rintro e w1 ⟨rfl, rfl⟩
      go_upto_region 7 with fail
      generalize (w1.setCell ⟨t, 2, none⟩ (.slice none 0 0)).setCell ⟨t, 1, none⟩ (.bool false) = w2 at *
      clear c1 c2 g1 g2
      go_wp2_with fail
      refine (newest_some t true false _ s K f _ cur _ R' n5 w2 HN.out.1 HT1.out HS1.out).mono ?_
      rintro e w3 ⟨rfl, f3, cur3, N3, B3, S3, K3⟩
      have HT3 : Hid (Blk w3 t (tc true false (.slice none 0 0) s K f3 R'.length (ro : Nat)) 54) := B3
      have HS3 : Hid (Blk w3 s cur3 28) := S3
      have HK3 : Hid (Kp (S2 t s) w1 w3) := HK1.out.trans K3
      have HN3 : Hid (Rn K f3 cur3 R') := N3
      have HO3 : Hid (Own w3 gn S0) := HK3.out.own HO0.out (fun h => by rcases h with h | h; exact hgt h; exact hgs h)
      have HP3 : Hid (Own w3 gp (diffL S0 S1')) := HK3.out.own HOp.out (fun h => by rcases h with h | h; exact hgpt h; exact hgps h)
      have hw3 := HK3.out.size
      clear N3 B3 S3 K3 HT1 HS1 HK1 HB
      go_upto_region 9 with fail
      go_wp2_with fail
      refine (copied_any n0 S0 HN0.out (by omega) _ n0 w3 HO3.out.row).mono ?_
      rintro e w4 ⟨rfl, O4, b4⟩
      have HO4 : Hid (Own w4 w3.heap.size S0) := O4
      have HB4 : Hid (Below w3.heap.size w3 w4) := b4
      clear O4 b4
      go_wp2_with fail
      refine (patched_good w3 S0 S1' n0 np w3.heap.size (some ⟨gp, 0, none⟩) H4.out.1 H4.out.2.1 HN0.out HNP.out (fun h => by cases h) w4 HB4.out (Nat.le_refl _) HO4.out HP3.out.row).mono ?_
      rintro e w5 ⟨g5, rfl, hg5, O5, b5⟩
      obtain ⟨q5, hq5⟩ : ∃ q5, q5 = S1'.length := ⟨_, rfl⟩
      have HQ5 : Hid (S1'.length = q5) := hq5.symm
      rw [← hq5]
      clear hq5 HO4 HB4
      have hw5 := b5.size
      have HO5 : Hid (Own w5 g5 S1') := O5
      have HT5 : Hid (Blk w5 t (tc true false (.slice none 0 0) s K f3 R'.length (ro : Nat)) 54) := HT3.out.below HT3.out.lt b5
      have HS5 : Hid (Blk w5 s cur3 28) := HS3.out.below HS3.out.lt b5
      have HK5 : Hid (Kp (S2 t s) w1 w5) := HK3.out.on b5
      clear O5 b5 HT3 HS3 HK3 HP3 HO3
      have d1 : w5.cell? ⟨t, 1, none⟩ = some (.bool false) := HT5.out.cell 1
      have d2 : w5.cell? ⟨t, 2, none⟩ = some (.slice none 0 0) := HT5.out.cell 2
      have g1 := HT5.out.free 1
      have g2 := HT5.out.free 2
      have HT6 : Hid (Blk ((w5.setCell ⟨t, 2, none⟩ (.slice (some ⟨g5, 0, none⟩) q5 q5)).setCell ⟨t, 1, none⟩ (.bool true)) t (tc true true (.slice (some ⟨g5, 0, none⟩) q5 q5) s K f3 R'.length (ro : Nat)) 54) := (HT5.out.set 2 _).set 1 _
      have HS6 : Hid (Blk ((w5.setCell ⟨t, 2, none⟩ (.slice (some ⟨g5, 0, none⟩) q5 q5)).setCell ⟨t, 1, none⟩ (.bool true)) s cur3 28) := (HS5.out.other hts.symm 2 _).other hts.symm 1 _
      have HO6 : Hid (Own ((w5.setCell ⟨t, 2, none⟩ (.slice (some ⟨g5, 0, none⟩) q5 q5)).setCell ⟨t, 1, none⟩ (.bool true)) g5 S1') := (Below.heap_setCell _ ⟨t, 1, none⟩ _ _ (by show g5 ≠ t; omega)).trans ((Below.heap_setCell _ ⟨t, 2, none⟩ _ _ (by show g5 ≠ t; omega)).trans HO5.out)
      have HK6 : Hid (Kp (S2 t s) w1 ((w5.setCell ⟨t, 2, none⟩ (.slice (some ⟨g5, 0, none⟩) q5 q5)).setCell ⟨t, 1, none⟩ (.bool true))) := (HK5.out.trans (Kp.of_grown (grown_set _ t 2 _) (.inl rfl))).trans (Kp.of_grown (grown_set _ t 1 _) (.inl rfl))
      go_upto_region 10 with fail
      generalize (w5.setCell ⟨t, 2, none⟩ (.slice (some ⟨g5, 0, none⟩) q5 q5)).setCell ⟨t, 1, none⟩ (.bool true) = w6 at *
      clear d1 d2 g1 g2 HT5 HS5 HK5 HO5
      have d6 : w6.cell? ⟨t, 6, none⟩ = some (.int .i64 (ro : Nat)) := HT6.out.cell 6
      have g6 := HT6.out.free 6
      have HT7 : Hid (Blk (w6.setCell ⟨t, 6, none⟩ (.int .i64 (ro2 : Nat))) t (tc true true (.slice (some ⟨g5, 0, none⟩) q5 q5) s K f3 R'.length (ro2 : Nat)) 54) := HT6.out.set 6 (.int .i64 (ro2 : Nat))
      have HS7 : Hid (Blk (w6.setCell ⟨t, 6, none⟩ (.int .i64 (ro2 : Nat))) s cur3 28) := HS6.out.other hts.symm 6 _
      have HO7 : Hid (Own (w6.setCell ⟨t, 6, none⟩ (.int .i64 (ro2 : Nat))) g5 S1') := (Below.heap_setCell _ ⟨t, 6, none⟩ _ _ (by show g5 ≠ t; omega)).trans HO6.out
      have HK7 : Hid (Kp (S2 t s) w1 (w6.setCell ⟨t, 6, none⟩ (.int .i64 (ro2 : Nat)))) := HK6.out.trans (Kp.of_grown (grown_set _ t 6 _) (.inl rfl))
      go_wp2
      go_ret2
      refine ⟨gn, by rw [HN0.out]; rfl, HK7.out.own HO0.out (fun h => by rcases h with h | h; exact hgt h; exact hgs h), hfg, ⟨s, f3, cur3, .slice (some ⟨g5, 0, none⟩) q5 q5, g5, R', ?_, HS7.out, HN3.out, .inl ⟨f1, fun h => hgt h.symm⟩, .inl ⟨f2, fun h => hgs h.symm⟩, ⟨by rw [HQ5.out], HO7.out, .inr ⟨by omega, HO7.out.lt⟩⟩, HN2.out, ?_, H4.out.2.2, n5⟩, HKF.out _ _ HK7.out⟩
      · rw [← HR2.out]; exact HT7.out
      · intro i v hv
        obtain ⟨g, hg, k1, k2, k3, k4⟩ := H3.out i v hv
        exact ⟨g, ⟨hg.1, HK7.out.own hg.2.1 (fun h => by rcases h with h | h; exact k2 h; exact k3 h), .inl ⟨hg.2.2, k1⟩⟩, by omega⟩
end Go.Proofs.YtlckjbangdnejaaDoor
