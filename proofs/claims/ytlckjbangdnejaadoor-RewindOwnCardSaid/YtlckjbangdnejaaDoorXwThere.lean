/-
  A patch makes one list alone; the law RewindThere returns true of any two lists of bytes.
-/
import Derived.Test.YtlckjbangdnejaaDoorXwPatch
set_option linter.unusedSimpArgs false
set_option linter.unusedVariables false
namespace Go.Proofs.YtlckjbangdnejaaDoor
open Go.RowKit Classical
theorem xr_inj {F A B : List Nat} (hl : A.length = B.length) (h : RwM.xr F A = RwM.xr F B) : A = B := by
  refine list_eq hl fun i hi => ?_
  have a := RwM.xr_at F A i hi
  rw [h, RwM.xr_at F B i (by omega)] at a
  have e1 := xor_self_cancel (A.getD i 0) (F.getD i 0)
  rw [← a, xor_self_cancel] at e1
  exact e1.symm
/-- No patch is the beginning of another. -/
theorem diffL_prefix {F A B m : List Nat} (hF : F.length ≤ 65536) (hA : Good A) (hB : Good B) (h : diffL F A ++ m = diffL F B) : A = B ∧ m = [] := by
  have h1 := congrArg (List.drop 2) h
  rw [diffL_head, List.drop_append_of_le_length (by have := (diffL_len hF hA.2).1; omega), diffL_head] at h1
  simp only [List.append_assoc] at h1
  obtain ⟨_, h2⟩ := RwM.num_inj (by omega) (by omega) h1
  have a2 := hA.2
  have b2 := hB.2
  obtain ⟨h3, h4⟩ := RwM.num_inj (by omega) (by omega) h2
  obtain ⟨h5, h6⟩ := RwM.rb_inj 65536 (RwM.xr F A) (RwM.xr F B) (sum4 (crc A) ++ m) (sum4 (crc B)) (by rw [RwM.xr_len]; exact a2) (by rw [RwM.xr_len, RwM.xr_len]; exact h3) (Nat.le_refl _) h4
  refine ⟨xr_inj h3 h5, ?_⟩
  have h7 := congrArg List.length h6
  simp only [List.length_append, sum4, List.length_cons, List.length_nil] at h7
  exact List.length_eq_zero_iff.1 (by omega)
theorem diffL_inj {F A B : List Nat} (hF : F.length ≤ 65536) (hA : Good A) (hB : Good B) (h : diffL F A = diffL F B) : A = B :=
  (diffL_prefix (m := []) hF hA hB (by rw [List.append_nil]; exact h)).1
theorem Tx.full2 {W : World} {base : Nat} {v : Value} {l : List Nat} (h : Tx W base v l) : ∃ a k, v = .slice a l.length k ∧ l.length ≤ k ∧ RowF base W a l ∧ (∀ p, a = some p → base ≤ p.block ∧ p.block < W.heap.size) ∧ (a = none → k = 0) := by
  obtain ⟨a, k, e, h1, h2, h3⟩ := h.full
  refine ⟨a, k, e, h1, h2, h3, fun ha => ?_⟩
  rcases h.2 with ⟨e2, h0⟩ | ⟨g, cap, cur, e2, _, _, hn, _⟩
  · have := e.symm.trans e2
    simp only [Value.slice.injEq] at this
    exact this.2.2
  · rw [e, ha] at e2; cases e2
theorem retB {b : Bool} (h : b = true) : Ending.returned (.bool b) = .returned (.bool true) := by rw [h]
/-- What Patch answers of the patch to T. -/
theorem patch_yes (F T D : List Nat) (nf nd kf kd : Nat) (a ad : Option Addr) (hF : Bytes F) (hT : Good T) (hDT : D = diffL F T) (hnf : F.length = nf) (hnd : D.length = nd) (lf : nf ≤ 65536) (hkd : nd ≤ kd) (hnil : ad = none → kd = 0) (w : World)
    (RF : Row w a F) (RD : Row w ad D) (tab : Tab w) :
    Calls Tryd.prog 20 #[.slice a nf kf, .slice ad nd kd] w fun e w' => ∃ g s, e = .returned (.tuple #[.slice (some ⟨g, 0, none⟩) s s, .int .i64 0]) ∧ T.length = s ∧ w.heap.size ≤ g ∧ Own w' g T ∧ Below w.heap.size w w' := by
  have hl := diffL_len (F := F) (T := T) (by omega) hT.2
  refine (patch_any F D nf nd kf kd a ad hF (by rw [hDT]; exact diffL_bytes hF hT.1) hnf hnd lf (by rw [← hnd, hDT]; omega) hkd hnil w RF RD tab).mono ?_
  rintro e w' ⟨hb, h | h⟩
  · exact absurd hDT (h.2 T hT)
  · obtain ⟨g, s, T2, he, h1, h2, h3, h4, h5⟩ := h
    obtain rfl : T = T2 := diffL_inj (by omega) hT h4 (hDT.symm.trans h5)
    exact ⟨g, s, he, h1, h2, h3, hb⟩
/-- What Patch answers of what is no patch. -/
theorem patch_no (F D : List Nat) (nf nd kf kd : Nat) (a ad : Option Addr) (hF : Bytes F) (hD : Bytes D) (hnf : F.length = nf) (hnd : D.length = nd) (lf : nf ≤ 65536) (ld : nd ≤ 281474976710656) (hkd : nd ≤ kd) (hnil : ad = none → kd = 0) (w : World)
    (RF : Row w a F) (RD : Row w ad D) (tab : Tab w) (hno : ∀ T2, Good T2 → D ≠ diffL F T2) :
    Calls Tryd.prog 20 #[.slice a nf kf, .slice ad nd kd] w fun e w' => e = .returned (.tuple #[.slice none 0 0, .int .i64 170]) ∧ Below w.heap.size w w' := by
  refine (patch_any F D nf nd kf kd a ad hF hD hnf hnd lf ld hkd hnil w RF RD tab).mono ?_
  rintro e w' ⟨hb, h | h⟩
  · exact ⟨h.1, hb⟩
  · obtain ⟨g, s, T2, he, h1, h2, h3, h4, h5⟩ := h
    exact absurd h5 (hno T2 h4)
set_option maxRecDepth 100000 in
set_option maxHeartbeats 1600000 in
theorem there_law (F T : List Nat) (nf nt : Nat) (hF : Bytes F) (hT : Bytes T) (hnf : F.length = nf) (hnt : T.length = nt) (mf : nf ≤ 140737488351232) (mt : nt ≤ 140737488351232) (a b : Option Addr) (kf kt : Nat) (w : World)
    (RF : Row w a F) (RT : Row w b T) (tab : Tab w) :
    Calls Tryd.prog 18 #[.slice a nf kf, .slice b nt kt] w fun e w' => e = .returned (.bool true) ∧ Below w.heap.size w w' := by
  have HN : Hid (F.length = nf ∧ T.length = nt) := ⟨hnf, hnt⟩
  have HB : Hid (Bytes F ∧ Bytes T) := ⟨hF, hT⟩
  have HR : Hid (∀ W, Below w.heap.size w W → Row W a F ∧ Row W b T ∧ Tab W) := fun W h => ⟨RF.below h, RT.below h, tab.below tab.lt h⟩
  have HBW : Hid (Below w.heap.size w w) := Below.refl _ _
  clear hF hT hnf hnt RF RT tab
  by_cases h : 65536 < nf ∨ 65536 < nt
  · by_cases h1 : 65536 < nf
    · have i1 : (65536 : Int) < (nf : Int) := by omega
      go_enter Tryd.func18, Tryd.ntmps18
      go_wp2_with fail
      refine (diff_long F T nf nt h mf mt a b kf kt w).mono ?_
      rintro e w1 ⟨rfl, rfl⟩
      go_wp2_with fail
      refine (patch_long nf 0 kf 0 a none h1 w1).mono ?_
      rintro e w2 ⟨rfl, rfl⟩
      go_wp2
      go_ret
      exact ⟨retB (by simp; omega), HBW.out⟩
    · have i1 : ¬ (65536 : Int) < (nf : Int) := by omega
      have i2 : (65536 : Int) < (nt : Int) := by omega
      have HNO : Hid (∀ T2, Good T2 → ([] : List Nat) ≠ diffL F T2) := fun T2 hG e => by
        have := (diffL_len (F := F) (T := T2) (by rw [HN.out.1]; omega) hG.2).1
        rw [← e] at this; simp at this
      go_enter Tryd.func18, Tryd.ntmps18
      go_wp2_with fail
      refine (diff_long F T nf nt h mf mt a b kf kt w).mono ?_
      rintro e w1 ⟨rfl, rfl⟩
      go_wp2_with fail
      refine (patch_no F [] nf 0 kf 0 a none HB.out.1 (fun x hx => by cases hx) HN.out.1 rfl (by omega) (by decide) (Nat.le_refl _) (fun _ => rfl) w1 (HR.out _ HBW.out).1 (.inl rfl) (HR.out _ HBW.out).2.2 HNO.out).mono ?_
      rintro e w2 ⟨rfl, b2⟩
      have HB2 : Hid (Below w1.heap.size w1 w2) := b2
      clear b2
      go_wp2
      go_ret
      exact ⟨retB (by simp; omega), HB2.out⟩
  · have hl : nf ≤ 65536 ∧ nt ≤ 65536 := by omega
    have i1 : ¬ (65536 : Int) < (nf : Int) := by omega
    have i2 : ¬ (65536 : Int) < (nt : Int) := by omega
    have HG : Hid (Good T) := ⟨HB.out.2, by rw [HN.out.2]; exact hl.2⟩
    obtain ⟨nd, hnd⟩ : ∃ nd, (diffL F T).length = nd := ⟨_, rfl⟩
    have HLD : Hid ((diffL F T).length = nd) := hnd
    have hd10 : 10 ≤ nd := by rw [← hnd]; exact (diffL_len (by rw [HN.out.1]; exact hl.1) (by rw [HN.out.2]; exact hl.2)).1
    clear hnd
    go_enter Tryd.func18, Tryd.ntmps18
    go_wp2_with fail
    refine (diff_any F T nf nt HB.out.1 HB.out.2 HN.out.1 HN.out.2 hl.1 hl.2 a b kf kt w (HR.out _ HBW.out).1 (HR.out _ HBW.out).2.1 (HR.out _ HBW.out).2.2).mono ?_
    rintro e w1 ⟨x1, rfl, X1, b1⟩
    have HB1 : Hid (Below w.heap.size w w1) := b1
    obtain ⟨a1, k1, rfl, hk1, r1, p1, n1⟩ := X1.full2
    have HR1 : Hid (Row w1 a1 (diffL F T)) := r1.row
    have HN1 : Hid (a1 = none → k1 = 0) := n1
    rw [HLD.out] at hk1 ⊢
    clear X1 b1 r1 p1 n1
    go_wp2_with fail
    refine (patch_yes F T (diffL F T) nf nd kf k1 a a1 HB.out.1 HG.out rfl HN.out.1 HLD.out hl.1 hk1 HN1.out w1 (HR.out _ HB1.out).1 HR1.out (HR.out _ HB1.out).2.2).mono ?_
    rintro e w2 ⟨g, s, rfl, hs, hg, O2, b2⟩
    obtain rfl : s = nt := by rw [← hs]; exact HN.out.2
    have HB2 : Hid (Below w.heap.size w w2) := HB1.out.trans (b2.mono HB1.out.size)
    have HO2 : Hid (Own w2 g T) := O2
    clear hs O2 b2
    go_wp2_with fail
    refine (same_any T T s s HB.out.2 HB.out.2 HN.out.2 HN.out.2 (by omega) (some ⟨g, 0, none⟩) b s kt w2 HO2.out.row (HR.out _ HB2.out).2.1).mono ?_
    rintro e w3 ⟨rfl, b3⟩
    rw [sameB_self]
    have HB3 : Hid (Below w.heap.size w w3) := HB2.out.trans (b3.mono HB2.out.size)
    have i3 : (10 : Int) ≤ (nd : Int) := by omega
    clear b3
    go_wp2
    go_ret
    exact ⟨rfl, HB3.out⟩
end Go.Proofs.YtlckjbangdnejaaDoor
