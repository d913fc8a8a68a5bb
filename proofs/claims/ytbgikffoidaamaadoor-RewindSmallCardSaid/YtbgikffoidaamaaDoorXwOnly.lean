/-
  The law RewindOnly returns true of any two lists of bytes, any place and any byte.
-/
import Derived.Test.YtbgikffoidaamaaDoorXwThere
set_option linter.unusedSimpArgs false
set_option linter.unusedVariables false
namespace Go.Proofs.YtbgikffoidaamaaDoor
open Go.RowKit Classical
/-- A list with a byte turned. -/
def turn1 (D : List Nat) (k by' : Nat) : List Nat := D.set k (D.getD k 0 ^^^ by')
theorem turn1_len (D : List Nat) (k by' : Nat) : (turn1 D k by').length = D.length := by simp [turn1]
theorem turn1_bytes {D : List Nat} (h : Bytes D) (k by' : Nat) (hb : by' < 256) : Bytes (turn1 D k by') := by
  intro x hx
  rcases List.mem_or_eq_of_mem_set hx with hx | rfl
  · exact h x hx
  · exact Nat.xor_lt_two_pow (n := 8) (bytes_at h k) hb
theorem turn1_zero (D : List Nat) (k : Nat) : turn1 D k 0 = D := by
  unfold turn1
  rw [Nat.xor_zero]
  apply List.ext_getElem (by simp)
  intro i h1 h2
  rw [List.getElem_set]
  split
  · next e => subst e; rw [getD_elem _ _ h2]
  · rfl
theorem turn1_ne {D : List Nat} {k by' : Nat} (hk : k < D.length) (hb : by' ≠ 0) : turn1 D k by' ≠ D := by
  intro h
  have h1 : (turn1 D k by')[k]? = D[k]? := by rw [h]
  unfold turn1 at h1
  rw [List.getElem?_set_self hk, List.getElem?_eq_getElem hk, getD_elem _ _ hk] at h1
  have h2 := Option.some.inj h1
  have h3 := xor_self_cancel by' D[k]
  rw [Nat.xor_comm by', h2, Nat.xor_self] at h3
  exact hb h3.symm
theorem turn1_other (D : List Nat) (k by' i : Nat) (h : i ≠ k) : (turn1 D k by').getD i 0 = D.getD i 0 := by
  unfold turn1
  rw [List.getD, List.getElem?_set_ne (fun e => h e.symm)]
  rfl
/-- A patch with one of its first two bytes, or one of its sum's, turned is no patch. -/
theorem turn1_no {F T : List Nat} {k by' : Nat} (hF : F.length ≤ 65536) (hT : Good T) (hk : k < (diffL F T).length) (hb : by' ≠ 0) (h : k < 2 ∨ (diffL F T).length - 4 ≤ k) :
    ∀ T2, Good T2 → turn1 (diffL F T) k by' ≠ diffL F T2 := by
  intro T2 hG he
  rcases h with h | h
  · have hne : (diffL F T).getD k 0 = (diffL F T2).getD k 0 := by
      unfold diffL
      match k, h with
      | 0, _ => rfl
      | 1, _ => rfl
    have h2 := turn1_ne hk hb
    apply h2
    apply list_eq (turn1_len _ _ _)
    intro i hi
    by_cases e : i = k
    · rw [e, he]; exact hne.symm
    · exact turn1_other _ _ _ _ e
  · have hl := diffL_len hF hT.2
    have h1 : (turn1 (diffL F T) k by').drop 2 = (diffL F T2).drop 2 := by rw [he]
    obtain ⟨P, hP⟩ : ∃ P, P = [84, 80] ++ (RwM.num F.length ++ RwM.num T.length) ++ RwM.rb (RwM.xr F T) ++ (RwM.num 0 ++ RwM.num 0) := ⟨_, rfl⟩
    have hd : diffL F T = P ++ sum4 (crc T) := by rw [hP]; rfl
    have hPl : P.length = (diffL F T).length - 4 := by rw [hd, List.length_append]; simp [sum4]
    obtain ⟨S, hS⟩ : ∃ S, turn1 (diffL F T) k by' = P ++ S := ⟨(turn1 (diffL F T) k by').drop P.length, by
      have : (turn1 (diffL F T) k by').take P.length = P := by
        unfold turn1
        rw [List.take_set_of_le (by omega), hd, List.take_left' rfl]
      rw [← this, List.length_take, turn1_len, Nat.min_eq_left (by omega), List.take_append_drop]⟩
    have hSl : S.length = 4 := by
      have := congrArg List.length hS
      rw [turn1_len, List.length_append] at this
      omega
    have e1 : RwM.num F.length ++ (RwM.num T.length ++ (RwM.rb (RwM.xr F T) ++ 0 :: 0 :: S)) = RwM.num F.length ++ (RwM.num T2.length ++ (RwM.rb (RwM.xr F T2) ++ 0 :: 0 :: sum4 (crc T2))) := by
      rw [← diffL_head, ← he, hS, hP, RwM.num_zero]
      simp only [List.append_assoc]
      rfl
    obtain ⟨_, e2⟩ := RwM.num_inj (by omega) (by omega) e1
    have a2 := hT.2
    have b2 := hG.2
    obtain ⟨e3, e4⟩ := RwM.num_inj (by omega) (by omega) e2
    obtain ⟨e5, e6⟩ := RwM.rb_inj 65536 (RwM.xr F T) (RwM.xr F T2) S (sum4 (crc T2)) (by rw [RwM.xr_len]; exact a2) (by rw [RwM.xr_len, RwM.xr_len]; exact e3) (Nat.le_refl _) e4
    have e7 := xr_inj e3 e5
    rw [← e7] at he
    exact turn1_ne hk hb he
theorem Tx.open {W : World} {base : Nat} {v : Value} {l : List Nat} (h : Tx W base v l) (hl : 0 < l.length) : ∃ g k, v = .slice (some ⟨g, 0, none⟩) l.length k ∧ base ≤ g ∧ g < W.heap.size ∧ l.length ≤ k ∧ (∀ i, i < l.length → W.cell? ⟨g, i, none⟩ = some (.int .u8 (l.getD i 0 : Nat))) ∧ (∀ i, W.frozen? ⟨g, i, none⟩ = false) ∧
    ∀ i, i < l.length → ∀ y : Nat, Tx (W.setCell ⟨g, i, none⟩ (.int .u8 (y : Nat))) base v (l.set i y) := by
  obtain ⟨g, k, rfl⟩ := orow_some h hl
  have hb := orow_base h
  obtain ⟨a2, k2, e2, hk2, -, -⟩ := h.full
  cases e2
  refine ⟨g, k, rfl, hb.1, ((h.block g) rfl).2, hk2, fun i hi => ?_, fun i => orow_free h i, fun i hi y => ?_⟩
  · rw [orow_cell h i (by omega)]
    simp [vals, hi]
  · have := orow_set h i (by omega) (.int .u8 (y : Nat)) 
    unfold Tx
    rw [List.length_set, show vals (l.set i y) = (vals l).set i (.int .u8 (y : Nat)) by simp [vals, List.map_set]]
    exact this
theorem tmod_bd (n : Int) (m : Nat) (hm : 0 < m) : -(m : Int) < n.tmod (m : Int) ∧ n.tmod (m : Int) < (m : Int) := by
  have h := Int.tmod_lt_of_pos n (show (0 : Int) < (m : Int) by omega)
  have h2 := Int.lt_tmod_of_pos n (show (0 : Int) < (m : Int) by omega)
  exact ⟨h2, h⟩
set_option maxRecDepth 100000 in
set_option maxHeartbeats 3200000 in
theorem only_law (F T : List Nat) (nf nt : Nat) (hF : Bytes F) (hT : Bytes T) (hnf : F.length = nf) (hnt : T.length = nt) (mf : nf ≤ 140737488351232) (mt : nt ≤ 140737488351232) (a b : Option Addr) (kf kt : Nat) (n : Int) (by' : Nat) (hn0 : -9223372036854775808 ≤ n) (hn1 : n ≤ 9223372036854775807) (hby : by' < 256) (w : World)
    (RF : Row w a F) (RT : Row w b T) (tab : Tab w) :
    Calls Tryd.prog 7 #[.slice a nf kf, .slice b nt kt, .int .i64 n, .int .u8 by'] w fun e w' => e = .returned (.bool true) ∧ Below w.heap.size w w' := by
  have HN : Hid (F.length = nf ∧ T.length = nt) := ⟨hnf, hnt⟩
  have HB : Hid (Bytes F ∧ Bytes T) := ⟨hF, hT⟩
  have HR : Hid (∀ W, Below w.heap.size w W → Row W a F ∧ Row W b T ∧ Tab W) := fun W h => ⟨RF.below h, RT.below h, tab.below tab.lt h⟩
  have HBW : Hid (Below w.heap.size w w) := Below.refl _ _
  clear hF hT hnf hnt RF RT tab
  by_cases h : 65536 < nf ∨ 65536 < nt
  · by_cases h1 : 65536 < nf
    · have i1 : (65536 : Int) < (nf : Int) := by omega
      go_enter Tryd.func7, Tryd.ntmps7
      go_wp2
      go_ret
      exact ⟨rfl, HBW.out⟩
    · have i1 : ¬ (65536 : Int) < (nf : Int) := by omega
      have i2 : (65536 : Int) < (nt : Int) := by omega
      go_enter Tryd.func7, Tryd.ntmps7
      go_wp2
      go_ret
      exact ⟨rfl, HBW.out⟩
  have hl : nf ≤ 65536 ∧ nt ≤ 65536 := by omega
  have i1 : ¬ (65536 : Int) < (nf : Int) := by omega
  have i2 : ¬ (65536 : Int) < (nt : Int) := by omega
  have HG : Hid (Good T) := ⟨HB.out.2, by rw [HN.out.2]; exact hl.2⟩
  have HFL : Hid (F.length ≤ 65536) := by unfold Hid; rw [HN.out.1]; exact hl.1
  obtain ⟨nd, hnd⟩ : ∃ nd, (diffL F T).length = nd := ⟨_, rfl⟩
  have HLD : Hid ((diffL F T).length = nd) := hnd
  have hd10 : 10 ≤ nd := by rw [← hnd]; exact (diffL_len HFL.out HG.out.2).1
  have hd65 : nd ≤ 65560 := by rw [← hnd]; exact (diffL_len HFL.out HG.out.2).2
  have HBD : Hid (Bytes (diffL F T)) := diffL_bytes HB.out.1 HB.out.2
  clear hnd h
  go_enter Tryd.func7, Tryd.ntmps7
  go_upto_region 3 with fail
  go_wp2_with fail
  refine (diff_any F T nf nt HB.out.1 HB.out.2 HN.out.1 HN.out.2 hl.1 hl.2 a b kf kt w (HR.out _ HBW.out).1 (HR.out _ HBW.out).2.1 (HR.out _ HBW.out).2.2).mono ?_
  rintro e w1 ⟨x1, rfl, X1, b1⟩
  have HB1 : Hid (Below w.heap.size w w1) := b1
  obtain ⟨g1, k1, rfl, hg1, hg2, hk1, -, -, -⟩ := X1.open (by rw [HLD.out]; omega)
  have HX1 : Hid (Tx w1 w.heap.size (.slice (some ⟨g1, 0, none⟩) (diffL F T).length k1) (diffL F T)) := X1
  have HR1 : Hid (Row w1 (some ⟨g1, 0, none⟩) (diffL F T)) := by
    obtain ⟨a2, k2, e2, -, r2, -⟩ := X1.full
    cases e2
    exact r2.row
  rw [HLD.out] at hk1 HX1 ⊢
  clear X1 b1
  go_upto_region 4 with fail
  go_wp2_with fail
  refine (patch_yes F T (diffL F T) nf nd kf k1 a _ HB.out.1 HG.out rfl HN.out.1 HLD.out hl.1 hk1 (fun h => by cases h) w1 (HR.out _ HB1.out).1 HR1.out (HR.out _ HB1.out).2.2).mono ?_
  rintro e w2 ⟨g, s, rfl, hs, hg, O2, b2⟩
  obtain rfl : s = nt := by rw [← hs]; exact HN.out.2
  have HB2 : Hid (Below w.heap.size w w2) := HB1.out.trans (b2.mono HB1.out.size)
  have HO2 : Hid (Own w2 g T) := O2
  have HX2 : Hid (Tx w2 w.heap.size (.slice (some ⟨g1, 0, none⟩) nd k1) (diffL F T)) := HX1.out.on b2
  clear hs O2 b2 HX1 HR1
  go_upto_region 5 with fail
  go_wp2_with fail
  refine (same_any T T s s HB.out.2 HB.out.2 HN.out.2 HN.out.2 (by omega) (some ⟨g, 0, none⟩) b s kt w2 HO2.out.row (HR.out _ HB2.out).2.1).mono ?_
  rintro e w3 ⟨rfl, b3⟩
  rw [sameB_self]
  have HB3 : Hid (Below w.heap.size w w3) := HB2.out.trans (b3.mono HB2.out.size)
  have HX3 : Hid (Tx w3 w.heap.size (.slice (some ⟨g1, 0, none⟩) nd k1) (diffL F T)) := HX2.out.on b3
  have i3 : ¬ (nd : Int) < 10 := by omega
  clear b3 HX2 HO2
  obtain ⟨kz, hkz⟩ : ∃ kz : Int, kz = n.tmod (nd : Int) := ⟨_, rfl⟩
  have hzb := tmod_bd n nd (by omega)
  rw [← hkz] at hzb
  have et : n.tmod (nd : Int) = kz := hkz.symm
  have hnz : ((nd : Int) == 0) = false := by rw [beq_eq_false_iff_ne]; omega
  have hnz2 : ¬ (nd : Int) = 0 := by omega
  clear hkz
  go_upto_if 49 with fail
  go_cut [12] (fun v wx => ∃ k : Nat, k < nd ∧ v = .int .i64 k ∧ wx = w3)
  case first =>
    by_cases hz : kz < 0
    · obtain ⟨k, hk⟩ : ∃ k : Nat, kz + (nd : Int) = (k : Int) := ⟨(kz + nd).toNat, by omega⟩
      go_wp2
      go_meet
      exact ⟨k, by omega, rfl, rfl⟩
    · obtain ⟨k, hk⟩ : ∃ k : Nat, kz = (k : Int) := ⟨kz.toNat, by omega⟩
      go_wp2
      go_meet
      exact ⟨k, by omega, rfl, rfl⟩
  case rest =>
  obtain ⟨k, hk, rfl, hwc⟩ := hcut
  rw [hwc]
  clear hwc et hzb hnz hnz2
  obtain ⟨g1', k1', e1, -, -, -, hcl, hfr, hset⟩ := HX3.out.open (by rw [HLD.out]; omega)
  rw [HLD.out] at e1
  cases e1
  have hkl : k < (diffL F T).length := by rw [HLD.out]; exact hk
  have c1 := hcl k hkl
  have f1 := hfr k
  have b1 := bytes_at HBD.out k
  obtain ⟨D2, hD2⟩ : ∃ D2, D2 = turn1 (diffL F T) k by' := ⟨_, rfl⟩
  have HS : Hid (Tx (w3.setCell ⟨g1, k, none⟩ (.int .u8 (((diffL F T).getD k 0 ^^^ by' : Nat) : Int))) w.heap.size (.slice (some ⟨g1, 0, none⟩) nd k1) D2) := by
    rw [hD2]
    have := hset k hkl ((diffL F T).getD k 0 ^^^ by')
    exact this
  have HBS : Hid (Below w.heap.size w (w3.setCell ⟨g1, k, none⟩ (.int .u8 (((diffL F T).getD k 0 ^^^ by' : Nat) : Int)))) := HB3.out.setCell (p := ⟨g1, k, none⟩) hg1 _
  have HD2 : Hid (Bytes D2 ∧ D2.length = nd) := ⟨by rw [hD2]; exact turn1_bytes HBD.out k by' hby, by rw [hD2, turn1_len]; exact HLD.out⟩
  have HZ : Hid (by' = 0 → D2 = diffL F T) := fun h => by rw [hD2, h]; exact turn1_zero _ _
  have HNE : Hid (by' ≠ 0 → D2 ≠ diffL F T) := fun h => by rw [hD2]; exact turn1_ne hkl h
  have HNO : Hid (by' ≠ 0 → (k < 2 ∨ nd - 4 ≤ k) → ∀ T2, Good T2 → D2 ≠ diffL F T2) := fun h h2 => by
    rw [hD2]
    exact turn1_no HFL.out HG.out hkl h (by rw [HLD.out]; exact h2)
  clear hset hcl hfr hD2 HX3 HB3
  generalize (diffL F T).getD k 0 = p at *
  have e1 := xor_u8 p by' b1 hby
  go_upto_region 11 with fail
  generalize w3.setCell ⟨g1, k, none⟩ (.int .u8 ((p ^^^ by' : Nat) : Int)) = w4 at *
  have HR4 : Hid (Row w4 (some ⟨g1, 0, none⟩) D2) := by
    obtain ⟨a2, k2, e2, -, r2, -⟩ := HS.out.full
    rw [HD2.out.2] at e2
    cases e2
    exact r2.row
  clear c1 f1 b1 HS e1
  by_cases hz : by' = 0
  · have HE : Hid (D2 = diffL F T) := HZ.out hz
    subst hz
    clear HZ HNE HNO
    go_wp2_with fail
    refine (patch_yes F T D2 nf nd kf k1 a _ HB.out.1 HG.out HE.out HN.out.1 HD2.out.2 hl.1 hk1 (fun h => by cases h) w4 (HR.out _ HBS.out).1 HR4.out (HR.out _ HBS.out).2.2).mono ?_
    rintro e w5 ⟨g5, s5, rfl, hs5, hg5, O5, b5⟩
    obtain rfl : s5 = s := by rw [← hs5]; exact HN.out.2
    have HB5 : Hid (Below w.heap.size w w5) := HBS.out.trans (b5.mono HBS.out.size)
    have HO5 : Hid (Own w5 g5 T) := O5
    clear hs5 O5 b5
    go_wp2_with fail
    refine (same_any T T s5 s5 HB.out.2 HB.out.2 HN.out.2 HN.out.2 (by omega) (some ⟨g5, 0, none⟩) b s5 kt w5 HO5.out.row (HR.out _ HB5.out).2.1).mono ?_
    rintro e w6 ⟨rfl, b6⟩
    rw [sameB_self]
    have HB6 : Hid (Below w.heap.size w w6) := HB5.out.trans (b6.mono HB5.out.size)
    clear b6
    go_wp2
    go_ret
    exact ⟨rfl, HB6.out⟩
  have hzb' : ((by' : Int) == 0) = false := by rw [beq_eq_false_iff_ne]; omega
  have HNE2 : Hid (D2 ≠ diffL F T) := HNE.out hz
  by_cases hkk : k < 2 ∨ nd - 4 ≤ k
  · have HNO2 : Hid (∀ T2, Good T2 → D2 ≠ diffL F T2) := HNO.out hz hkk
    clear HZ HNE HNO
    go_wp2_with fail
    refine (patch_no F D2 nf nd kf k1 a _ HB.out.1 HD2.out.1 HN.out.1 HD2.out.2 hl.1 (by omega) hk1 (fun h => by cases h) w4 (HR.out _ HBS.out).1 HR4.out (HR.out _ HBS.out).2.2 HNO2.out).mono ?_
    rintro e w5 ⟨rfl, b5⟩
    have HB5 : Hid (Below w.heap.size w w5) := HBS.out.trans (b5.mono HBS.out.size)
    clear b5
    by_cases hk2 : k < 2
    · have i5 : (k : Int) < 2 := by omega
      go_wp2
      go_ret
      exact ⟨rfl, HB5.out⟩
    · have i5 : ¬ (k : Int) < 2 := by omega
      have i6 : (nd : Int) - 4 ≤ (k : Int) := by omega
      go_wp2
      go_ret
      exact ⟨rfl, HB5.out⟩
  have i5 : ¬ (k : Int) < 2 := by omega
  have i6 : ¬ (nd : Int) - 4 ≤ (k : Int) := by omega
  clear HZ HNE HNO
  go_wp2_with fail
  refine (patch_any F D2 nf nd kf k1 a _ HB.out.1 HD2.out.1 HN.out.1 HD2.out.2 hl.1 (by omega) hk1 (fun h => by cases h) w4 (HR.out _ HBS.out).1 HR4.out (HR.out _ HBS.out).2.2).mono ?_
  rintro e w5 ⟨b5, h | h⟩
  · obtain ⟨rfl, -⟩ := h
    have HB5 : Hid (Below w.heap.size w w5) := HBS.out.trans (b5.mono HBS.out.size)
    clear b5
    go_wp2
    go_ret
    exact ⟨rfl, HB5.out⟩
  · obtain ⟨g5, s5, T2, rfl, hs5, hg5, O5, hG2, hD5⟩ := h
    have HB5 : Hid (Below w.heap.size w w5) := HBS.out.trans (b5.mono HBS.out.size)
    have HO5 : Hid (Own w5 g5 T2) := O5
    have HT2 : Hid (Good T2 ∧ T2.length = s5 ∧ D2 = diffL F T2) := ⟨hG2, hs5, hD5⟩
    have HQ : Hid (sameB T2 T = false) := by
      cases hq : sameB T2 T with
      | false => rfl
      | true => rw [(sameB_iff _ _).1 hq] at hD5; exact absurd hD5 HNE2.out
    have h5 : s5 ≤ 65536 := by rw [← hs5]; exact hG2.2
    have HR5 : Hid (Row w5 (some ⟨g1, 0, none⟩) D2) := HR4.out.below b5
    clear hs5 O5 b5 hG2 hD5
    go_wp2_with fail
    refine (same_any T2 T s5 s HT2.out.1.1 HB.out.2 HT2.out.2.1 HN.out.2 (by omega) (some ⟨g5, 0, none⟩) b s5 kt w5 HO5.out.row (HR.out _ HB5.out).2.1).mono ?_
    rintro e w6 ⟨rfl, b6⟩
    rw [HQ.out]
    have HB6 : Hid (Below w.heap.size w w6) := HB5.out.trans (b6.mono HB5.out.size)
    have HO6 : Hid (Own w6 g5 T2) := HO5.out.below HO5.out.lt b6
    have HR6 : Hid (Row w6 (some ⟨g1, 0, none⟩) D2) := HR5.out.below b6
    clear b6 HO5 HR5
    go_wp2_with fail
    refine (diff_any F T2 nf s5 HB.out.1 HT2.out.1.1 HN.out.1 HT2.out.2.1 hl.1 h5 a (some ⟨g5, 0, none⟩) kf s5 w6 (HR.out _ HB6.out).1 HO6.out.row (HR.out _ HB6.out).2.2).mono ?_
    rintro e w7 ⟨x7, rfl, X7, b7⟩
    have HB7 : Hid (Below w.heap.size w w7) := HB6.out.trans (b7.mono HB6.out.size)
    have HR7 : Hid (Row w7 (some ⟨g1, 0, none⟩) D2) := HR6.out.below b7
    obtain ⟨a7, k7, rfl, -, r7, -⟩ := X7.full
    rw [← HT2.out.2.2] at r7 ⊢
    have HR8 : Hid (Row w7 a7 D2) := r7.row
    rw [HD2.out.2]
    clear X7 b7 r7
    go_wp2_with fail
    refine (same_any D2 D2 nd nd HD2.out.1 HD2.out.1 HD2.out.2 HD2.out.2 (by omega) a7 _ k7 k1 w7 HR8.out HR7.out).mono ?_
    rintro e w8 ⟨rfl, b8⟩
    rw [sameB_self]
    have HB8 : Hid (Below w.heap.size w w8) := HB7.out.trans (b8.mono HB7.out.size)
    clear b8
    go_wp2
    go_ret
    exact ⟨rfl, HB8.out⟩
end Go.Proofs.YtbgikffoidaamaaDoor
