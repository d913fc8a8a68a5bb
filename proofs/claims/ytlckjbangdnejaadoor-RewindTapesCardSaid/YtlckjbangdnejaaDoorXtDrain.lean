/-
  drained: the tape gives back the list, the last first.
-/
import Derived.Test.YtlckjbangdnejaaDoorXtTurnP
set_option linter.unusedSimpArgs false
set_option linter.unusedVariables false
namespace Go.Proofs.YtlckjbangdnejaaDoor
open Go.RowKit Classical
theorem take_dropLast (l : List Nat) (n : Nat) (h : n + 1 ≤ l.length) : (l.take (n + 1)).dropLast = l.take n := by
  rw [List.dropLast_eq_take, List.length_take, List.take_take]
  congr 1
  omega
set_option maxRecDepth 100000 in
set_option maxHeartbeats 3200000 in
theorem drained_any (FP : Nat → Prop) (t K : Nat) (E : Nat → Option Addr) (C : Nat → Nat) (L : Nat → List Nat) (v : Value) (ks : List Nat) (w w0 : World) (hT : Tp FP t K ((ks.map L).reverse) w) (hR : Rl w E C L v ks) (hl : ks.length ≤ 100) (hF : ∀ k, FP k → w0.heap.size ≤ k ∧ k < w.heap.size) (hv : ∀ k, v.ownBlock = some k → k < w.heap.size ∧ ¬ FP k) (hB : Below w0.heap.size w0 w) (hD : ∀ i ∈ ks, Row w0 (E i) (L i) ∧ Good (L i)) :
    Calls Tryd.prog 17 #[.pointer (some ⟨t, 0, none⟩), v] w fun e w' => e = .returned (.bool true) ∧ Kp FP w w' := by
  have HF : Hid (∀ k, FP k → w0.heap.size ≤ k ∧ k < w.heap.size) := hF
  have HV : Hid (∀ k, v.ownBlock = some k → k < w.heap.size ∧ ¬ FP k) := hv
  have HD : Hid (∀ i ∈ ks, Row w0 (E i) (L i) ∧ Good (L i)) := hD
  obtain ⟨n, hn⟩ : ∃ n, n = ks.length := ⟨_, rfl⟩
  have HN : Hid (ks.length = n) := hn.symm
  have HT0 : Hid (Tp FP t K (((ks.take n).map L).reverse) w) := by unfold Hid; rw [List.take_of_length_le (by omega)]; exact hT
  have HR0 : Hid (Rl w E C L v ks) := hR
  have HB0 : Hid (Below w0.heap.size w0 w) := hB
  have HF0 : Hid (∀ k, FP k → w0.heap.size ≤ k ∧ k < w.heap.size ∧ v.ownBlock ≠ some k) := fun k hk => ⟨(hF k hk).1, (hF k hk).2, fun h => (hv k h).2 hk⟩
  have HK0 : Hid (Kp FP w w) := Kp.refl _ _
  rw [← hn] at hl
  obtain ⟨a, c, hva, hnc, -⟩ := hR
  rw [← hn] at hva
  subst hva
  clear hF hv hD hn hT hB hnc
  obtain ⟨m, hm⟩ : ∃ m : Int, (n : Int) - 1 = m := ⟨_, rfl⟩
  have hm2 : -1 ≤ m ∧ m ≤ 100 := by omega
  go_enter Tryd.func17, Tryd.ntmps17
  go_upto_region 2 with fail
  go_loopw [5] (fun x wr => ∃ (j : Nat) (FQ : Nat → Prop), j ≤ n ∧ x = .int .i64 ((j : Int) - 1) ∧ Hid (Tp FQ t K (((ks.take j).map L).reverse) wr) ∧ Hid (∀ k, FQ k → (FP k ∨ w.heap.size ≤ k) ∧ k < wr.heap.size) ∧ Hid (Kp FP w wr)) (fun x _ => ((intOf x) + 1).toNat)
  case atStart => exact ⟨n, FP, Nat.le_refl _, by rw [hm], HT0, (fun k hk => ⟨.inl hk, (HF0.out k hk).2.1⟩), HK0⟩
  case round =>
    obtain ⟨j, FQ, hj, rfl, hT, hQ, hK⟩ := hrel
    obtain ⟨wq, rfl⟩ : ∃ x, x = wr := ⟨_, rfl⟩
    by_cases hj0 : j = 0
    · subst hj0
      have HT1 : Hid (Tp FQ t K [] wq) := by
        have h2 := hT.out
        rw [List.take_zero] at h2
        exact h2
      clear hT
      go_upto_region 7 with fail
      go_wp2_with fail
      refine (len_any FQ t K [] wq HT1.out).mono ?_
      rintro e w2 ⟨rfl, rfl⟩
      go_wp2
      go_ret
      exact ⟨rfl, hK.out⟩
    · obtain ⟨i, rfl⟩ : ∃ i, j = i + 1 := ⟨j - 1, by omega⟩
      have e1 : ((i + 1 : Nat) : Int) - 1 = (i : Int) := by omega
      rw [e1]
      have hg : (ks.take (i + 1)).getD i 0 = ks.getD i 0 := by simp [List.getD, List.getElem?_take]
      have hlen : (ks.take (i + 1)).length = i + 1 := by rw [List.length_take, HN.out]; omega
      have HT1 : Hid (Tp FQ t K (L (ks.getD i 0) :: ((ks.take i).map L).reverse) wq) := by
        have := hT.out
        rw [rev_last L (ks.take (i + 1)) (by omega), hlen, Nat.add_sub_cancel, hg, take_dropLast _ _ (by rw [HN.out]; exact hj)] at this
        exact this
      have hkm : ks.getD i 0 ∈ ks := by rw [List.getD, List.getElem?_eq_getElem (by rw [HN.out]; omega), Option.getD_some]; exact List.getElem_mem _
      have HDi := HD.out _ hkm
      obtain ⟨g, o, c', hve, -, hcell⟩ := HR0.out.opened (by rw [HN.out]; omega)
      rw [HN.out] at hve
      cases hve
      have hci := hcell i (by rw [HN.out]; omega)
      obtain ⟨kk, hkk⟩ : ∃ kk, kk = ks.getD i 0 := ⟨_, rfl⟩
      obtain ⟨np, hnp⟩ : ∃ np, np = (L kk).length := ⟨_, rfl⟩
      rw [← hkk] at HT1 HDi hci
      rw [← hnp] at hci
      have HNP : Hid ((L kk).length = np) := hnp.symm
      have hnp65 : np ≤ 65536 := by rw [hnp]; exact HDi.2.2
      have HDk : Hid (Row w0 (E kk) (L kk) ∧ Bytes (L kk)) := ⟨HDi.1, HDi.2.1⟩
      have HGB : Hid (g < w.heap.size ∧ ¬ FP g) := HV.out g rfl
      have HC0 : Hid (w.cell? ⟨g, o + i, none⟩ = some (.slice (E kk) np (C kk))) := hci
      have ijn : (i : Int) < (n : Int) := by omega
      clear hT hg hlen hkm HDi hcell hkk hci
      go_wp2_with fail
      refine (back_some FQ t K _ _ wq HT1.out).mono ?_
      rintro e w2 ⟨g2, rfl, O2, hg2, T2, K2⟩
      rw [← hnp]
      have HK2 : Hid (Kp FP w w2) := by
        refine ⟨K2.os.trans hK.out.os, K2.tape.trans hK.out.tape, K2.output.trans hK.out.output, Nat.le_trans hK.out.size K2.size, fun k hk hn2 => ?_⟩
        refine (K2.block k (Nat.lt_of_lt_of_le hk hK.out.size) fun hq => ?_).trans (hK.out.block k hk hn2)
        rcases (hQ.out k hq).1 with h | h
        · exact hn2 h
        · omega
      have HT2 : Hid (Tp (fun k => (FQ k ∧ k ≠ g2) ∨ (wq.heap.size ≤ k ∧ k < w2.heap.size)) t K (((ks.take i).map L).reverse) w2) := T2
      have HO2 : Hid (Own w2 g2 (L kk)) := O2
      have HQ2 : Hid (∀ k, (FQ k ∧ k ≠ g2) ∨ (wq.heap.size ≤ k ∧ k < w2.heap.size) → (FP k ∨ w.heap.size ≤ k) ∧ k < w2.heap.size) := fun k hk => by
        have h1 := hK.out.size
        have h2 := K2.size
        rcases hk with h | h
        · have := hQ.out k h.1; exact ⟨this.1, by omega⟩
        · exact ⟨.inr (by omega), h.2⟩
      have d7 : w2.cell? ⟨g, o + i, none⟩ = some (.slice (E kk) np (C kk)) := (World.cell?_of_block (a := ⟨g, o + i, none⟩) (HK2.out.block g HGB.out.1 HGB.out.2)).trans HC0.out
      have HBw : Hid (Below w0.heap.size w0 w2) := HB0.out.trans (HK2.out.below HB0.out.size fun k hk => (HF0.out k hk).1)
      have HRk : Hid (Row w2 (E kk) (L kk)) := HDk.out.1.below HBw.out
      clear T2 K2 O2 hnp hQ hK HT1 hg2
      go_upto_region 5 with fail
      go_wp2_with fail
      refine (same_any (L kk) (L kk) np np HDk.out.2 HDk.out.2 HNP.out HNP.out (by omega) (some ⟨g2, 0, none⟩) (E kk) np (C kk) w2 HO2.out.row HRk.out).mono ?_
      rintro e w3 ⟨rfl, b3⟩
      rw [sameB_self]
      have HT3 : Hid (Tp (fun k => (FQ k ∧ k ≠ g2) ∨ (wq.heap.size ≤ k ∧ k < w2.heap.size)) t K (((ks.take i).map L).reverse) w3) := HT2.out.below (fun k hk => (HQ2.out k hk).2) b3
      have HK3 : Hid (Kp FP w w3) := HK2.out.on b3
      have HQ3 : Hid (∀ k, (FQ k ∧ k ≠ g2) ∨ (wq.heap.size ≤ k ∧ k < w2.heap.size) → (FP k ∨ w.heap.size ≤ k) ∧ k < w3.heap.size) := fun k hk => ⟨(HQ2.out k hk).1, Nat.lt_of_lt_of_le (HQ2.out k hk).2 b3.size⟩
      clear b3 HT2 HK2 HQ2 HO2 d7 HRk HBw
      go_wp2
      go_roundw
      case rel => exact ⟨i, _, by omega, by first | rfl | go_num, HT3, HQ3, HK3⟩
      case measure => simp [intOf]
end Go.Proofs.YtlckjbangdnejaaDoor
