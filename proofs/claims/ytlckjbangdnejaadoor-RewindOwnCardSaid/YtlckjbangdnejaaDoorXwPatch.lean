/-
  What Patch answers of any two lists of bytes.
-/
import Derived.Test.YtlckjbangdnejaaDoorXwPat
import Derived.Laws.BytesArg
set_option linter.unusedSimpArgs false
set_option linter.unusedVariables false
namespace Go.Proofs.YtlckjbangdnejaaDoor
open Go.RowKit Classical
/-- A list of bytes as a string. -/
def strN (A : List Nat) : ByteArray := strOfNums (A.map fun n : Nat => (n : Int))
theorem strN_list (A : List Nat) : (strN A).toList = A.map fun n => UInt8.ofNat n := by
  rw [ByteArray.toList_eq]
  unfold strN
  rw [strOfNums_data, List.map_map]
  rfl
theorem map_u8_inj : ∀ (A B : List Nat), Bytes A → Bytes B → (A.map fun n => UInt8.ofNat n) = (B.map fun n => UInt8.ofNat n) → A = B
  | [], [], _, _, _ => rfl
  | [], b :: B, _, _, h => by simp at h
  | a :: A, [], _, _, h => by simp at h
  | a :: A, b :: B, hA, hB, h => by
    simp only [List.map_cons, List.cons.injEq] at h
    have ha := hA a (by simp)
    have hb := hB b (by simp)
    have e := congrArg UInt8.toNat h.1
    simp only [UInt8.toNat_ofNat'] at e
    rw [map_u8_inj A B (fun x hx => hA x (by simp [hx])) (fun x hx => hB x (by simp [hx])) h.2, show a = b by omega]
theorem strN_eq {A B : List Nat} (hA : Bytes A) (hB : Bytes B) : ((strN A).toList == (strN B).toList) = sameB A B := by
  rw [strN_list, strN_list]
  cases h : sameB A B with
  | true => rw [(sameB_iff A B).1 h]; exact beq_self_eq_true _
  | false =>
    rw [beq_eq_false_iff_ne]
    intro e
    rw [(sameB_iff A B).2 (map_u8_inj A B hA hB e)] at h
    cases h
theorem conv_row {A : List Nat} {n k : Nat} {a : Option Addr} {w : World} (h : Row w a A) (hn : A.length = n) : Sem.run Tryd.prog (convert 28 9 (.slice a n k)) w = .ok (.string (strN A)) w := by
  rcases h with e | ⟨b, off, rfl, hc⟩
  · subst e
    obtain rfl : n = 0 := by simpa using hn.symm
    rw [run_convert_bytes_string w 28 9 5 _ 0 k (by kernel_rfl) (by kernel_rfl) (by kernel_rfl)]
    cases a <;> simp [Conv.bytesToString, loadCells]
    all_goals rfl
  · refine run_convert_bytes_arg w 28 5 (by kernel_rfl) (by kernel_rfl) b off n k _ (by simpa using hn) (fun i hi => ?_) 9 (by kernel_rfl)
    rw [hc i (by omega)]
    simp [List.getD, show i < A.length by omega]
set_option maxRecDepth 100000 in
set_option maxHeartbeats 800000 in
theorem equal_any (A B : List Nat) (na nb : Nat) (hA : Bytes A) (hB : Bytes B) (hna : A.length = na) (hnb : B.length = nb) (a b : Option Addr) (ka kb : Nat) (w : World) (RA : Row w a A) (RB : Row w b B) :
    Calls Tryd.prog 39 #[.slice a na ka, .slice b nb kb] w fun e w' => e = .returned (.bool (sameB A B)) ∧ w' = w := by
  have c1 := conv_row (k := ka) RA hna
  have c2 := conv_row (k := kb) RB hnb
  have hq := strN_eq hA hB
  clear hA hB hna hnb RA RB
  generalize strN A = sa at *
  generalize strN B = sb at *
  generalize sameB A B = q at *
  go_enter Tryd.func39, Tryd.ntmps39
  go_wp2
  go_ret
  exact ⟨rfl, rfl⟩
/-- What Patch answers. -/
def PaOk (w : World) (F D : List Nat) (e : Ending) (w' : World) : Prop := Below w.heap.size w w' ∧
  ((e = .returned (.tuple #[.slice none 0 0, .int .i64 170]) ∧ ∀ T2, Good T2 → D ≠ diffL F T2) ∨
   (∃ (g s : Nat) (T : List Nat), e = .returned (.tuple #[.slice (some ⟨g, 0, none⟩) s s, .int .i64 0]) ∧ T.length = s ∧ w.heap.size ≤ g ∧ Own w' g T ∧ Good T ∧ D = diffL F T))
theorem patch_long (nf nd kf kd : Nat) (a ad : Option Addr) (h : 65536 < nf) (w : World) :
    Calls Tryd.prog 20 #[.slice a nf kf, .slice ad nd kd] w fun e w' => e = .returned (.tuple #[.slice none 0 0, .int .i64 1]) ∧ w' = w := by
  have i1 : (65536 : Int) < (nf : Int) := by omega
  go_enter Tryd.func20, Tryd.ntmps20
  go_wp2
  go_ret2
  exact ⟨rfl, rfl⟩
set_option maxRecDepth 100000 in
set_option maxHeartbeats 1600000 in
theorem patch_any (F D : List Nat) (nf nd kf kd : Nat) (a ad : Option Addr) (hF : Bytes F) (hD : Bytes D) (hnf : F.length = nf) (hnd : D.length = nd) (lf : nf ≤ 65536) (ld : nd ≤ 281474976710656) (hkd : nd ≤ kd) (hnil : ad = none → kd = 0) (w : World)
    (RF : Row w a F) (RD : Row w ad D) (tab : Tab w) :
    Calls Tryd.prog 20 #[.slice a nf kf, .slice ad nd kd] w (PaOk w F D) := by
  have HN : Hid (F.length = nf ∧ D.length = nd) := ⟨hnf, hnd⟩
  have HB : Hid (Bytes F ∧ Bytes D) := ⟨hF, hD⟩
  have HR : Hid (∀ W, Below w.heap.size w W → Row W a F ∧ Row W ad D ∧ Tab W) := fun W h => ⟨RF.below h, RD.below h, tab.below tab.lt h⟩
  have HR0 : Hid (Row w ad D) := RD
  have HRF : Hid (Row w a F) := RF
  have HNIL : Hid (ad = none → kd = 0) := hnil
  have i1 : ¬ (65536 : Int) < (nf : Int) := by omega
  clear hF hD hnf hnd RF RD tab hnil
  go_enter Tryd.func20, Tryd.ntmps20
  go_upto_region 3 with fail
  go_wp2_with fail
  refine (copied_any nf F HN.out.1 (by omega) a kf w HRF.out).mono ?_
  rintro e w1 ⟨rfl, O1, b1⟩
  go_wp2_with fail
  refine (patched_any w F D nf nd kd w.heap.size ad HB.out.1 HB.out.2 HN.out.1 HN.out.2 lf (by omega) hkd HNIL.out w1 b1 (Nat.le_refl _) O1 HR0.out).mono ?_
  rintro e w2 ⟨b2, h | h⟩
  · obtain ⟨rfl, hn⟩ := h
    have HN2 : Hid (∀ T2, Good T2 → D ≠ diffL F T2) := hn
    have HB2 : Hid (Below w.heap.size w w2) := b2
    clear hn b2 O1 b1
    go_wp2
    go_ret2
    exact ⟨HB2.out, .inl ⟨rfl, HN2.out⟩⟩
  · obtain ⟨g, s, T, rfl, hl, hg, O2, hG, hU⟩ := h
    have HB2 : Hid (Below w.heap.size w w2) := b2
    have HT : Hid (T.length = s ∧ Good T) := ⟨hl, hG⟩
    have HO2 : Hid (Own w2 g T) := O2
    have HU : Hid (∀ T2, Good T2 → D = diffL F T2 → T2 = T) := hU
    have hs : s ≤ 65536 := by rw [← hl]; exact hG.2
    clear hl hG O2 hU b2 O1 b1
    go_upto_region 4 with fail
    go_wp2_with fail
    refine (diff_any F T nf s HB.out.1 HT.out.2.1 HN.out.1 HT.out.1 lf hs a (some ⟨g, 0, none⟩) kf s w2 (HR.out _ HB2.out).1 HO2.out.row (HR.out _ HB2.out).2.2).mono ?_
    rintro e w3 ⟨x3, rfl, X3, b3⟩
    have HB3 : Hid (Below w.heap.size w w3) := HB2.out.trans (b3.mono HB2.out.size)
    have HO3 : Hid (Own w3 g T) := HO2.out.below HO2.out.lt b3
    obtain ⟨a3, k3, rfl, hk3, r3, p3⟩ := X3.full
    have HR3 : Hid (Row w3 a3 (diffL F T)) := r3.row
    have HL3 : Hid (Bytes (diffL F T)) := diffL_bytes HB.out.1 HT.out.2.1
    clear X3 b3 r3 p3 hk3 HO2 HB2
    go_wp2_with fail
    refine (equal_any (diffL F T) D _ nd HL3.out HB.out.2 rfl HN.out.2 a3 ad k3 kd w3 HR3.out (HR.out _ HB3.out).2.1).mono ?_
    rintro e w4 ⟨rfl, rfl⟩
    cases hq : sameB (diffL F T) D with
    | true =>
      have HE : Hid (D = diffL F T) := ((sameB_iff _ _).1 hq).symm
      clear hq
      go_wp2
      go_ret2
      exact ⟨HB3.out, .inr ⟨g, s, T, rfl, HT.out.1, hg, HO3.out, HT.out.2, HE.out⟩⟩
    | false =>
      have HE : Hid (∀ T2, Good T2 → D ≠ diffL F T2) := fun T2 hG hD => by
        rw [HU.out T2 hG hD] at hD
        rw [(sameB_iff _ _).2 hD.symm] at hq
        cases hq
      clear hq
      go_wp2
      go_ret2
      exact ⟨HB3.out, .inl ⟨rfl, HE.out⟩⟩
end Go.Proofs.YtlckjbangdnejaaDoor
