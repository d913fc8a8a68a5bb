/-
  Plain facts on making a list out of another and a patch.
-/
import Derived.Test.YtlckjbangdnejaaDoorXwRead
import Derived.Test.YtlckjbangdnejaaDoorXwRNum
import Derived.Test.YtlckjbangdnejaaDoorXwDiffF
set_option linter.unusedSimpArgs false
set_option linter.unusedVariables false
namespace Go.Proofs.YtlckjbangdnejaaDoor
open Go.RowKit Classical
/-- A list of bytes that is not too long. -/
def Good (T : List Nat) : Prop := Bytes T ∧ T.length ≤ 65536
/-- A list in another length. -/
def fit (F : List Nat) (s : Nat) : List Nat := (List.range s).map fun i => F.getD i 0
theorem fit_len (F : List Nat) (s : Nat) : (fit F s).length = s := by simp [fit]
theorem fit_at (F : List Nat) (s i : Nat) (h : i < s) : (fit F s).getD i 0 = F.getD i 0 := by simp [fit, List.getD, h]
theorem fit_bytes {F : List Nat} (h : Bytes F) (s : Nat) : Bytes (fit F s) := by
  intro x hx
  simp only [fit, List.mem_map] at hx
  obtain ⟨i, _, rfl⟩ := hx
  exact bytes_at h i
theorem list_eq {A B : List Nat} (hl : A.length = B.length) (h : ∀ i, i < A.length → A.getD i 0 = B.getD i 0) : A = B := by
  apply List.ext_getElem hl
  intro i h1 h2
  rw [← getD_elem A i h1, ← getD_elem B i h2]
  exact h i h1
theorem fit_self (F : List Nat) : fit F F.length = F := list_eq (fit_len _ _) fun i hi => fit_at F _ i (by rw [fit_len] at hi; exact hi)
theorem fit_splice (F : List Nat) (s : Nat) : splice (vals (List.replicate s 0)) 0 (vals (F.take s)) = vals (fit F s) := by
  simp only [splice, List.take_zero, List.nil_append, Nat.zero_add]
  rw [show (vals (List.replicate s 0)).drop (vals (F.take s)).length = vals ((List.replicate s 0).drop (F.take s).length) by simp [vals], show vals (F.take s) ++ vals ((List.replicate s 0).drop (F.take s).length) = vals (F.take s ++ (List.replicate s 0).drop (F.take s).length) by simp [vals]]
  congr 1
  apply list_eq
  · simp [fit_len]; omega
  · intro i hi
    have hs : i < s := by simp at hi; omega
    rw [fit_at F s i hs]
    by_cases h : i < F.length
    · rw [List.getD, List.getElem?_append_left (by simp; omega), List.getElem?_take, if_pos hs]; rfl
    · rw [List.getD, List.getElem?_append_right (by simp; omega), RwM.getD_of_le (by omega)]
      simp only [List.getElem?_drop, List.getElem?_replicate]
      split <;> rfl
theorem getD_drop (X : List Nat) (k i : Nat) : (X.drop k).getD i 0 = X.getD (k + i) 0 := by simp [List.getD, List.getElem?_drop]
namespace RwM
theorem rd_zero (p : List Nat) : rdN 3 (0 :: p) = some (0, p) := by simp [rdN]
/-- The next run of a patch, read. -/
theorem nxt (X : List Nat) (at' : Nat) (p : List Nat) (hat : at' ≤ X.length) (hx : X.length ≤ 65536) :
    ∃ z n R1 R2, rdN 3 (rb (X.drop at') ++ 0 :: 0 :: p) = some (z, R1) ∧ rdN 3 R1 = some (n, R2) ∧ n ≤ R2.length ∧ at' + z + n ≤ X.length ∧ (∀ i, at' ≤ i → i < at' + z → X.getD i 0 = 0) ∧ R2.take n = (X.drop (at' + z)).take n ∧
      ((n = 0 ∧ ∀ i, at' ≤ i → X.getD i 0 = 0) ∨ (1 ≤ n ∧ R2.drop n = rb (X.drop (at' + z + n)) ++ 0 :: 0 :: p)) := by
  by_cases e : zs (X.drop at') = (X.drop at').length
  · refine ⟨0, 0, 0 :: p, p, by rw [rb_end e, List.nil_append, rd_zero], rd_zero p, Nat.zero_le _, by omega, fun i h1 h2 => by omega, by simp, .inl ⟨rfl, fun i h1 => ?_⟩⟩
    by_cases hi : i < X.length
    · have := zs_zero (X.drop at') (i - at') (by rw [e, List.length_drop]; omega)
      rw [List.getD, List.getElem?_drop, show at' + (i - at') = i by omega] at this
      exact this
    · exact getD_of_le (by omega)
  · have h1 := zs_le (X.drop at')
    have h2 := rn_le e
    have h3 := rn_pos (X.drop at')
    rw [List.length_drop] at h1 h2
    obtain ⟨z, hz⟩ : ∃ z, z = zs (X.drop at') := ⟨_, rfl⟩
    obtain ⟨n, hn⟩ : ∃ n, n = rn (X.drop at') := ⟨_, rfl⟩
    have hr := rb_run e
    rw [← hz, ← hn, List.drop_drop, List.drop_drop] at hr
    rw [← hz] at h1
    rw [← hz, ← hn] at h2
    rw [← hn] at h3
    have hl : ((X.drop (at' + z)).take n).length = n := by rw [List.length_take, List.length_drop]; omega
    refine ⟨z, n, _, _, by rw [hr, List.append_assoc]; exact rd_num 3 z _ (by omega) (by decide), by rw [List.append_assoc]; exact rd_num 3 n _ (by omega) (by decide), ?_, by omega, fun i hi1 hi2 => ?_, ?_, .inr ⟨h3, ?_⟩⟩
    · rw [List.append_assoc, List.length_append, hl]; omega
    · have := zs_zero (X.drop at') (i - at') (by rw [← hz]; omega)
      rw [List.getD, List.getElem?_drop, show at' + (i - at') = i by omega] at this
      exact this
    · rw [List.append_assoc, List.take_left' hl]
    · rw [List.append_assoc, List.drop_left' hl, Nat.add_assoc]
end RwM
/-- What is known of the reader and the list at a place, if D is the patch to T2. -/
def PInv (F D : List Nat) (at' : Nat) (Lk LL : List Nat) : Prop :=
  ∀ T2, Good T2 → D = diffL F T2 → Lk = RwM.rb ((RwM.xr F T2).drop at') ++ 0 :: 0 :: sum4 (crc T2) ∧ LL.length = T2.length ∧ at' ≤ T2.length ∧ ∀ i, i < T2.length → LL.getD i 0 = if i < at' then T2.getD i 0 else F.getD i 0
theorem xor_self_cancel (a b : Nat) : b ^^^ (a ^^^ b) = a := by rw [Nat.xor_comm a b, ← Nat.xor_assoc, Nat.xor_self, Nat.zero_xor]
theorem eq_of_xor_zero {a b : Nat} (h : a ^^^ b = 0) : a = b := by
  have := xor_self_cancel a b
  rw [h, Nat.xor_zero] at this
  exact this.symm
/-- A round's step, if D is the patch to T2. -/
theorem pinv_next {F D : List Nat} {at' : Nat} {Lk LL : List Nat} (h : PInv F D at' Lk LL) (T2 : List Nat) (hG : Good T2) (hD : D = diffL F T2) :
    ∃ z n R1 R2, RwM.rdN 3 Lk = some (z, R1) ∧ RwM.rdN 3 R1 = some (n, R2) ∧ n ≤ R2.length ∧ at' + z + n ≤ LL.length ∧ (n = 0 → LL = T2) ∧
      (1 ≤ n → R2.drop n = RwM.rb ((RwM.xr F T2).drop (at' + z + n)) ++ 0 :: 0 :: sum4 (crc T2) ∧ LL.length = T2.length ∧ at' + z + n ≤ T2.length ∧ ∀ i, i < T2.length → (tn LL (R2.take n) (at' + z)).getD i 0 = if i < at' + z + n then T2.getD i 0 else F.getD i 0) := by
  obtain ⟨h1, h2, h3, h4⟩ := h T2 hG hD
  obtain ⟨z, n, R1, R2, e1, e2, e3, e4, e5, e6, e7⟩ := RwM.nxt (RwM.xr F T2) at' (sum4 (crc T2)) (by rw [RwM.xr_len]; exact h3) (by rw [RwM.xr_len]; exact hG.2)
  rw [RwM.xr_len] at e4
  refine ⟨z, n, R1, R2, by rw [h1]; exact e1, e2, e3, by omega, fun hn => ?_, fun hn => ?_⟩
  · rcases e7 with ⟨_, e7⟩ | ⟨e7, _⟩
    · refine list_eq h2 fun i hi => ?_
      rw [h4 i (by omega)]
      split
      · rfl
      · have := e7 i (by omega)
        rw [RwM.xr_at F T2 i (by omega)] at this
        exact (eq_of_xor_zero this).symm
    · omega
  · rcases e7 with ⟨e7, _⟩ | ⟨_, e7⟩
    · omega
    · refine ⟨e7, h2, e4, fun i hi => ?_⟩
      rw [tn_at _ _ _ _ (by omega), h4 i hi, e6]
      by_cases c1 : i < at'
      · rw [if_pos c1, if_neg (by omega), if_pos (by omega), Nat.xor_zero]
      · rw [if_neg c1]
        by_cases c2 : i < at' + z
        · rw [if_neg (by omega), if_pos (by omega), Nat.xor_zero]
          have := e5 i (by omega) c2
          rw [RwM.xr_at F T2 i hi] at this
          exact (eq_of_xor_zero this).symm
        · rw [if_pos (by omega)]
          by_cases c3 : i < at' + z + n
          · rw [if_pos c3, getD_take_lt _ (by omega), getD_drop, show at' + z + (i - (at' + z)) = i by omega, RwM.xr_at F T2 i hi]
            exact xor_self_cancel _ _
          · rw [if_neg c3, getD_take_ge _ (by omega), Nat.xor_zero]
/-- The head of a patch, read. -/
theorem diffL_head (F T : List Nat) : (diffL F T).drop 2 = RwM.num F.length ++ (RwM.num T.length ++ (RwM.rb (RwM.xr F T) ++ 0 :: 0 :: sum4 (crc T))) := by
  unfold diffL
  rw [RwM.num_zero]
  simp only [List.append_assoc]
  rfl
theorem pinv_start {F D : List Nat} {s : Nat} {R1 R2 : List Nat} {m : Nat} (h2 : 2 ≤ D.length) (h3 : RwM.rdN 3 (D.drop 2) = some (m, R1)) (h4 : RwM.rdN 3 R1 = some (s, R2)) (hF : F.length ≤ 65536) : PInv F D 0 R2 (fit F s) := by
  intro T2 hG hD
  have e1 := diffL_head F T2
  rw [← hD] at e1
  have e2 := RwM.rd_num 3 F.length (RwM.num T2.length ++ (RwM.rb (RwM.xr F T2) ++ 0 :: 0 :: sum4 (crc T2))) (by omega) (by decide)
  rw [← e1, h3] at e2
  cases e2
  have e3 := RwM.rd_num 3 T2.length (RwM.rb (RwM.xr F T2) ++ 0 :: 0 :: sum4 (crc T2)) (by have := hG.2; omega) (by decide)
  rw [h4] at e3
  cases e3
  refine ⟨by rw [List.drop_zero], fit_len _ _, Nat.zero_le _, fun i hi => ?_⟩
  rw [fit_at F _ i hi, if_neg (by omega)]
theorem head_reads (F T : List Nat) (hF : F.length ≤ 65536) (hT : T.length ≤ 65536) : 2 ≤ (diffL F T).length ∧ ∃ R1 R2, RwM.rdN 3 ((diffL F T).drop 2) = some (F.length, R1) ∧ RwM.rdN 3 R1 = some (T.length, R2) := by
  refine ⟨by have := (diffL_len hF hT).1; omega, _, _, by rw [diffL_head]; exact RwM.rd_num 3 _ _ (by omega) (by decide), RwM.rd_num 3 _ _ (by omega) (by decide)⟩
end Go.Proofs.YtlckjbangdnejaaDoor
