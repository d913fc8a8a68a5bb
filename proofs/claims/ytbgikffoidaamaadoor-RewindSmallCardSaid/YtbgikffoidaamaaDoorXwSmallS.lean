/-
  Plain facts on how long a patch is.
-/
import Derived.Test.YtbgikffoidaamaaDoorXwOnly
set_option linter.unusedSimpArgs false
set_option linter.unusedVariables false
namespace Go.Proofs.YtbgikffoidaamaaDoor
open Go.RowKit Classical
namespace RwM
/-- How many bytes are not 0. -/
def nz : List Nat → Nat
  | [] => 0
  | y :: ys => (if y = 0 then 0 else 1) + nz ys
theorem nz_append : ∀ a b : List Nat, nz (a ++ b) = nz a + nz b
  | [], b => by simp [nz]
  | x :: a, b => by rw [List.cons_append, nz, nz, nz_append a b]; omega
theorem nz_pos : ∀ (y : List Nat) (j : Nat), j < y.length → y.getD j 0 ≠ 0 → 1 ≤ nz y
  | [], j, h, _ => by simp at h
  | x :: y, 0, _, h => by rw [nz, if_neg (by simpa using h)]; omega
  | x :: y, j + 1, h, h2 => by
    have := nz_pos y j (by simpa using h) (by simpa using h2)
    rw [nz]; omega
theorem rl_nz : ∀ (n : Nat) (y : List Nat), y.length ≤ n → rl y ≤ 4 * nz (y.take (rl y)) := by
  intro n
  induction n with
  | zero => intro y h; have := rl_le y; omega
  | succ n ih =>
    intro y h
    by_cases hq : quiet y = true
    · have : rl y = 0 := by
        cases y with
        | nil => rfl
        | cons a b => rw [rl, if_pos hq]
      omega
    · have hz := zs_le y
      have hz1 : zs y < y.length := by
        rcases Nat.lt_or_ge (zs y) y.length with h1 | h1
        · exact h1
        · exact absurd (quiet_of y 0 fun j _ _ h3 => zs_zero y j (by omega)) (by rw [List.drop_zero]; exact hq)
      have hz4 : zs y < 4 := by
        rcases Nat.lt_or_ge (zs y) 4 with h1 | h1
        · exact h1
        · exact absurd (quiet_of y 0 fun j _ h2 _ => zs_zero y j (by omega)) (by rw [List.drop_zero]; exact hq)
      have hs := rl_skip y (zs y) hz1 (zs_stop y hz1) (zs y) 0 (by omega) hz4
      rw [List.drop_zero, Nat.zero_add] at hs
      have hi := ih (y.drop (zs y + 1)) (by rw [List.length_drop]; omega)
      have ht : y.take (zs y + 1 + rl (y.drop (zs y + 1))) = y.take (zs y + 1) ++ (y.drop (zs y + 1)).take (rl (y.drop (zs y + 1))) := by rw [List.take_add]
      have hp := nz_pos (y.take (zs y + 1)) (zs y) (by rw [List.length_take]; omega) (by rw [getD_take_lt _ (by omega)]; exact zs_stop y hz1)
      rw [hs, ht, nz_append]
      omega
theorem rb_nz : ∀ (n : Nat) (y : List Nat), y.length ≤ n → n ≤ 65536 → (rb y).length ≤ 8 * nz y := by
  intro n
  induction n with
  | zero => intro y h hm; have := zs_le y; rw [rb_end (by omega)]; simp
  | succ n ih =>
    intro y h hm
    by_cases e : zs y = y.length
    · rw [rb_end e]; simp
    · have a1 := zs_le y
      have a2 := rn_le e
      have a3 := rn_pos y
      have a4 := ih (y.drop (zs y + rn y)) (by rw [List.length_drop]; omega) (by omega)
      have a5 := (num_len (zs y) (by omega)).2.1
      have a6 := (num_len (rn y) (by omega)).2.1
      have a7 := rl_nz _ (y.drop (zs y + 1)) (Nat.le_refl _)
      have hst := zs_stop y (by omega)
      have hsplit : y = y.take (zs y) ++ ((y.drop (zs y)).take (rn y) ++ y.drop (zs y + rn y)) := by
        rw [show y.drop (zs y + rn y) = (y.drop (zs y)).drop (rn y) by rw [List.drop_drop], List.take_append_drop, List.take_append_drop]
      have hrun : (y.drop (zs y)).take (rn y) = y.getD (zs y) 0 :: (y.drop (zs y + 1)).take (rl (y.drop (zs y + 1))) := by
        rw [drop_cons y (zs y) (by omega), rn, Nat.add_comm 1, List.take_succ_cons]
      have hn : nz y = nz (y.take (zs y)) + (nz ((y.drop (zs y)).take (rn y)) + nz (y.drop (zs y + rn y))) := by
        have := congrArg nz hsplit
        rw [nz_append, nz_append] at this
        exact this
      have hr : nz ((y.drop (zs y)).take (rn y)) = 1 + nz ((y.drop (zs y + 1)).take (rl (y.drop (zs y + 1)))) := by rw [hrun, nz, if_neg hst]
      have hrn : rn y = 1 + rl (y.drop (zs y + 1)) := rfl
      rw [rb_run e]
      simp only [List.length_append, List.length_take, List.length_drop]
      omega
theorem nz_take (X : List Nat) (k : Nat) (h : k < X.length) : nz (X.take (k + 1)) = nz (X.take k) + (if X.getD k 0 = 0 then 0 else 1) := by
  rw [List.take_succ_eq_append_getElem h, nz_append, ← getD_elem X k h]
  congr 1
theorem nz_le : ∀ X : List Nat, nz X ≤ X.length
  | [] => Nat.le_refl _
  | x :: X => by rw [nz, List.length_cons]; have := nz_le X; split <;> omega
end RwM
/-- How long a patch is, and what it ends with. -/
theorem diffL_small {F T : List Nat} (hF : F.length ≤ 65536) (hT : T.length ≤ 65536) :
    (diffL F T).length ≤ 14 + 8 * RwM.nz (RwM.xr F T) ∧ (diffL F T).length ≤ T.length + 18 ∧ (diffL F T).getD 0 0 = 84 ∧ (diffL F T).getD 1 0 = 80 := by
  have a1 := (RwM.num_len F.length (by omega)).2.1
  have a2 := (RwM.num_len T.length (by omega)).2.1
  have a3 := (RwM.rb_len 65536 (RwM.xr F T) (by rw [RwM.xr_len]; exact hT) (Nat.le_refl _)).1
  have a4 := RwM.rb_nz 65536 (RwM.xr F T) (by rw [RwM.xr_len]; exact hT) (Nat.le_refl _)
  rw [RwM.xr_len] at a3
  refine ⟨?_, ?_, rfl, rfl⟩
  · unfold diffL
    simp only [List.length_append, List.length_cons, List.length_nil, RwM.num_zero, sum4]
    omega
  · unfold diffL
    simp only [List.length_append, List.length_cons, List.length_nil, RwM.num_zero, sum4]
    omega
theorem diffL_tail {F T : List Nat} (hF : F.length ≤ 65536) (hT : T.length ≤ 65536) (nd : Nat) (hn : (diffL F T).length = nd) :
    10 ≤ nd ∧ (∀ j, j < 4 → (diffL F T).getD (nd - 4 + j) 0 = (sum4 (crc T)).getD j 0) ∧ (diffL F T).getD (nd - 5) 0 = 0 ∧ (diffL F T).getD (nd - 6) 0 = 0 := by
  have h10 := (diffL_len hF hT).1
  obtain ⟨P, hP⟩ : ∃ P, P = [84, 80] ++ (RwM.num F.length ++ RwM.num T.length) ++ RwM.rb (RwM.xr F T) := ⟨_, rfl⟩
  have hd : diffL F T = P ++ ([0, 0] ++ sum4 (crc T)) := by
    rw [hP]; unfold diffL; rw [RwM.num_zero]; simp only [List.append_assoc]; rfl
  have hl : P.length + 6 = nd := by rw [← hn, hd, List.length_append]; simp [sum4]
  have at' : ∀ j, (diffL F T).getD (P.length + j) 0 = ([0, 0] ++ sum4 (crc T)).getD j 0 := fun j => by
    rw [hd, List.getD, List.getElem?_append_right (by omega), show P.length + j - P.length = j by omega]; rfl
  refine ⟨by omega, fun j hj => ?_, ?_, ?_⟩
  · have := at' (2 + j)
    rw [show P.length + (2 + j) = nd - 4 + j by omega] at this
    rw [this]
    match j, hj with
    | 0, _ => rfl
    | 1, _ => rfl
    | 2, _ => rfl
    | 3, _ => rfl
  · have := at' 1
    rw [show P.length + 1 = nd - 5 by omega] at this
    rw [this]; rfl
  · have := at' 0
    rw [show P.length + 0 = nd - 6 by omega] at this
    rw [this]; rfl
end Go.Proofs.YtbgikffoidaamaaDoor
