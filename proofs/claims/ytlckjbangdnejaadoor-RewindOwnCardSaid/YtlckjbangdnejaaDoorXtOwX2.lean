/-
  The marks that the law RewindOwn makes: plain facts.
-/
import Derived.Test.YtlckjbangdnejaaDoorXtOwS
set_option linter.unusedSimpArgs false
set_option linter.unusedVariables false
namespace Go.Proofs.YtlckjbangdnejaaDoor
open Go.RowKit Classical
/-- A list with its mark; with its first bytes marked. -/
def xl (j : Nat) (L : List Nat) : List Nat := L.map fun x => x ^^^ ((j + 1) % 256)
def px (j q : Nat) (L : List Nat) : List Nat := xl j (L.take q) ++ L.drop q
theorem xl_len (j : Nat) (L : List Nat) : (xl j L).length = L.length := by simp [xl]
theorem xl_at (j : Nat) (L : List Nat) (i : Nat) (h : i < L.length) : (xl j L).getD i 0 = L.getD i 0 ^^^ ((j + 1) % 256) := by
  simp [xl, List.getD, List.getElem?_eq_getElem h]
theorem px_zero (j : Nat) (L : List Nat) : px j 0 L = L := by simp [px, xl]
theorem px_all (j : Nat) (L : List Nat) : px j L.length L = xl j L := by simp [px]
theorem px_len (j q : Nat) (L : List Nat) : (px j q L).length = L.length := by
  unfold px
  rw [List.length_append, xl_len, ← List.length_append, List.take_append_drop]
theorem px_at (j q : Nat) (L : List Nat) (h : q < L.length) : (px j q L).getD q 0 = L.getD q 0 := by
  unfold px
  rw [List.getD, List.getElem?_append_right (by rw [xl_len, List.length_take]; omega), xl_len, List.length_take, Nat.min_eq_left (by omega), Nat.sub_self]
  simp [List.getD]
theorem px_step (j q : Nat) (L : List Nat) (h : q < L.length) : (px j q L).set q (L.getD q 0 ^^^ ((j + 1) % 256)) = px j (q + 1) L := by
  unfold px
  have e : L.drop q = L.getD q 0 :: L.drop (q + 1) := by
    rw [List.drop_eq_getElem_cons h]
    simp [List.getD, List.getElem?_eq_getElem h]
  have e2 : L.take (q + 1) = L.take q ++ [L.getD q 0] := by
    rw [List.take_succ_eq_append_getElem h]
    simp [List.getD, List.getElem?_eq_getElem h]
  have hl : (xl j (L.take q)).length = q := by rw [xl_len, List.length_take]; omega
  rw [e, e2, List.set_append_right (h := by rw [hl]; exact Nat.le_refl _), hl, Nat.sub_self]
  simp [xl]
/-- The lists, the first of them marked. -/
def Mx (i : Nat) (Ls : List (List Nat)) : List (List Nat) := (List.range Ls.length).map fun j => if j < i then xl j (Ls.getD j []) else Ls.getD j []
theorem Mx_len (i : Nat) (Ls : List (List Nat)) : (Mx i Ls).length = Ls.length := by simp [Mx]
theorem Mx_at (i j : Nat) (Ls : List (List Nat)) (h : j < Ls.length) : (Mx i Ls).getD j [] = if j < i then xl j (Ls.getD j []) else Ls.getD j [] := by
  simp [Mx, List.getD, h]
theorem list_ext_getD (A B : List (List Nat)) (hl : A.length = B.length) (h : ∀ j, j < A.length → A.getD j [] = B.getD j []) : A = B := by
  refine List.ext_getElem hl fun j h1 h2 => ?_
  have := h j h1
  simpa [List.getD, List.getElem?_eq_getElem h1, List.getElem?_eq_getElem h2] using this
theorem Mx_zero (Ls : List (List Nat)) : Mx 0 Ls = Ls := list_ext_getD _ _ (Mx_len 0 Ls) fun j hj => by
  rw [Mx_len] at hj
  rw [Mx_at 0 j Ls hj, if_neg (by omega)]
theorem getD_set (A : List (List Nat)) (i j : Nat) (x : List Nat) (h : j < A.length) : (A.set i x).getD j [] = if i = j then x else A.getD j [] := by
  by_cases e : i = j
  · subst e
    rw [if_pos rfl]
    simp [List.getD, h]
  · rw [if_neg e]
    simp [List.getD, List.getElem?_set_ne e]
theorem Mx_step (i : Nat) (Ls : List (List Nat)) (h : i < Ls.length) : (Mx i Ls).set i (xl i (Ls.getD i [])) = Mx (i + 1) Ls := list_ext_getD _ _ (by rw [List.length_set, Mx_len, Mx_len]) fun j hj => by
  rw [List.length_set, Mx_len] at hj
  rw [getD_set _ _ _ _ (by rw [Mx_len]; exact hj), Mx_at _ _ _ hj, Mx_at _ _ _ hj]
  by_cases h1 : i = j
  · subst h1; rw [if_pos rfl, if_pos (by omega)]
  · rw [if_neg h1]
    by_cases h2 : j < i
    · rw [if_pos h2, if_pos (by omega)]
    · rw [if_neg h2, if_neg (by omega)]
theorem Mx_begin (i : Nat) (Ls : List (List Nat)) (h : i < Ls.length) : (Mx i Ls).set i (px i 0 (Ls.getD i [])) = Mx i Ls := list_ext_getD _ _ (by rw [List.length_set]) fun j hj => by
  rw [List.length_set, Mx_len] at hj
  rw [getD_set _ _ _ _ (by rw [Mx_len]; exact hj), px_zero]
  split
  · next h1 => subst h1; rw [Mx_at _ _ _ hj, if_neg (by omega)]
  · rfl
/-- A byte of one of the lists is written. -/
theorem Kp.set2 (W : World) (g i : Nat) (v : Value) : Kp (fun k => k = g) W (W.setCell ⟨g, i, none⟩ v) := Kp.of_grown (grown_set W g i v) rfl
theorem Fm.set {W : World} {B : Nat} {es : List Value} {Ls : List (List Nat)} (h : Fm W B es Ls) (i : Nat) (hi : i < es.length) (q : Nat) (hq : q < (Ls.getD i []).length) (y : Nat) :
    ∃ g k, es.getD i undef = .slice (some ⟨g, 0, none⟩) (Ls.getD i []).length k ∧ W.cell? ⟨g, q, none⟩ = some (.int .u8 ((Ls.getD i []).getD q 0 : Nat)) ∧ W.frozen? ⟨g, q, none⟩ = false ∧ Fm (W.setCell ⟨g, q, none⟩ (.int .u8 (y : Nat))) B es (Ls.set i ((Ls.getD i []).set q y)) ∧ g < W.heap.size := by
  obtain ⟨g, k, e, hg, hg2, -, hc, hf, hs⟩ := (h.tx i hi).opened (by omega)
  refine ⟨g, k, e, hc q hq, hf q, ⟨by rw [List.length_set]; exact h.len, fun j hj => ?_, h.ap⟩, hg2⟩
  rw [getD_set _ _ _ _ (by rw [← h.len]; exact hj)]
  by_cases hij : i = j
  · subst hij
    rw [if_pos rfl]
    exact hs q hq y
  · rw [if_neg hij]
    refine (h.tx j hj).keep fun k hk => (Kp.set2 W g q _).block k ((h.tx j hj).block k hk).2 fun hkg => ?_
    exact h.ap i j hi hj hij k (by rw [e, hkg]; rfl) hk
end Go.Proofs.YtlckjbangdnejaaDoor
