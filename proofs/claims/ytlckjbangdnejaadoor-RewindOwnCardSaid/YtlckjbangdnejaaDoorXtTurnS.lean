/-
  A list of lists that a law reads, keeps short, and copies: its numbers; a step of it.
-/
import Derived.Test.YtlckjbangdnejaaDoorXtApW
set_option linter.unusedSimpArgs false
set_option linter.unusedVariables false
namespace Go.Proofs.YtlckjbangdnejaaDoor
open Go.RowKit Classical
/-- A list of lists somewhere: ks are the numbers of its lists. -/
def Rl (W : World) (E : Nat → Option Addr) (C : Nat → Nat) (L : Nat → List Nat) (v : Value) (ks : List Nat) : Prop :=
  ∃ a c, v = .slice a ks.length c ∧ ks.length ≤ c ∧ ∀ i, i < ks.length → ∃ g o, a = some ⟨g, o, none⟩ ∧ W.cell? ⟨g, o + i, none⟩ = some (.slice (E (ks.getD i 0)) (L (ks.getD i 0)).length (C (ks.getD i 0)))
theorem Rl.on {W W' : World} {E : Nat → Option Addr} {C : Nat → Nat} {L : Nat → List Nat} {v : Value} {ks : List Nat} (h : Rl W E C L v ks) (hk : ∀ k, v.ownBlock = some k → W'.heap[k]? = W.heap[k]?) : Rl W' E C L v ks := by
  obtain ⟨a, c, rfl, hc, hx⟩ := h
  refine ⟨a, c, rfl, hc, fun i hi => ?_⟩
  obtain ⟨g, o, rfl, h⟩ := hx i hi
  exact ⟨g, o, rfl, (World.cell?_of_block (a := ⟨g, o + i, none⟩) (hk g rfl)).trans h⟩
theorem Rl.nil (W : World) (E : Nat → Option Addr) (C : Nat → Nat) (L : Nat → List Nat) : Rl W E C L (.slice none 0 0) [] := ⟨none, 0, rfl, Nat.le_refl _, fun i hi => absurd hi (by simp)⟩
/-- What is read of it, where it is not empty. -/
theorem Rl.opened {W : World} {E : Nat → Option Addr} {C : Nat → Nat} {L : Nat → List Nat} {v : Value} {ks : List Nat} (h : Rl W E C L v ks) (hn : 0 < ks.length) : ∃ g o c, v = .slice (some ⟨g, o, none⟩) ks.length c ∧ ks.length ≤ c ∧ ∀ i, i < ks.length → W.cell? ⟨g, o + i, none⟩ = some (.slice (E (ks.getD i 0)) (L (ks.getD i 0)).length (C (ks.getD i 0))) := by
  obtain ⟨a, c, rfl, hc, hx⟩ := h
  obtain ⟨g, o, rfl, -⟩ := hx 0 hn
  refine ⟨g, o, c, rfl, hc, fun i hi => ?_⟩
  obtain ⟨g', o', e, h⟩ := hx i hi
  cases e
  exact h
theorem getD_dropLast (l : List Nat) (i : Nat) (h : i < l.dropLast.length) : l.dropLast.getD i 0 = l.getD i 0 := by
  have h2 : i < l.length := by rw [List.length_dropLast] at h; omega
  simp [List.getD, List.getElem?_eq_getElem h, List.getElem?_eq_getElem h2]
theorem Rl.short {W : World} {E : Nat → Option Addr} {C : Nat → Nat} {L : Nat → List Nat} {g o c n : Nat} {ks : List Nat} (h : Rl W E C L (.slice (some ⟨g, o, none⟩) n c) ks) (hn : ks.dropLast.length = n - 1) : Rl W E C L (.slice (some ⟨g, o, none⟩) (n - 1) c) ks.dropLast := by
  obtain ⟨a, c', e, hc, hx⟩ := h
  cases e
  refine ⟨_, c, by rw [hn], by rw [hn]; omega, fun i hi => ?_⟩
  obtain ⟨g', o', e, h⟩ := hx i (by rw [List.length_dropLast] at hi; omega)
  cases e
  exact ⟨g, o, rfl, by rw [getD_dropLast _ _ hi]; exact h⟩
theorem Rl.behind {W : World} {E : Nat → Option Addr} {C : Nat → Nat} {L : Nat → List Nat} {g o c n : Nat} {ks : List Nat} (h : Rl W E C L (.slice (some ⟨g, o, none⟩) n c) ks) (hn : (ks.drop 1).length = n - 1) (h1 : 1 ≤ n) (o' : Nat) (ho : 2 ≤ n → o' = o + 1) : Rl W E C L (.slice (some ⟨g, o', none⟩) (n - 1) (c - 1)) (ks.drop 1) := by
  obtain ⟨a, c', e, hc, hx⟩ := h
  cases e
  refine ⟨_, c - 1, by rw [hn], by rw [hn]; omega, fun i hi => ?_⟩
  obtain ⟨g', o2, e, h⟩ := hx (i + 1) (by rw [List.length_drop] at hi; omega)
  cases e
  refine ⟨g, o', rfl, ?_⟩
  have e2 : (ks.drop 1).getD i 0 = ks.getD (i + 1) 0 := by simp [List.getD, Nat.add_comm]
  rw [e2, ho (by rw [hn] at hi; omega), Nat.add_assoc, Nat.add_comm 1 i]
  exact h
/-- A step of the list: taken from or put behind, and no longer than a bound. -/
def stp (limit : Nat) (take : Bool) (i : Nat) (ks : List Nat) : List Nat :=
  if take then ks.dropLast else if limit < ks.length + 1 then (ks ++ [i]).drop 1 else ks ++ [i]
theorem stp_len (limit : Nat) (take : Bool) (i : Nat) (ks : List Nat) (h : ks.length ≤ limit) : (stp limit take i ks).length ≤ limit := by
  unfold stp
  split
  · rw [List.length_dropLast]; omega
  · split
    · rw [List.length_drop, List.length_append]; simp; omega
    · rw [List.length_append]; simp; omega
theorem stp_push (L : Nat → List Nat) (K i : Nat) (ks : List Nat) (h : ks.length ≤ K + 1) : (L i :: (ks.map L).reverse).take (K + 1) = ((stp (K + 1) false i ks).map L).reverse := by
  unfold stp
  rw [if_neg (by decide)]
  split
  · have hk : ks.length = K + 1 := by omega
    cases ks with
    | nil => simp at hk
    | cons a r =>
      simp at hk
      simp [hk]
  · rw [List.take_of_length_le (by simp; omega)]
    simp
theorem rev_last (L : Nat → List Nat) (ks : List Nat) (h : 0 < ks.length) : (ks.map L).reverse = L (ks.getD (ks.length - 1) 0) :: (ks.dropLast.map L).reverse := by
  have hne : ks ≠ [] := List.length_pos_iff.1 h
  have e := List.dropLast_concat_getLast hne
  have e2 : ks.getLast hne = ks.getD (ks.length - 1) 0 := by
    rw [List.getLast_eq_getElem, List.getD, List.getElem?_eq_getElem (by omega), Option.getD_some]
  rw [← e2]
  conv => lhs; rw [← e]
  simp
theorem stp_mem (limit : Nat) (take : Bool) (i : Nat) (ks : List Nat) : ∀ x ∈ stp limit take i ks, x ∈ ks ∨ (take = false ∧ x = i) := by
  intro x hx
  unfold stp at hx
  cases take with
  | true => simp at hx; exact .inl (List.dropLast_subset _ hx)
  | false =>
    simp at hx
    split at hx
    · rcases List.mem_append.1 (List.mem_of_mem_tail hx) with h | h
      · exact .inl h
      · exact .inr ⟨rfl, List.mem_singleton.1 h⟩
    · rcases List.mem_append.1 hx with h | h
      · exact .inl h
      · exact .inr ⟨rfl, List.mem_singleton.1 h⟩
end Go.Proofs.YtlckjbangdnejaaDoor
