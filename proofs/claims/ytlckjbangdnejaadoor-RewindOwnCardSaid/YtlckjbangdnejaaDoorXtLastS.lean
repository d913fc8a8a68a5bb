/-
  What is kept by the laws that push copies: the numbers of the lists that were pushed, and the list that holds them.
-/
import Derived.Test.YtlckjbangdnejaaDoorXtApL
set_option linter.unusedSimpArgs false
set_option linter.unusedVariables false
namespace Go.Proofs.YtlckjbangdnejaaDoor
open Go.RowKit Classical
/-- The numbers of the lists that were pushed, the oldest first. -/
def kpt (L : Nat → List Nat) : Nat → List Nat
  | 0 => []
  | i + 1 => if (L i).length ≤ 65536 then kpt L i ++ [i] else kpt L i
theorem kpt_psh (L : Nat → List Nat) : ∀ i, psh L i = (kpt L i).reverse.map L
  | 0 => rfl
  | i + 1 => by
    rw [psh, kpt, kpt_psh L i]
    split <;> simp
theorem kpt_len (L : Nat → List Nat) (i : Nat) : (psh L i).length = (kpt L i).length := by rw [kpt_psh]; simp
theorem kpt_mem (L : Nat → List Nat) : ∀ i x, x ∈ kpt L i → x < i ∧ (L x).length ≤ 65536
  | 0, x, h => by simp [kpt] at h
  | i + 1, x, h => by
    rw [kpt] at h
    split at h
    · next hl =>
      rcases List.mem_append.1 h with h | h
      · exact ⟨by have := (kpt_mem L i x h).1; omega, (kpt_mem L i x h).2⟩
      · obtain rfl := List.mem_singleton.1 h
        exact ⟨by omega, hl⟩
    · exact ⟨by have := (kpt_mem L i x h).1; omega, (kpt_mem L i x h).2⟩
theorem psh_at (L : Nat → List Nat) (n q : Nat) (hq : q < (kpt L n).length) : (psh L n).getD q [] = L ((kpt L n).getD ((kpt L n).length - 1 - q) 0) := by
  rw [kpt_psh]
  have h1 : q < (kpt L n).reverse.length := by simpa using hq
  simp only [List.getD, List.getElem?_map, List.getElem?_eq_getElem h1, Option.map_some, Option.getD_some, List.getElem_reverse]
  congr 1
  have h2 : (kpt L n).length - 1 - q < (kpt L n).length := by omega
  rw [List.getElem?_eq_getElem h2, Option.getD_some]
theorem drop_at (Ss : List (List Nat)) (i k : Nat) : (Ss.drop i).getD k [] = Ss.getD (i + k) [] := by simp [List.getD]
theorem take_at (Ss : List (List Nat)) (n k : Nat) (h : k < n) : (Ss.take n).getD k [] = Ss.getD k [] := getD_take_same _ _ _ h
/-- The cells of the list that keeps them. -/
def kv (E : Nat → Option Addr) (C : Nat → Nat) (L : Nat → List Nat) (ks : List Nat) : List Value := ks.map fun i => .slice (E i) (L i).length (C i)
/-- The list that keeps them, in memory of its own. -/
def Kt (W : World) (base : Nat) (E : Nat → Option Addr) (C : Nat → Nat) (L : Nat → List Nat) (v : Value) (ks : List Nat) : Prop := W.ownsRow base 28 1 v ks.length (kv E C L ks)
theorem Kt.on {W W' : World} {base : Nat} {E : Nat → Option Addr} {C : Nat → Nat} {L : Nat → List Nat} {v : Value} {ks : List Nat} (h : Kt W base E C L v ks) (hk : ∀ k, v.ownBlock = some k → W'.heap[k]? = W.heap[k]?) : Kt W' base E C L v ks := by
  refine ⟨h.1, ?_⟩
  rcases h.2 with h2 | ⟨g, cap, cur, e, h3, h4, h5⟩
  · exact .inl h2
  · exact .inr ⟨g, cap, cur, e, h3, (hk g (by rw [e]; rfl)).trans h4, h5⟩
theorem Kt.lt {W : World} {base : Nat} {E : Nat → Option Addr} {C : Nat → Nat} {L : Nat → List Nat} {v : Value} {ks : List Nat} (h : Kt W base E C L v ks) : ∀ k, v.ownBlock = some k → base ≤ k ∧ k < W.heap.size := World.ownsRow.lt h
theorem Kt.form {W : World} {base : Nat} {E : Nat → Option Addr} {C : Nat → Nat} {L : Nat → List Nat} {v : Value} {ks : List Nat} (h : Kt W base E C L v ks) :
    ∃ a c, v = .slice a ks.length c ∧ ∀ i, i < ks.length → ∃ g, a = some ⟨g, 0, none⟩ ∧ W.cell? ⟨g, i, none⟩ = some (.slice (E (ks.getD i 0)) (L (ks.getD i 0)).length (C (ks.getD i 0))) := by
  obtain ⟨ad, c, rfl, -⟩ := orow_form h
  refine ⟨ad, c, rfl, fun i hi => ?_⟩
  cases ad with
  | none => have := (orow_none h).1; omega
  | some ad =>
    obtain ⟨g, rfl⟩ := orow_where h
    refine ⟨g, rfl, ?_⟩
    rw [orow_cell h i (by omega)]
    simp [kv, List.getD, List.getElem?_eq_getElem hi]
/-- The blocks of a tape within a law: made since, and none of the list that keeps. -/
def Fk (w0 : World) (FP : Nat → Prop) (w : World) (v : Value) : Prop := ∀ k, FP k → w0.heap.size ≤ k ∧ k < w.heap.size ∧ v.ownBlock ≠ some k
theorem Tx.keep {W W' : World} {base : Nat} {v : Value} {l : List Nat} (h : Tx W base v l) (hk : ∀ k, v.ownBlock = some k → W'.heap[k]? = W.heap[k]?) : Tx W' base v l := by
  refine ⟨h.1, ?_⟩
  rcases h.2 with h2 | ⟨g, cap, cur, e, h3, h4, h5⟩
  · exact .inl h2
  · exact .inr ⟨g, cap, cur, e, h3, (hk g (by rw [e]; rfl)).trans h4, h5⟩
theorem Tx.opened {W : World} {base : Nat} {v : Value} {l : List Nat} (h : Tx W base v l) (hl : 0 < l.length) : ∃ g k, v = .slice (some ⟨g, 0, none⟩) l.length k ∧ base ≤ g ∧ g < W.heap.size ∧ l.length ≤ k ∧ (∀ i, i < l.length → W.cell? ⟨g, i, none⟩ = some (.int .u8 (l.getD i 0 : Nat))) ∧ (∀ i, W.frozen? ⟨g, i, none⟩ = false) ∧
    ∀ i, i < l.length → ∀ y : Nat, Tx (W.setCell ⟨g, i, none⟩ (.int .u8 (y : Nat))) base v (l.set i y) := by
  obtain ⟨g, k, rfl⟩ := orow_some h hl
  have hb := orow_base h
  obtain ⟨a2, k2, e2, hk2, -, -⟩ := h.full
  cases e2
  refine ⟨g, k, rfl, hb.1, ((h.block g) rfl).2, hk2, fun i hi => ?_, fun i => orow_free h i, fun i hi y => ?_⟩
  · rw [orow_cell h i (by omega)]
    simp [vals, hi]
  · have := orow_set h i (by omega) (.int .u8 (y : Nat)) 
    unfold Tx
    rw [List.length_set, show vals (l.set i y) = (vals l).set i (.int .u8 (y : Nat)) by simp [vals, List.map_set]]
    exact this
theorem push_own (FP : Nat → Prop) (t K : Nat) (Ss : List (List Nat)) (P : List Nat) (v : Value) (B : Nat) (hP : Good P) (w : World) (h : Tp FP t K Ss w) (X : Tx w B v P) (tab : Tab w) (hf : ∀ k, FP k → k < B) :
    Calls Tryd.prog 9 #[.pointer (some ⟨t, 0, none⟩), v] w (PuOk FP t K ((P :: Ss).take (K + 1)) w) := by
  obtain ⟨a, k, rfl, -, RF, hp⟩ := X.full
  cases Ss with
  | nil =>
    have := push_first FP t K P a P.length k hP rfl w h RF.row
    simpa using this
  | cons S0 r => exact push_more FP t K S0 r P a P.length k hP rfl w h RF.row tab (fun p hp2 _ hf2 => by
    have h1 := (hp p hp2).1
    have h2 := hf _ hf2
    omega)
end Go.Proofs.YtlckjbangdnejaaDoor
