/-
  A family of lists in memory, and the list that holds them.
-/
import Derived.Test.YtlckjbangdnejaaDoorXtRm
import Derived.Test.YtlckjbangdnejaaDoorXwThere
set_option linter.unusedSimpArgs false
set_option linter.unusedVariables false
namespace Go.Proofs.YtlckjbangdnejaaDoor
open Go.RowKit Classical
/-- Lists in blocks of their own, no two in one. -/
structure Fm (W : World) (B : Nat) (es : List Value) (Ls : List (List Nat)) : Prop where
  len : es.length = Ls.length
  tx : ∀ i, i < es.length → Tx W B (es.getD i undef) (Ls.getD i [])
  ap : ∀ i j, i < es.length → j < es.length → i ≠ j → ∀ k, (es.getD i undef).ownBlock = some k → (es.getD j undef).ownBlock ≠ some k
theorem Fm.on {W W' : World} {B : Nat} {es : List Value} {Ls : List (List Nat)} (h : Fm W B es Ls) (hk : ∀ i, i < es.length → ∀ k, (es.getD i undef).ownBlock = some k → W'.heap[k]? = W.heap[k]?) : Fm W' B es Ls :=
  ⟨h.len, fun i hi => (h.tx i hi).keep (hk i hi), h.ap⟩
theorem Fm.below {W W' : World} {B : Nat} {es : List Value} {Ls : List (List Nat)} (h : Fm W B es Ls) (hb : Below W.heap.size W W') : Fm W' B es Ls := h.on fun i hi k hk => hb.block k ((h.tx i hi).block k hk).2
theorem snoc_last {α : Type} (l : List α) (x d : α) : (l ++ [x]).getD l.length d = x := by simp [List.getD]
theorem snoc_init {α : Type} (l : List α) (x d : α) (i : Nat) (h : i < l.length) : (l ++ [x]).getD i d = l.getD i d := by simp [List.getD, List.getElem?_append_left h]
theorem Fm.snoc {W : World} {B : Nat} {es : List Value} {Ls : List (List Nat)} {e : Value} {L : List Nat} (h : Fm W B es Ls) (hx : Tx W B e L) (ha : ∀ k, e.ownBlock = some k → ∀ i, i < es.length → (es.getD i undef).ownBlock ≠ some k) : Fm W B (es ++ [e]) (Ls ++ [L]) := by
  refine ⟨by rw [List.length_append, List.length_append, h.len]; rfl, fun i hi => ?_, fun i j hi hj hne k hk => ?_⟩
  · rw [List.length_append] at hi
    by_cases hl : i = es.length
    · subst hl
      rw [snoc_last]
      have : (Ls ++ [L]).getD es.length [] = L := by rw [h.len]; exact snoc_last _ _ _
      rw [this]
      exact hx
    · have hi2 : i < es.length := by simp at hi; omega
      rw [snoc_init _ _ _ _ hi2, snoc_init _ _ _ _ (by rw [← h.len]; exact hi2)]
      exact h.tx i hi2
  · rw [List.length_append] at hi hj
    simp at hi hj
    by_cases h1 : i = es.length
    · subst h1
      rw [snoc_last] at hk
      rw [snoc_init _ _ _ _ (by omega)]
      exact ha k hk j (by omega)
    · rw [snoc_init _ _ _ _ (by omega)] at hk
      by_cases h2 : j = es.length
      · subst h2
        rw [snoc_last]
        intro hj2
        exact ha k hj2 i (by omega) hk
      · rw [snoc_init _ _ _ _ (by omega)]
        exact h.ap i j (by omega) (by omega) hne k hk
theorem getD_lt2 {α : Type} (l : List α) (i : Nat) (d : α) (h : i < l.length) : l[i]? = some (l.getD i d) := by simp [List.getD, List.getElem?_eq_getElem h]
theorem Fm.nil (W : World) (B : Nat) : Fm W B [] [] := ⟨rfl, fun i hi => absurd hi (by simp), fun i j hi => absurd hi (by simp)⟩
/-- The list that holds them, in memory of its own. -/
def Ow (W : World) (B : Nat) (v : Value) (es : List Value) : Prop := W.ownsRow B 28 1 v es.length es
theorem Ow.on {W W' : World} {B : Nat} {v : Value} {es : List Value} (h : Ow W B v es) (hk : ∀ k, v.ownBlock = some k → W'.heap[k]? = W.heap[k]?) : Ow W' B v es := by
  refine ⟨h.1, ?_⟩
  rcases h.2 with h2 | ⟨g, cap, cur, e, h3, h4, h5⟩
  · exact .inl h2
  · exact .inr ⟨g, cap, cur, e, h3, (hk g (by rw [e]; rfl)).trans h4, h5⟩
theorem Ow.lt {W : World} {B : Nat} {v : Value} {es : List Value} (h : Ow W B v es) : ∀ k, v.ownBlock = some k → B ≤ k ∧ k < W.heap.size := World.ownsRow.lt h
theorem Ow.ne {W : World} {B C : Nat} {v e : Value} {es : List Value} {L : List Nat} (h : Ow W B v es) (hx : Tx W C e L) : ∀ k, e.ownBlock = some k → v.ownBlock ≠ some k := by
  intro k hk hv
  rcases h.2 with ⟨h2, -⟩ | ⟨g, cap, cur, e2, h3, h4, -⟩
  · rw [h2] at hv; cases hv
  · rw [e2] at hv
    obtain rfl : g = k := by simpa [Value.ownBlock] using hv
    exact hx.notBlk (show Blk W g cur 28 from h4) (by decide) hk
/-- A cell of it. -/
theorem Ow.form {W : World} {B : Nat} {v : Value} {es : List Value} (h : Ow W B v es) (hn : 0 < es.length) : ∃ g c, v = .slice (some ⟨g, 0, none⟩) es.length c ∧ ∀ i, i < es.length → W.cell? ⟨g, i, none⟩ = some (es.getD i undef) := by
  obtain ⟨g, c, rfl⟩ := orow_some h hn
  refine ⟨g, c, rfl, fun i hi => ?_⟩
  rw [orow_cell h i (by omega)]
  exact getD_lt2 _ _ _ hi
/-- What lies in memory while the law goes on: the lists, the list that holds them, the tape. -/
structure Iv (z : World) (t : Nat) (FP : Nat → Prop) (Ss : List (List Nat)) (v : Value) (es : List Value) (Ls : List (List Nat)) (W : World) : Prop where
  b : Below z.heap.size z W
  o : Ow W z.heap.size v es
  f : Fm W z.heap.size es Ls
  t1 : Tp FP t 2 Ss W
  fp : ∀ k, FP k → z.heap.size ≤ k ∧ k < W.heap.size ∧ v.ownBlock ≠ some k ∧ ∀ i, i < es.length → (es.getD i undef).ownBlock ≠ some k
theorem Iv.below {z : World} {t : Nat} {FP : Nat → Prop} {Ss : List (List Nat)} {v : Value} {es : List Value} {Ls : List (List Nat)} {W W' : World} (h : Iv z t FP Ss v es Ls W) (hb : Below W.heap.size W W') : Iv z t FP Ss v es Ls W' :=
  ⟨h.b.trans (hb.mono h.b.size), h.o.on fun k hk => hb.block k (h.o.lt k hk).2, h.f.below hb, h.t1.below (fun k hk => (h.fp k hk).2.1) hb, fun k hk => ⟨(h.fp k hk).1, Nat.lt_of_lt_of_le (h.fp k hk).2.1 hb.size, (h.fp k hk).2.2⟩⟩
/-- What a new list must be, to be put behind. -/
def Nx (z : World) (FP : Nat → Prop) (es : List Value) (W : World) (e : Value) (L : List Nat) : Prop :=
  Tx W z.heap.size e L ∧ ∀ k, e.ownBlock = some k → ¬ FP k ∧ ∀ i, i < es.length → (es.getD i undef).ownBlock ≠ some k
theorem Iv.fresh {z : World} {t : Nat} {FP : Nat → Prop} {Ss : List (List Nat)} {v : Value} {es : List Value} {Ls : List (List Nat)} {W W' : World} {e : Value} {L : List Nat} (h : Iv z t FP Ss v es Ls W) (hx : Tx W' W.heap.size e L) : Nx z FP es W' e L :=
  ⟨orow_lower hx h.b.size, fun k hk => ⟨fun hf => by have := (hx.block k hk).1; have := (h.fp k hf).2.1; omega, fun i hi he => by have := (hx.block k hk).1; have := ((h.f.tx i hi).block k he).2; omega⟩⟩
/-- Behind append. -/
theorem Iv.app {z : World} {t : Nat} {FP : Nat → Prop} {Ss : List (List Nat)} {v v' e : Value} {es : List Value} {Ls : List (List Nat)} {L : List Nat} {W W' : World} (h : Iv z t FP Ss v es Ls W) (hx : Nx z FP es W e L)
    (r1 : W'.ownsRow z.heap.size 28 1 v' (es.length + 1) (es ++ [e])) (r3 : ∀ k, k < W.heap.size → v.ownBlock ≠ some k → W'.heap[k]? = W.heap[k]?) (r4 : Below z.heap.size W W') (r5 : ∀ k, v'.ownBlock = some k → v.ownBlock = some k ∨ W.heap.size ≤ k) : Iv z t FP Ss v' (es ++ [e]) (Ls ++ [L]) W' := by
  have hs := r4.size
  refine ⟨h.b.trans r4, by unfold Ow; rw [List.length_append]; exact r1, (h.f.on fun i hi k hk => r3 k ((h.f.tx i hi).block k hk).2 (h.o.ne (h.f.tx i hi) k hk)).snoc (hx.1.keep fun k hk => r3 k (hx.1.block k hk).2 (h.o.ne hx.1 k hk)) fun k hk i hi => (hx.2 k hk).2 i hi, h.t1.on fun k hk => r3 k (h.fp k hk).2.1 (h.fp k hk).2.2.1, fun k hk => ?_⟩
  obtain ⟨h1, h2, h3, h4⟩ := h.fp k hk
  refine ⟨h1, Nat.lt_of_lt_of_le h2 hs, fun h5 => ?_, fun i hi h5 => ?_⟩
  · rcases r5 k h5 with h6 | h6
    · exact h3 h6
    · omega
  · rw [List.length_append] at hi
    by_cases hl : i = es.length
    · subst hl
      rw [snoc_last] at h5
      exact (hx.2 k h5).1 hk
    · have hi2 : i < es.length := by simp at hi; omega
      rw [snoc_init _ _ _ _ hi2] at h5
      exact h4 i hi2 h5
theorem Own.tx {W : World} {g B : Nat} {L : List Nat} (h : Own W g L) (hg : B ≤ g) (hl : L.length ≤ 1000000) : Tx W B (.slice (some ⟨g, 0, none⟩) L.length L.length) L :=
  ⟨by rw [vals_len, Nat.mul_one], .inr ⟨g, L.length, _, rfl, hg, h, Nat.le_refl _, by unfold maxLen; omega, by simp [vals_len], by rw [Nat.mul_one]; exact List.take_of_length_le (by simp [vals_len])⟩⟩
/-- The tape was pushed to. -/
theorem Iv.push {z : World} {t : Nat} {FP : Nat → Prop} {Ss Ts : List (List Nat)} {v : Value} {es : List Value} {Ls : List (List Nat)} {W W' : World} (h : Iv z t FP Ss v es Ls W) (hT : Tp (fun k => FP k ∨ (W.heap.size ≤ k ∧ k < W'.heap.size)) t 2 Ts W') (hK : Kp FP W W') : Iv z t (fun k => FP k ∨ (W.heap.size ≤ k ∧ k < W'.heap.size)) Ts v es Ls W' := by
  have hs := hK.size
  refine ⟨h.b.trans (hK.below h.b.size fun k hk => (h.fp k hk).1), h.o.on fun k hk => hK.block k (h.o.lt k hk).2 fun hf => (h.fp k hf).2.2.1 hk, h.f.on fun i hi k hk => hK.block k ((h.f.tx i hi).block k hk).2 fun hf => (h.fp k hf).2.2.2 i hi hk, hT, fun k hk => ?_⟩
  rcases hk with hk | hk
  · obtain ⟨h1, h2, h3, h4⟩ := h.fp k hk
    exact ⟨h1, by omega, h3, h4⟩
  · exact ⟨Nat.le_trans h.b.size hk.1, hk.2, fun hv => by have := (h.o.lt k hv).2; omega, fun i hi he => by have := ((h.f.tx i hi).block k he).2; omega⟩
/-- The newest was taken off the tape. -/
theorem Iv.back {z : World} {t g : Nat} {FP : Nat → Prop} {S0 : List Nat} {Ss : List (List Nat)} {v : Value} {es : List Value} {Ls : List (List Nat)} {W W' : World} (h : Iv z t FP (S0 :: Ss) v es Ls W) (hg : FP g) (hO : Own W' g S0) (hT : Tp (fun k => (FP k ∧ k ≠ g) ∨ (W.heap.size ≤ k ∧ k < W'.heap.size)) t 2 Ss W') (hK : Kp FP W W') (hl : S0.length ≤ 65536) : Iv z t (fun k => (FP k ∧ k ≠ g) ∨ (W.heap.size ≤ k ∧ k < W'.heap.size)) Ss v es Ls W' ∧ Nx z (fun k => (FP k ∧ k ≠ g) ∨ (W.heap.size ≤ k ∧ k < W'.heap.size)) es W' (.slice (some ⟨g, 0, none⟩) S0.length S0.length) S0 := by
  have hs := hK.size
  refine ⟨⟨h.b.trans (hK.below h.b.size fun k hk => (h.fp k hk).1), h.o.on fun k hk => hK.block k (h.o.lt k hk).2 fun hf => (h.fp k hf).2.2.1 hk, h.f.on fun i hi k hk => hK.block k ((h.f.tx i hi).block k hk).2 fun hf => (h.fp k hf).2.2.2 i hi hk, hT, fun k hk => ?_⟩, hO.tx (h.fp g hg).1 (by omega), fun k hk => ?_⟩
  · rcases hk with hk | hk
    · obtain ⟨h1, h2, h3, h4⟩ := h.fp k hk.1
      exact ⟨h1, by omega, h3, h4⟩
    · exact ⟨Nat.le_trans h.b.size hk.1, hk.2, fun hv => by have := (h.o.lt k hv).2; omega, fun i hi he => by have := ((h.f.tx i hi).block k he).2; omega⟩
  · obtain rfl : g = k := by simpa [Value.ownBlock] using hk
    refine ⟨fun hf => ?_, (h.fp g hg).2.2.2⟩
    rcases hf with hf | hf
    · exact hf.2 rfl
    · have := (h.fp g hg).2.1; omega
/-- The right patch gives the list that it was made for. -/
theorem patch_back (F T : List Nat) (nf nd kf kd : Nat) (a ad : Option Addr) (hF : Good F) (hT : Good T) (hnf : F.length = nf) (hnd : (diffL F T).length = nd) (hkd : nd ≤ kd) (hnil : ad = none → kd = 0) (w : World) (RF : Row w a F) (RD : Row w ad (diffL F T)) (hD : Bytes (diffL F T)) (tab : Tab w) :
    Calls Tryd.prog 20 #[.slice a nf kf, .slice ad nd kd] w fun e w' => ∃ g, e = .returned (.tuple #[.slice (some ⟨g, 0, none⟩) T.length T.length, .int .i64 0]) ∧ w.heap.size ≤ g ∧ Own w' g T ∧ Below w.heap.size w w' := by
  have hl := (diffL_len hF.2 hT.2).2
  refine (patch_any F (diffL F T) nf nd kf kd a ad hF.1 hD hnf hnd (by rw [← hnf]; exact hF.2) (by omega) hkd hnil w RF RD tab).mono ?_
  rintro e w' ⟨hb, h | ⟨g, s, T2, rfl, hs, hg, hO, hG, hE⟩⟩
  · exact absurd rfl (h.2 T hT)
  · have : T = T2 := diffL_inj hF.2 hT hG hE
    subst this
    subst hs
    exact ⟨g, rfl, hg, hO, hb⟩
end Go.Proofs.YtlckjbangdnejaaDoor
