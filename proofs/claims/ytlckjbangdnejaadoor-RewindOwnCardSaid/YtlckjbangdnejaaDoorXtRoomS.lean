/-
  What the tape's laws share: a Push of what was handed in, a list of lists that was handed in, sums of patches.
-/
import Derived.Test.YtlckjbangdnejaaDoorXtBack
set_option linter.unusedSimpArgs false
set_option linter.unusedVariables false
namespace Go.Proofs.YtlckjbangdnejaaDoor
open Go.RowKit Classical
theorem tmod_in (n : Int) (m : Nat) (hm : 0 < m) : -(m : Int) < n.tmod (m : Int) ∧ n.tmod (m : Int) < (m : Int) := by
  have h := Int.tmod_lt_of_pos n (show (0 : Int) < (m : Int) by omega)
  have h2 := Int.lt_tmod_of_pos n (show (0 : Int) < (m : Int) by omega)
  exact ⟨h2, h⟩
/-- A list of lists of bytes in memory. -/
structure Als (W : World) (a : Option Addr) (len : Nat) (E : Nat → Option Addr) (C : Nat → Nat) (L : Nat → List Nat) (b o : Nat) : Prop where
  at_ : 0 < len → a = some ⟨b, o, none⟩
  cells : ∀ i, i < len → W.cell? ⟨b, o + i, none⟩ = some (.slice (E i) (L i).length (C i))
  rows : ∀ i, i < len → Row W (E i) (L i) ∧ Bytes (L i) ∧ (L i).length ≤ 9223372036854775807
theorem Als.below {W W' : World} {a : Option Addr} {len : Nat} {E : Nat → Option Addr} {C : Nat → Nat} {L : Nat → List Nat} {b o : Nat} (h : Als W a len E C L b o) (hb : Below W.heap.size W W') : Als W' a len E C L b o :=
  ⟨h.at_, fun i hi => (hb.cell (p := ⟨b, o + i, none⟩) (cell_lt (p := ⟨b, o + i, none⟩) (h.cells i hi))).trans (h.cells i hi), fun i hi => ⟨(h.rows i hi).1.below hb, (h.rows i hi).2⟩⟩
theorem Row.lt {W : World} {a : Option Addr} {l : List Nat} (h : Row W a l) : ∀ p, a = some p → l ≠ [] → p.block < W.heap.size := by
  intro p hp hl
  rcases h with h | ⟨b, off, e, hc⟩
  · exact absurd h hl
  · rw [hp] at e
    cases e
    exact cell_lt (p := ⟨b, off + 0, none⟩) (hc 0 (List.length_pos_iff.2 hl))
theorem Tp.mono {FP FQ : Nat → Prop} {t K : Nat} {Ss : List (List Nat)} {w : World} (h : Tp FP t K Ss w) (hs : ∀ k, FP k → FQ k) : Tp FQ t K Ss w := by
  obtain ⟨s, f, cur, nv, gn, R, B, S, N, f1, f2, n1, n2, n3, n4⟩ := h
  exact ⟨s, f, cur, nv, gn, R, B, S, N, hs _ f1, hs _ f2, by
    cases Ss with
    | nil => exact n1
    | cons a r => exact ⟨n1.1, n1.2.1, hs _ n1.2.2⟩, n2, fun i v hv => by
    obtain ⟨g, hg, hne⟩ := n3 i v hv
    exact ⟨g, ⟨hg.1, hg.2.1, hs _ hg.2.2⟩, hne⟩, n4⟩
/-- The blocks made since a world. -/
def Fp (w w' : World) : Nat → Prop := fun k => w.heap.size ≤ k ∧ k < w'.heap.size
theorem Tp.later {a w w' : World} {t K : Nat} {Ss : List (List Nat)} (h : Tp (Fp a w) t K Ss w) (hb : Below w.heap.size w w') : Tp (Fp a w') t K Ss w' :=
  (h.below (fun k hk => hk.2) hb).mono fun k hk => ⟨hk.1, Nat.lt_of_lt_of_le hk.2 hb.size⟩
theorem push_in (w0 : World) (t K : Nat) (Ss : List (List Nat)) (P : List Nat) (a : Option Addr) (n k : Nat) (hP : Good P) (hn : P.length = n) (w : World) (b0 : Below w0.heap.size w0 w) (h : Tp (Fp w0 w) t K Ss w) (RP : Row w0 a P) (tab : Tab w0) :
    Calls Tryd.prog 9 #[.pointer (some ⟨t, 0, none⟩), .slice a n k] w fun e w' => e = .returned (.int .i64 0) ∧ Tp (Fp w0 w') t K ((P :: Ss).take (K + 1)) w' ∧ Below w0.heap.size w0 w' := by
  have fin : ∀ {Qs : List (List Nat)} {e : Ending} {w' : World}, PuOk (Fp w0 w) t K Qs w e w' → e = .returned (.int .i64 0) ∧ Tp (Fp w0 w') t K Qs w' ∧ Below w0.heap.size w0 w' := by
    rintro Qs e w' ⟨he, hT, hk⟩
    have hs := hk.size
    exact ⟨he, hT.mono fun j hj => by rcases hj with hj | hj; exact ⟨hj.1, Nat.lt_of_lt_of_le hj.2 hs⟩; exact ⟨Nat.le_trans b0.size hj.1, hj.2⟩, b0.trans (hk.below b0.size fun j hj => hj.1)⟩
  cases Ss with
  | nil =>
    refine (push_first (Fp w0 w) t K P a n k hP hn w h (RP.below b0)).mono ?_
    intro e w' hh
    have := fin hh
    simpa using this
  | cons S0 r =>
    refine (push_more (Fp w0 w) t K S0 r P a n k hP hn w h (RP.below b0) (tab.below tab.lt b0) ?_).mono ?_
    · intro p hp hne hf
      have := RP.lt p hp hne
      have := hf.1
      omega
    · intro e w' hh
      exact fin hh
theorem new_in (n : Nat) (h1 : 1 ≤ n) (h2 : n ≤ 4096) (w : World) :
    Calls Tryd.prog 8 #[.int .i64 n] w fun e w' => ∃ t, e = .returned (.tuple #[.pointer (some ⟨t, 0, none⟩), .int .i64 0]) ∧ Tp (Fp w w') t (n - 1) [] w' ∧ Below w.heap.size w w' := by
  refine (tape_new n h1 h2 w).mono ?_
  rintro e w' ⟨t, he, -, hT, hb⟩
  exact ⟨t, he, hT, hb⟩
/-- The lists that a tape without bound would hold. -/
def psh (L : Nat → List Nat) : Nat → List (List Nat)
  | 0 => []
  | i + 1 => if (L i).length ≤ 65536 then L i :: psh L i else psh L i
theorem psh_le (L : Nat → List Nat) : ∀ i, (psh L i).length ≤ i
  | 0 => Nat.le_refl _
  | i + 1 => by
    have := psh_le L i
    unfold psh
    split
    · simp; omega
    · omega
theorem take_push (P : List Nat) (Q : List (List Nat)) (K : Nat) : (P :: Q.take (K + 1)).take (K + 1) = (P :: Q).take (K + 1) := by
  simp [List.take_take, Nat.min_eq_left (Nat.le_succ K)]
theorem byt_step (Ss : List (List Nat)) (k : Nat) (hk : k < Ss.length) (h1 : 1 ≤ k) : byt (Ss.take (k + 1)) = byt (Ss.take k) + (diffL (Ss.getD (k - 1) []) (Ss.getD k [])).length := by
  have h := room_last (Ss.take (k + 1)) k h1 (by rw [List.length_take]; omega)
  rw [List.take_take, Nat.min_eq_left (Nat.le_succ k), getD_take_same _ _ _ (by omega), getD_take_same _ _ _ (by omega)] at h
  cases Ss with
  | nil => simp at hk
  | cons a r =>
    obtain ⟨j, rfl⟩ : ∃ j, k = j + 1 := ⟨k - 1, by omega⟩
    rw [List.take_succ_cons] at h ⊢
    simp only [byt]
    rw [h]
    simp only [List.take_succ_cons, byt]
    omega
theorem byt_one (Ss : List (List Nat)) (hk : 0 < Ss.length) : byt (Ss.take 1) = (Ss.getD 0 []).length := by
  cases Ss with
  | nil => simp at hk
  | cons a r => simp [byt, room]
theorem byt_le (Ss : List (List Nat)) (n : Nat) (hn : Ss.length ≤ n) (h : ∀ S ∈ Ss, Good S) : byt Ss ≤ 65560 * (n + 1) := by
  have h2 := room_le Ss h
  cases Ss with
  | nil => exact Nat.zero_le _
  | cons a r =>
    have := (h a (by simp)).2
    simp only [byt]
    simp at hn h2
    omega
theorem Tp.good {FP : Nat → Prop} {t K : Nat} {Ss : List (List Nat)} {w : World} (h : Tp FP t K Ss w) : ∀ S ∈ Ss, Good S := by
  obtain ⟨s, f, cur, nv, gn, R, B, S, N, f1, f2, n1, n2, n3, n4, n5⟩ := h
  exact n4
end Go.Proofs.YtlckjbangdnejaaDoor
