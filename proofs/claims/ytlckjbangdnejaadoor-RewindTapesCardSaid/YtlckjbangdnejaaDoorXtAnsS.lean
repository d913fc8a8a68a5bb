/-
  The program's tape and the document's, side by side.
-/
import Derived.Test.YtlckjbangdnejaaDoorXtRefY
import Derived.Test.YtlckjbangdnejaaDoorXtAiS
set_option linter.unusedSimpArgs false
set_option linter.unusedVariables false
namespace Go.Proofs.YtlckjbangdnejaaDoor
open Go.RowKit Classical
/-- Both tapes in memory, with the same lists. -/
structure Tu (w0 : World) (t K u : Nat) (FP FU : Nat → Prop) (Ss : List (List Nat)) (W : World) : Prop where
  t1 : Tp FP t K Ss W
  t2 : Dt FU u (K + 1) Ss.reverse W
  f1 : ∀ k, FP k → w0.heap.size ≤ k ∧ k < W.heap.size
  f2 : ∀ k, FU k → w0.heap.size ≤ k ∧ k < W.heap.size
  ap : ∀ k, FP k → ¬ FU k
  b : Below w0.heap.size w0 W
theorem Tu.on {w0 : World} {t K u : Nat} {FP FU : Nat → Prop} {Ss : List (List Nat)} {W W' : World} (h : Tu w0 t K u FP FU Ss W) (hb : Below W.heap.size W W') : Tu w0 t K u FP FU Ss W' :=
  ⟨h.t1.below (fun k hk => (h.f1 k hk).2) hb, h.t2.below (fun k hk => (h.f2 k hk).2) hb, fun k hk => ⟨(h.f1 k hk).1, Nat.lt_of_lt_of_le (h.f1 k hk).2 hb.size⟩, fun k hk => ⟨(h.f2 k hk).1, Nat.lt_of_lt_of_le (h.f2 k hk).2 hb.size⟩, h.ap, h.b.trans (hb.mono h.b.size)⟩
/-- Blocks that are none of the tapes' own change. -/
theorem Tu.kp {w0 : World} {t K u : Nat} {FP FU S : Nat → Prop} {Ss : List (List Nat)} {W W' : World} (h : Tu w0 t K u FP FU Ss W) (hk : Kp S W W') (hS : ∀ k, S k → w0.heap.size ≤ k ∧ ¬ FP k ∧ ¬ FU k) : Tu w0 t K u FP FU Ss W' :=
  ⟨h.t1.on fun k hf => hk.block k (h.f1 k hf).2 fun hs => (hS k hs).2.1 hf, h.t2.on fun k hf => hk.block k (h.f2 k hf).2 fun hs => (hS k hs).2.2 hf, fun k hf => ⟨(h.f1 k hf).1, Nat.lt_of_lt_of_le (h.f1 k hf).2 hk.size⟩, fun k hf => ⟨(h.f2 k hf).1, Nat.lt_of_lt_of_le (h.f2 k hf).2 hk.size⟩, h.ap, h.b.trans (hk.below h.b.size fun k hs => (hS k hs).1)⟩
theorem rev_getD (Ss : List (List Nat)) (i : Nat) (h : i < Ss.length) : Ss.reverse.getD (Ss.reverse.length - 1 - i) [] = Ss.getD i [] := by
  have h1 : Ss.reverse.length - 1 - i < Ss.reverse.length := by rw [List.length_reverse]; omega
  simp only [List.getD, List.getElem?_eq_getElem h1, List.getElem?_eq_getElem h, Option.getD_some, List.getElem_reverse]
  congr 1
  rw [List.length_reverse]
  omega
theorem take_rev (Ss : List (List Nat)) (P : List Nat) (K : Nat) (h : Ss.length ≤ K + 1) : ((P :: Ss).take (K + 1)).reverse = if K + 1 < Ss.reverse.length + 1 then (Ss.reverse ++ [P]).drop 1 else Ss.reverse ++ [P] := by
  rw [List.length_reverse]
  split
  · have hl : Ss.length = K + 1 := by omega
    have hne : Ss ≠ [] := fun e => by rw [e] at hl; simp at hl
    have e := List.dropLast_concat_getLast hne
    have e3 : (P :: Ss).take (K + 1) = P :: Ss.dropLast := by
      rw [List.take_succ_cons, List.dropLast_eq_take, hl, Nat.add_sub_cancel]
    have e4 : Ss.reverse = Ss.getLast hne :: Ss.dropLast.reverse := by
      conv => lhs; rw [← e]
      simp
    rw [e3, e4]
    simp
  · rw [List.take_of_length_le (by simp; omega)]
    simp
end Go.Proofs.YtlckjbangdnejaaDoor
