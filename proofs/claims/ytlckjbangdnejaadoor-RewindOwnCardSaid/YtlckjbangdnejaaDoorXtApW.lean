/-
  append of a very long list to one of the call's own.
-/
import Derived.Test.YtlckjbangdnejaaDoorXtLastS
import Derived.Deep.DeepAppendWide
set_option linter.unusedSimpArgs false
set_option linter.unusedVariables false
namespace Go.Proofs.YtlckjbangdnejaaDoor
open Go.RowKit Classical
theorem wpList_apW {ops : Array Oper} {rest : List Oper} {o : Oper} {a : Act} {Q : Exit → Act → World → Prop} (hgd : o.guard = none) (s x : Operand)
    (ho : o.op = .call { callee := .builtin .append, args := #[s, x], argTypes := #[28, 28] }) {l r : List Nat} {v : Value} {W w0 : World} {base : Nat} {ad : Option Addr} {n k : Nat} (hown : Tx W base v l) (hb : Below base w0 W) (hbase : base ≤ W.heap.size)
    (hs : a.eval s = v) (hx : a.eval x = .slice ad n k) (hn : r.length = n) (hr : Row W ad r) (hlm : l.length + r.length ≤ 140737488500000)
    (h : ∀ v' w', Tx w' base v' (l ++ r) → Below base w0 w' → base ≤ w'.heap.size → wpList Tryd.prog ops Q rest (a.put o.dst v') w') : wpList Tryd.prog ops Q (o :: rest) a W := by
  obtain ⟨i0, hi, hz0, hz1, hz2⟩ := info_parts Tryd.infoU8
  cases ad with
  | none =>
    have hr0 : r = [] := by
      rcases hr with e | ⟨b, off, e, _⟩
      · exact e
      · cases e
    subst hr0
    obtain rfl : n = 0 := by simpa using hn.symm
    refine wpList_app_nil hgd s x 28 ho base 5 i0 1 k (by kernel_rfl) hi v l.length (vals l) hs hown hx (h v W ?_ hb hbase)
    rw [List.append_nil]
    exact hown
  | some ad =>
    have hnews : ∀ j u, (vals r)[j]? = some u → W.cell? (ad.add j) = some u := by
      intro j u hu
      have hj : j < r.length := by have := (List.getElem?_eq_some_iff.1 hu).1; rwa [vals_len] at this
      rcases hr with e | ⟨b, off, e, hc⟩
      · rw [e] at hj; cases hj
      · obtain rfl := Option.some.inj e
        rw [Addr.add_lit, hc j hj]
        simp [vals, hj] at hu
        rw [← hu]
        simp [hj]
    obtain ⟨v', w', hrun, h1, h2, _⟩ := run_append_own_wide (P := Tryd.prog) W base 28 o.type 5 i0 _ 1 1 (by kernel_rfl) hi hz0 hz1 hz2 rfl (by decide) v l.length (vals l) hown ad n k (vals r) (by rw [vals_len, hn, Nat.mul_one]) hnews (vals_one _) (by unfold maxLen; omega) (by omega) hbase
    refine wpList_plain hgd fun K hK => ?_
    unfold Oper.wp execOp
    simp only [ho, resolve, invoke, builtin, Sem.run_bind, Sem.run_pure, Result.andThen_ok, List.map_toArray, List.map_cons, List.map_nil, hs, hx, hrun]
    refine hK _ _ (h v' w' ?_ (hb.grown h2 hbase (fun k hk => (World.ownsRow.lt hown k hk).1)) (Nat.le_trans hbase h2.size))
    unfold Tx; rw [List.length_append, show vals (l ++ r) = vals l ++ vals r by simp [vals], hn]; exact h1
end Go.Proofs.YtlckjbangdnejaaDoor
