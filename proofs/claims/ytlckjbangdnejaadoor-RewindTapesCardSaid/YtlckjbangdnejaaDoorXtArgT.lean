/-
  How a list of a tape's steps that is handed in is read, with the reach of each list in it.
-/
import Derived.Test.YtlckjbangdnejaaDoorXtArgS
import Derived.Test.YtlckjbangdnejaaDoorXtArg2
set_option linter.unusedSimpArgs false
set_option linter.unusedVariables false
namespace Go.Proofs.YtlckjbangdnejaaDoor
open Go.ChangeShapes Go.WideShapes Go.ChangeAt Go.RowKit Go.Deep Classical
/-- A list within a step is no greater than what may be handed in. -/
theorem stepLen {H : Type} {ts : List TypeId} {ds : List (DataW H)} (h : (DataW.weightsEach Tryd.prog ts ds).all (· ≤ reachBytes) = true) {j : Nat} {elems spare e' sp' : List (DataW H)} {a b : DataW H}
    (ht : ts[j]? = some 36) (hd : ds[j]? = some (.slice elems spare)) (hx : DataW.agg [a, b, .slice e' sp'] ∈ elems) : e'.length ≤ 140737488351232 := by
  have := of_decide_eq_true (List.all_eq_true.1 h ((e'.length + sp'.length) * Tryd.prog.bytesOf 5) (DataW.weights_mem_each ht hd _ (by
    simp only [DataW.weights, Tryd.underlying36, List.mem_cons, List.mem_append]
    exact Or.inr (Or.inl (weightsAll_in hx _ (by simp [DataW.weights, DataW.weightsEach, Tryd.underlying38, Tryd.underlying28]))))))
  rw [bytes5] at this
  simp only [reachBytes] at this
  omega
theorem sts_reach {H : Type} {enc : TypeId × Value → H} {W : World} {base : Nat} {v : Value} {d : DataW H} {p : List MemPlace} {ts : List TypeId} {ds : List (DataW H)} {q0 : Nat}
    (hv : Value.okWide Tryd.prog W .any base 36 v) (h : DataW.Trod enc Tryd.prog W 0 (fun _ => true) true 36 v d p)
    (hsz : (DataW.weightsEach Tryd.prog ts ds).all (· ≤ reachBytes) = true) (ht : ts[q0]? = some 36) (hd : ds[q0]? = some d) :
    ∃ (a : Option Addr) (len cap : Nat) (K N : Nat → Int) (E : Nat → Option Addr) (C : Nat → Nat) (L : Nat → List Nat) (b o : Nat), v = .slice a len cap ∧ len ≤ 9223372036854775807 ∧ Sts W a len K N E C L b o ∧ ∀ i, i < len → (L i).length ≤ 140737488351232 := by
  obtain ⟨a, len, cap, rfl⟩ := okWide_slice Tryd.underlying36 hv
  obtain ⟨fuel, hf⟩ := h
  rcases open_slice Tryd.underlying36 hf with ⟨hcs, _⟩ | ⟨x, l, c, m, n, D, Pl, hcs, _, hl, hm, hmm, hx0, hx⟩
  · simp [Value.cells] at hcs
    obtain ⟨rfl, rfl, rfl⟩ := hcs
    exact ⟨none, 0, 0, fun _ => 0, fun _ => 0, fun _ => none, fun _ => 0, fun _ => [], 0, 0, rfl, by decide, ⟨fun h => absurd h (by decide), fun i hi => absurd hi (by omega), fun i hi => absurd hi (by omega), fun i hi => absurd hi (by omega)⟩, fun i hi => absurd hi (by omega)⟩
  · simp [Value.cells] at hcs
    obtain ⟨rfl, rfl, rfl⟩ := hcs
    simp only [if_true] at hmm
    subst hmm
    rw [Prod.mk.injEq] at hx0
    obtain ⟨rfl, -⟩ := hx0
    have each : ∀ i, i < len → ∃ q : Int × Int × Option Addr × Nat × List Nat, W.cell? (x.add (i * 3)) = some (.int .i64 q.1) ∧ W.cell? (x.add (i * 3 + 1)) = some (.int .i64 q.2.1) ∧ W.cell? (x.add (i * 3 + 2)) = some (.slice q.2.2.1 q.2.2.2.2.length q.2.2.2.1) ∧ ((-9223372036854775808 ≤ q.1 ∧ q.1 ≤ 9223372036854775807) ∧ -9223372036854775808 ≤ q.2.1 ∧ q.2.1 ≤ 9223372036854775807) ∧ (Row W q.2.2.1 q.2.2.2.2 ∧ Bytes q.2.2.2.2 ∧ q.2.2.2.2.length ≤ 9223372036854775807) ∧ q.2.2.2.2.length ≤ 140737488351232 := by
      intro i hi
      obtain ⟨cs', h1, h2⟩ := hx i (by omega)
      rw [cellsStep] at h1
      obtain ⟨_, hlen, hcell⟩ := World.cells?_some h1
      obtain ⟨xs, k, _, hDi, _, hxl, hfld⟩ := DataW.trod_struct Tryd.underlying38 h2
      have hxl' : xs.length = 3 := hxl
      match xs, hxl', cs', hlen with
      | [y0, y1, y2], _, [v0, v1, v2], _ =>
        have g0 : DataW.trod enc Tryd.prog W 0 (fun _ => true) true k 3 [v0] = some y0 := by
          have := hfld 0 _ rfl
          have e : [v0] = (([v0, v1, v2] : List Value).drop 0).take (Tryd.prog.cellsOf 3) := by rw [cellsInt]; rfl
          rw [e]; exact this
        have g1 : DataW.trod enc Tryd.prog W 0 (fun _ => true) true k 3 [v1] = some y1 := by
          have := hfld 1 _ rfl
          have e : [v1] = (([v0, v1, v2] : List Value).drop 1).take (Tryd.prog.cellsOf 3) := by rw [cellsInt]; rfl
          rw [e]; exact this
        have g2 : DataW.trod enc Tryd.prog W 0 (fun _ => true) true k 28 [v2] = some y2 := by
          have := hfld 2 _ rfl
          have e : [v2] = (([v0, v1, v2] : List Value).drop 2).take (Tryd.prog.cellsOf 28) := by rw [cellsBs]; rfl
          rw [e]; exact this
        obtain ⟨n0, e0, -, w0⟩ := DataW.trod_int Tryd.underlying3 g0
        obtain ⟨n1, e1, -, w1⟩ := DataW.trod_int Tryd.underlying3 g1
        obtain ⟨q2, e2, r2, b2, l2⟩ := elem_of g2
        have l3 : q2.2.2.length ≤ 140737488351232 := by
          rcases elem_len g2 _ _ _ e2 with h | ⟨el, sp, h1, h2⟩
          · rw [h]; omega
          · rw [← h2]
            rw [Prod.mk.injEq] at hDi
            refine stepLen hsz ht hd (a := y0.1) (b := y1.1) (e' := el) (sp' := sp) (List.mem_map.2 ⟨i, List.mem_range.2 hi, ?_⟩)
            rw [hDi.1, ← h1]
            rfl
        simp only [List.cons.injEq, and_true] at e0 e1
        subst e0 e1 e2
        have c0 := hcell 0 (by omega)
        have c1 := hcell 1 (by omega)
        have c2 := hcell 2 (by omega)
        rw [add_add] at c0 c1 c2
        exact ⟨(n0, n1, q2), by simpa using c0, by simpa using c1, by simpa using c2, ⟨wf64 w0, wf64 w1⟩, ⟨r2, b2, l2⟩, l3⟩
    obtain ⟨q, hq⟩ := choose_lt each
    obtain ⟨xb, xo, xs⟩ := x
    by_cases hz : 0 < len
    · have h0 := (hq 0 hz).1
      have hs : xs = none := by
        have := World.cell?_spot (a := (⟨xb, xo, xs⟩ : Addr)) (by simpa [Addr.add] using h0)
        exact this
      subst hs
      refine ⟨_, len, _, fun i => (q i).1, fun i => (q i).2.1, fun i => (q i).2.2.1, fun i => (q i).2.2.2.1, fun i => (q i).2.2.2.2, xb, xo, rfl, (by have hm9 : maxLen ≤ 9223372036854775807 := (by decide); omega), ⟨fun _ => rfl, fun i hi => ?_, fun i hi => (hq i hi).2.2.2.2.1, fun i hi => (hq i hi).2.2.2.1⟩, fun i hi => (hq i hi).2.2.2.2.2⟩
      obtain ⟨a0, a1, a2, -⟩ := hq i hi
      rw [add_plain] at a0 a1 a2
      exact ⟨a0, by rw [Nat.add_assoc]; exact a1, by rw [Nat.add_assoc]; exact a2⟩
    · exact ⟨_, len, _, fun _ => 0, fun _ => 0, fun _ => none, fun _ => 0, fun _ => [], 0, 0, rfl, by omega, ⟨fun h => absurd h hz, fun i hi => absurd hi (by omega), fun i hi => absurd hi (by omega), fun i hi => absurd hi (by omega)⟩, fun i hi => absurd hi (by omega)⟩
end Go.Proofs.YtlckjbangdnejaaDoor
