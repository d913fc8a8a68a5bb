/-
  How a list of lists of bytes that is handed in is read, with the reach of each.
-/
import Derived.Test.YtlckjbangdnejaaDoorXtArg
set_option linter.unusedSimpArgs false
set_option linter.unusedVariables false
namespace Go.Proofs.YtlckjbangdnejaaDoor
open Go.ChangeShapes Go.WideShapes Go.ChangeAt Go.RowKit Go.Deep Classical
theorem elem_len {H : Type} {enc : TypeId × Value → H} {W : World} {n : Nat} {v : Value} {x : DataW H × List MemPlace}
    (h : DataW.trod enc Tryd.prog W 0 (fun _ => true) true n 28 [v] = some x) :
    ∀ (a : Option Addr) (len cap : Nat), v = .slice a len cap → len = 0 ∨ ∃ el sp, x.1 = .slice el sp ∧ el.length = len := by
  intro a len cap hv
  rcases open_ints Tryd.underlying28 Tryd.underlying5 (by kernel_rfl) h with ⟨hcs, _⟩ | ⟨x, l, c, zs, hcs, _, hl, hm, hz, hx, hcell, hwz⟩
  · simp only [List.cons.injEq, and_true] at hcs
    rw [hcs] at hv
    cases hv
    exact .inl rfl
  · simp only [List.cons.injEq, and_true] at hcs
    rw [hcs] at hv
    cases hv
    simp only [if_true] at hz
    rw [hx]
    exact .inr ⟨_, _, rfl, by simp [lits]; omega⟩
theorem weightsAll_in {H : Type} {P : Program} {e : TypeId} : ∀ {l : List (DataW H)} {d : DataW H}, d ∈ l → ∀ n ∈ d.weights P e, n ∈ DataW.weightsAll P e l
  | d' :: r, d, hd, n, hn => by
    simp only [DataW.weightsAll, List.mem_append]
    rcases List.mem_cons.1 hd with rfl | h
    · exact Or.inl hn
    · exact Or.inr (weightsAll_in h n hn)
/-- A list within a list is no greater than what may be handed in. -/
theorem inner_len {H : Type} {ts : List TypeId} {ds : List (DataW H)} (h : (DataW.weightsEach Tryd.prog ts ds).all (· ≤ reachBytes) = true) {j : Nat} {elems spare e' sp' : List (DataW H)}
    (ht : ts[j]? = some 22) (hd : ds[j]? = some (.slice elems spare)) (hx : DataW.slice e' sp' ∈ elems) : e'.length ≤ 140737488351232 := by
  have := of_decide_eq_true (List.all_eq_true.1 h ((e'.length + sp'.length) * Tryd.prog.bytesOf 5) (DataW.weights_mem_each ht hd _ (by
    simp only [DataW.weights, Tryd.underlying22, List.mem_cons, List.mem_append]
    exact Or.inr (Or.inl (weightsAll_in hx _ (by simp [DataW.weights, Tryd.underlying28]))))))
  rw [bytes5] at this
  simp only [reachBytes] at this
  omega
theorem als_reach {H : Type} {enc : TypeId × Value → H} {W : World} {a : Option Addr} {len cap : Nat} {d : DataW H} {p : List MemPlace} {ts : List TypeId} {ds : List (DataW H)} {j : Nat}
    (h : DataW.Trod enc Tryd.prog W 0 (fun _ => true) true 22 (Value.slice a len cap) d p)
    (hsz : (DataW.weightsEach Tryd.prog ts ds).all (· ≤ reachBytes) = true) (ht : ts[j]? = some 22) (hd : ds[j]? = some d) :
    ∃ (E : Nat → Option Addr) (C : Nat → Nat) (L : Nat → List Nat) (b o : Nat), len ≤ 5864062014634 ∧ Als W a len E C L b o ∧ ∀ i, i < len → (L i).length ≤ 140737488351232 := by
  obtain ⟨fuel, hf⟩ := h
  rcases open_slice1 Tryd.underlying22 (by kernel_rfl) hf with ⟨hcs, _⟩ | ⟨x, l, c, m, n, V, D, Pl, hcs, _, hl, hm, hmm, hx0, hx⟩
  · simp [Value.cells] at hcs
    obtain ⟨rfl, rfl, rfl⟩ := hcs
    exact ⟨fun _ => none, fun _ => 0, fun _ => [], 0, 0, by decide, ⟨fun h => absurd h (by decide), fun i hi => absurd hi (by omega), fun i hi => absurd hi (by omega)⟩, fun i hi => absurd hi (by omega)⟩
  · simp [Value.cells] at hcs
    obtain ⟨rfl, rfl, rfl⟩ := hcs
    rw [Prod.mk.injEq] at hx0
    obtain ⟨rfl, -⟩ := hx0
    have hb := sized_slice hsz ht hd Tryd.underlying22
    rw [bytes24] at hb
    simp only [List.length_map, List.length_range, reachBytes] at hb
    simp only [if_true] at hmm
    subst hmm
    obtain ⟨q, hq⟩ := choose_lt (fun i (hi : i < len) => elem_of (hx i (by omega)).2)
    obtain ⟨xb, xo, xs⟩ := x
    by_cases hz : 0 < len
    · have h0 := (hx 0 (by omega)).1
      have hs : xs = none := by simpa [Addr.add] using World.cell?_spot h0
      subst hs
      refine ⟨fun i => (q i).1, fun i => (q i).2.1, fun i => (q i).2.2, xb, xo, by omega, ⟨fun _ => rfl, fun i hi => ?_, fun i hi => (hq i hi).2⟩, fun i hi => ?_⟩
      · have := (hx i (by omega)).1
        rw [Addr.add_lit, (hq i hi).1] at this
        exact this
      · rcases elem_len (hx i (by omega)).2 _ _ _ (hq i hi).1 with h | ⟨el, sp, h1, h2⟩
        · simp only [h]; omega
        · have h3 := inner_len hsz ht hd (e' := el) (sp' := sp) (List.mem_map.2 ⟨i, List.mem_range.2 hi, h1⟩)
          simp only [← h2]; exact h3
    · exact ⟨fun _ => none, fun _ => 0, fun _ => [], 0, 0, by omega, ⟨fun h => absurd h hz, fun i hi => absurd hi (by omega), fun i hi => absurd hi (by omega)⟩, fun i hi => absurd hi (by omega)⟩
end Go.Proofs.YtlckjbangdnejaaDoor
