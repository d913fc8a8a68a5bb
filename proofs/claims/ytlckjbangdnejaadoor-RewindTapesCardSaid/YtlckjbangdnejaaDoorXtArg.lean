/-
  How a list of lists of bytes that is handed in is read.
-/
import Derived.Test.YtlckjbangdnejaaDoorXtRoomS
import Derived.Test.YtlckjbangdnejaaDoorXwOpen
import Derived.Deep.Slices
set_option linter.unusedSimpArgs false
set_option linter.unusedVariables false
namespace Go.Proofs.YtlckjbangdnejaaDoor
open Go.ChangeShapes Go.WideShapes Go.ChangeAt Go.RowKit Go.Deep Classical
theorem bytes24 : Tryd.prog.bytesOf 28 = 24 := by kernel_rfl
theorem elem_of {H : Type} {enc : TypeId × Value → H} {W : World} {n : Nat} {v : Value} {x : DataW H × List MemPlace}
    (h : DataW.trod enc Tryd.prog W 0 (fun _ => true) true n 28 [v] = some x) :
    ∃ q : Option Addr × Nat × List Nat, v = .slice q.1 q.2.2.length q.2.1 ∧ Row W q.1 q.2.2 ∧ Bytes q.2.2 ∧ q.2.2.length ≤ 9223372036854775807 := by
  rcases open_ints Tryd.underlying28 Tryd.underlying5 (by kernel_rfl) h with ⟨hcs, _⟩ | ⟨x, l, c, zs, hcs, _, hl, hm, hz, hx, hcell, hwz⟩
  · simp only [List.cons.injEq, and_true] at hcs
    exact ⟨(none, 0, []), hcs, .inl rfl, (fun _ h => by cases h), by decide⟩
  · simp only [List.cons.injEq, and_true] at hcs
    simp only [if_true] at hz
    have hw : ∀ n ∈ zs, 0 ≤ n ∧ n ≤ 255 := by
      intro n hn
      have := hwz n hn
      simp [Lit.wf, IntKind.min, IntKind.max, IntKind.signed, IntKind.bits] at this
      omega
    have hm9 : c ≤ 9223372036854775807 := hm
    have hlen : ((zs.take l).map Int.toNat).length = l := by simp; omega
    refine ⟨(some x, c, (zs.take l).map Int.toNat), by rw [hcs]; simp only [hlen], ?_, ?_, by simp only [hlen]; omega⟩
    · by_cases h0 : l = 0
      · exact .inl (by simp [h0])
      · obtain ⟨b, off, spot⟩ := x
        have hc := hcell 0 (by omega)
        have hspot : spot = none := by simpa [Addr.add] using World.cell?_spot hc
        subst hspot
        refine .inr ⟨b, off, rfl, fun i hi => ?_⟩
        have hi' : i < l := by simp only [hlen] at hi; exact hi
        have hzi : i < zs.length := by omega
        have := hcell i (by omega)
        rw [Addr.add_lit] at this
        rw [this]
        have e : zs.getD i 0 = ((((zs.take l).map Int.toNat).getD i 0 : Nat) : Int) := by
          have h1 := hw zs[i] (List.getElem_mem hzi)
          simp [hi', hzi]
          omega
        rw [e]
    · intro y hy
      simp only [List.mem_map] at hy
      obtain ⟨z, hz', rfl⟩ := hy
      have := hw z (List.mem_of_mem_take hz')
      omega
theorem als_of {H : Type} {enc : TypeId × Value → H} {W : World} {a : Option Addr} {len cap : Nat} {d : DataW H} {p : List MemPlace} {ts : List TypeId} {ds : List (DataW H)} {j : Nat}
    (h : DataW.Trod enc Tryd.prog W 0 (fun _ => true) true 22 (Value.slice a len cap) d p)
    (hsz : (DataW.weightsEach Tryd.prog ts ds).all (· ≤ reachBytes) = true) (ht : ts[j]? = some 22) (hd : ds[j]? = some d) :
    ∃ (E : Nat → Option Addr) (C : Nat → Nat) (L : Nat → List Nat) (b o : Nat), len ≤ 140737488355328 ∧ Als W a len E C L b o := by
  obtain ⟨fuel, hf⟩ := h
  rcases open_slice1 Tryd.underlying22 (by kernel_rfl) hf with ⟨hcs, _⟩ | ⟨x, l, c, m, n, V, D, Pl, hcs, _, hl, hm, hmm, hx0, hx⟩
  · simp [Value.cells] at hcs
    obtain ⟨rfl, rfl, rfl⟩ := hcs
    exact ⟨fun _ => none, fun _ => 0, fun _ => [], 0, 0, by decide, ⟨fun h => absurd h (by decide), fun i hi => absurd hi (by omega), fun i hi => absurd hi (by omega)⟩⟩
  · simp [Value.cells] at hcs
    obtain ⟨rfl, rfl, rfl⟩ := hcs
    rw [Prod.mk.injEq] at hx0
    obtain ⟨rfl, -⟩ := hx0
    have hb := sized_slice hsz ht hd Tryd.underlying22
    rw [bytes24] at hb
    simp only [List.length_map, List.length_range, reachBytes] at hb
    simp only [if_true] at hmm
    subst hmm
    obtain ⟨q, hq⟩ := choose_lt (fun i (hi : i < len) => elem_of (hx i (by omega)).2)
    obtain ⟨xb, xo, xs⟩ := x
    by_cases hz : 0 < len
    · have h0 := (hx 0 (by omega)).1
      have hs : xs = none := by simpa [Addr.add] using World.cell?_spot h0
      subst hs
      refine ⟨fun i => (q i).1, fun i => (q i).2.1, fun i => (q i).2.2, xb, xo, by omega, ⟨fun _ => rfl, fun i hi => ?_, fun i hi => (hq i hi).2⟩⟩
      have := (hx i (by omega)).1
      rw [Addr.add_lit, (hq i hi).1] at this
      exact this
    · exact ⟨fun _ => none, fun _ => 0, fun _ => [], 0, 0, by omega, ⟨fun h => absurd h hz, fun i hi => absurd hi (by omega), fun i hi => absurd hi (by omega)⟩⟩
end Go.Proofs.YtlckjbangdnejaaDoor
