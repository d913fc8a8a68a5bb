/-
  How what is handed in is read; conditions: those of the row.
-/
import Derived.Test.YtkebkbiabdlomaaDoorXTB
import Derived.ProofKit
import Derived.OpenShut
import Derived.ChangeOld
import Derived.Below
import Derived.Carry
import Derived.Deep.Slices
import Derived.Deep.SlicePairs
set_option linter.unusedSimpArgs false
set_option linter.unusedVariables false
namespace Go.Proofs.YtkebkbiabdlomaaDoor
open Go.ChangeShapes Go.WideShapes Go.ChangeAt Go.RowKit Go.Deep Classical
theorem own : ownKnob Tryd.prog.godebug = none := by kernel_rfl
theorem laidOut : laidOutB Tryd.prog = true := by kernel_rfl
theorem cellsI : Tryd.prog.cellsOf 3 = 1 := by kernel_rfl
theorem cellsU : Tryd.prog.cellsOf 5 = 1 := by kernel_rfl
theorem cellsBo : Tryd.prog.cellsOf 4 = 1 := by kernel_rfl
theorem wf8 {n : Int} (h : (Lit.int .u8 n).wf = true) : 0 ≤ n ∧ n ≤ 255 := by
  simp [Lit.wf, IntKind.min, IntKind.max, IntKind.signed, IntKind.bits] at h
  omega
theorem cellsU32 : Tryd.prog.cellsOf 23 = 1 := by kernel_rfl
theorem wf32 {n : Int} (h : (Lit.int .u32 n).wf = true) : 0 ≤ n ∧ n ≤ 4294967295 := by
  simp [Lit.wf, IntKind.min, IntKind.max, IntKind.signed, IntKind.bits] at h
  omega
theorem wf64 {n : Int} (h : (Lit.int .i64 n).wf = true) : -9223372036854775808 ≤ n ∧ n ≤ 9223372036854775807 := by
  simp [Lit.wf, IntKind.min, IntKind.max, IntKind.signed, IntKind.bits] at h
  omega
theorem cells_turns : Tryd.prog.cellsOf 25 = 5 := by kernel_rfl
set_option maxRecDepth 100000 in
theorem turns_of {H : Type} {enc : TypeId × Value → H} {W : World} {base : Nat} {v : Value} {d : DataW H} {p : List MemPlace}
    (hv : Value.okWide Tryd.prog W .any base 22 v) (h : DataW.Trod enc Tryd.prog W 0 (fun _ => true) true 22 v d p) :
    ∃ (a : Option Addr) (len cap : Nat) (q : Nat → TuE) (b o : Nat), v = .slice a len cap ∧ len ≤ 9223372036854775807 ∧ Tu W a len q b o := by
  obtain ⟨a, len, cap, rfl⟩ := okWide_slice Tryd.underlying22 hv
  obtain ⟨fuel, hf⟩ := h
  have z : TuE := ⟨0, 0, 0, false, false⟩
  rcases open_slice Tryd.underlying22 hf with ⟨hcs, _⟩ | ⟨x, l, c, m, n, D, Pl, hcs, _, hl, hm, hmm, _, hx⟩
  · simp [Value.cells] at hcs
    obtain ⟨rfl, rfl, rfl⟩ := hcs
    exact ⟨none, 0, 0, fun _ => z, 0, 0, rfl, by decide, ⟨fun h => absurd h (by decide), fun i hi => absurd hi (by omega), fun i hi => absurd hi (by omega)⟩⟩
  · simp [Value.cells] at hcs
    obtain ⟨rfl, rfl, rfl⟩ := hcs
    simp only [if_true] at hmm
    subst hmm
    have each : ∀ i, i < len → ∃ y : TuE, (∀ j v, y.cells.toList[j]? = some v → W.cell? (x.add (i * 5 + j)) = some v) ∧ y.Ok := by
      intro i hi
      obtain ⟨cs', h1, h2⟩ := hx i (by omega)
      rw [cells_turns] at h1
      obtain ⟨_, hlen, hcell⟩ := World.cells?_some h1
      obtain ⟨xs, k, _, _, _, hxl, hfld⟩ := DataW.trod_struct Tryd.underlying25 h2
      have hxl' : xs.length = 5 := hxl
      match xs, hxl', cs', hlen with
      | [y0, y1, y2, y3, y4], _, [v0, v1, v2, v3, v4], _ =>
        have g0 : DataW.trod enc Tryd.prog W 0 (fun _ => true) true k 23 [v0] = some y0 := by
          have := hfld 0 _ rfl
          have e : [v0] = (([v0, v1, v2, v3, v4] : List Value).drop 0).take (Tryd.prog.cellsOf 23) := by rw [cellsU32]; rfl
          rw [e]; exact this
        obtain ⟨n0, e0, -, w0⟩ := DataW.trod_int Tryd.underlying23 g0
        have g1 : DataW.trod enc Tryd.prog W 0 (fun _ => true) true k 5 [v1] = some y1 := by
          have := hfld 1 _ rfl
          have e : [v1] = (([v0, v1, v2, v3, v4] : List Value).drop 1).take (Tryd.prog.cellsOf 5) := by rw [cellsU]; rfl
          rw [e]; exact this
        obtain ⟨n1, e1, -, w1⟩ := DataW.trod_int Tryd.underlying5 g1
        have g2 : DataW.trod enc Tryd.prog W 0 (fun _ => true) true k 5 [v2] = some y2 := by
          have := hfld 2 _ rfl
          have e : [v2] = (([v0, v1, v2, v3, v4] : List Value).drop 2).take (Tryd.prog.cellsOf 5) := by rw [cellsU]; rfl
          rw [e]; exact this
        obtain ⟨n2, e2, -, w2⟩ := DataW.trod_int Tryd.underlying5 g2
        have g3 : DataW.trod enc Tryd.prog W 0 (fun _ => true) true k 4 [v3] = some y3 := by
          have := hfld 3 _ rfl
          have e : [v3] = (([v0, v1, v2, v3, v4] : List Value).drop 3).take (Tryd.prog.cellsOf 4) := by rw [cellsBo]; rfl
          rw [e]; exact this
        obtain ⟨n3, e3, -⟩ := DataW.trod_bool Tryd.underlying4 g3
        have g4 : DataW.trod enc Tryd.prog W 0 (fun _ => true) true k 4 [v4] = some y4 := by
          have := hfld 4 _ rfl
          have e : [v4] = (([v0, v1, v2, v3, v4] : List Value).drop 4).take (Tryd.prog.cellsOf 4) := by rw [cellsBo]; rfl
          rw [e]; exact this
        obtain ⟨n4, e4, -⟩ := DataW.trod_bool Tryd.underlying4 g4
        simp only [List.cons.injEq, and_true] at e0 e1 e2 e3 e4
        subst e0 e1 e2 e3 e4
        refine ⟨⟨n0, n1, n2, n3, n4⟩, fun j v hj => ?_, ⟨(wf32 w0).1, (wf32 w0).2, (wf8 w1).1, (wf8 w1).2, (wf8 w2).1, (wf8 w2).2⟩⟩
        have hj' : j < 5 := by
          have := (List.getElem?_eq_some_iff.1 hj).1
          simpa [TuE.cells] using this
        have c0 := hcell j (by simpa using hj')
        rw [add_add] at c0
        rw [c0]
        exact hj
    obtain ⟨q, hq⟩ : ∃ q : Nat → TuE, ∀ i, i < len → (∀ j v, (q i).cells.toList[j]? = some v → W.cell? (x.add (i * 5 + j)) = some v) ∧ (q i).Ok :=
      ⟨fun i => @Classical.epsilon TuE ⟨z⟩ fun y => (∀ j v, y.cells.toList[j]? = some v → W.cell? (x.add (i * 5 + j)) = some v) ∧ y.Ok, fun i hi => Classical.epsilon_spec (each i hi)⟩
    obtain ⟨xb, xo, xs⟩ := x
    by_cases hz : 0 < len
    · have h0 := (hq 0 hz).1 0 _ rfl
      have hs : xs = none := by
        have := World.cell?_spot (a := (⟨xb, xo, xs⟩ : Addr)) (by simpa [Addr.add] using h0)
        exact this
      subst hs
      have hb : xb < W.heap.size := cell_lt (p := ⟨xb, xo, none⟩) (by simpa [Addr.add] using h0)
      refine ⟨_, len, _, q, xb, xo, rfl, (by have hm9 : maxLen ≤ 9223372036854775807 := (by decide); omega), ⟨fun _ => ⟨rfl, hb⟩, fun i hi j v hj => ?_, fun i hi => (hq i hi).2⟩⟩
      have a0 := (hq i hi).1 j v hj
      rw [add_plain] at a0
      rw [Nat.add_assoc]
      exact a0
    · exact ⟨_, len, _, q, 0, 0, rfl, by omega, ⟨fun h => absurd h hz, fun i hi => absurd hi (by omega), fun i hi => absurd hi (by omega)⟩⟩
end Go.Proofs.YtkebkbiabdlomaaDoor
