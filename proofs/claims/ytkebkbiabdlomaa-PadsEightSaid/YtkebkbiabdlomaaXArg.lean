/-
  How what is handed in is read; conditions: those of the row.
-/
import Derived.Test.YtkebkbiabdlomaaXBase
import Derived.ProofKit
import Derived.OpenShut
import Derived.ChangeOld
import Derived.Below
import Derived.Carry
import Derived.Deep.Slices
import Derived.Deep.SlicePairs
set_option linter.unusedSimpArgs false
set_option linter.unusedVariables false
namespace Go.Proofs.Ytkebkbiabdlomaa
open Go.ChangeShapes Go.WideShapes Go.ChangeAt Go.RowKit Go.Deep Classical
theorem own : ownKnob Try.prog.godebug = none := by kernel_rfl
theorem laidOut : laidOutB Try.prog = true := by kernel_rfl
theorem cellsI : Try.prog.cellsOf 3 = 1 := by kernel_rfl
theorem cellsU : Try.prog.cellsOf 5 = 1 := by kernel_rfl
theorem cellsBo : Try.prog.cellsOf 4 = 1 := by kernel_rfl
theorem wf8 {n : Int} (h : (Lit.int .u8 n).wf = true) : 0 ≤ n ∧ n ≤ 255 := by
  simp [Lit.wf, IntKind.min, IntKind.max, IntKind.signed, IntKind.bits] at h
  omega
theorem wf64 {n : Int} (h : (Lit.int .i64 n).wf = true) : -9223372036854775808 ≤ n ∧ n ≤ 9223372036854775807 := by
  simp [Lit.wf, IntKind.min, IntKind.max, IntKind.signed, IntKind.bits] at h
  omega
theorem cellsP : Try.prog.cellsOf 25 = 5 := by kernel_rfl
theorem cells2 : Try.prog.cellsOf 23 = 2 := by kernel_rfl
theorem list5 {l : List Value} (h : l.length = 5) : ∃ c0 c1 c2 c3 c4, l = [c0, c1, c2, c3, c4] := by
  match l, h with
  | [c0, c1, c2, c3, c4], _ => exact ⟨_, _, _, _, _, rfl⟩
theorem two_of {H : Type} {enc : TypeId × Value → H} {W : World} {n : Nat} {c0 c1 : Value} {x : DataW H × List MemPlace}
    (h : DataW.trod enc Try.prog W 0 (fun _ => true) true n 23 [c0, c1] = some x) : ∃ a b : Int, c0 = .int .u8 a ∧ c1 = .int .u8 b ∧ (0 ≤ a ∧ a ≤ 255) ∧ 0 ≤ b ∧ b ≤ 255 := by
  obtain ⟨ys, n', -, -, -, hyl, hys⟩ := DataW.trod_array Try.underlying23 h
  have g0 : DataW.trod enc Try.prog W 0 (fun _ => true) true n' 5 [c0] = some (ys[0]'(by omega)) := by
    have := hys 0 (by omega)
    rw [List.getElem?_eq_getElem (show 0 < ys.length by omega)] at this
    have e : [c0] = (([c0, c1] : List Value).drop (0 * Try.prog.cellsOf 5)).take (Try.prog.cellsOf 5) := by rw [cellsU]; rfl
    rw [e]; exact this
  have g1 : DataW.trod enc Try.prog W 0 (fun _ => true) true n' 5 [c1] = some (ys[1]'(by omega)) := by
    have := hys 1 (by omega)
    rw [List.getElem?_eq_getElem (show 1 < ys.length by omega)] at this
    have e : [c1] = (([c0, c1] : List Value).drop (1 * Try.prog.cellsOf 5)).take (Try.prog.cellsOf 5) := by rw [cellsU]; rfl
    rw [e]; exact this
  obtain ⟨r0, e0, -, w0⟩ := DataW.trod_int Try.underlying5 g0
  obtain ⟨r1, e1, -, w1⟩ := DataW.trod_int Try.underlying5 g1
  simp only [List.cons.injEq, and_true] at e0 e1
  exact ⟨r0, r1, e0, e1, wf8 w0, wf8 w1⟩
theorem pads_of {H : Type} {enc : TypeId × Value → H} {W : World} {base : Nat} {v : Value} {d : DataW H} {p : List MemPlace}
    (hv : Value.okWide Try.prog W .any base 25 v) (h : DataW.Trod enc Try.prog W 0 (fun _ => true) true 25 v d p) :
    ∃ c : Pd, c.Ok ∧ v = .agg c.cells := by
  obtain ⟨cs, rfl, hcs⟩ := okWide_struct Try.underlying25 hv
  rw [cellsP] at hcs
  obtain ⟨l⟩ := cs
  obtain ⟨c0, c1, c2, c3, c4, rfl⟩ := list5 (l := l) (by simpa using hcs)
  obtain ⟨fuel, hf⟩ := h
  obtain ⟨xs, n, _, -, -, hxl, hfld⟩ := DataW.trod_struct Try.underlying25 hf
  have hxl' : xs.length = 3 := hxl
  have f0 : DataW.trod enc Try.prog W 0 (fun _ => true) true n 4 [c0] = some (xs[0]'(by omega)) := by
    have := hfld 0 _ rfl
    rw [List.getElem?_eq_getElem (show 0 < xs.length by omega)] at this
    have e : [c0] = (([c0, c1, c2, c3, c4] : List Value).drop 0).take (Try.prog.cellsOf 4) := by rw [cellsBo]; rfl
    rw [e]; exact this
  have f1 : DataW.trod enc Try.prog W 0 (fun _ => true) true n 23 [c1, c2] = some (xs[1]'(by omega)) := by
    have := hfld 1 _ rfl
    rw [List.getElem?_eq_getElem (show 1 < xs.length by omega)] at this
    have e : [c1, c2] = (([c0, c1, c2, c3, c4] : List Value).drop 1).take (Try.prog.cellsOf 23) := by rw [cells2]; rfl
    rw [e]; exact this
  have f2 : DataW.trod enc Try.prog W 0 (fun _ => true) true n 23 [c3, c4] = some (xs[2]'(by omega)) := by
    have := hfld 2 _ rfl
    rw [List.getElem?_eq_getElem (show 2 < xs.length by omega)] at this
    have e : [c3, c4] = (([c0, c1, c2, c3, c4] : List Value).drop 3).take (Try.prog.cellsOf 23) := by rw [cells2]; rfl
    rw [e]; exact this
  obtain ⟨v0, e, -⟩ := DataW.trod_bool Try.underlying4 f0
  simp only [List.cons.injEq, and_true] at e
  subst e
  obtain ⟨a, b, rfl, rfl, ha, hb⟩ := two_of f1
  obtain ⟨e, g, rfl, rfl, he, hg⟩ := two_of f2
  exact ⟨⟨v0, a, b, e, g⟩, ⟨ha.1, ha.2, hb.1, hb.2, he.1, he.2, hg.1, hg.2⟩, rfl⟩
/-- The list's bytes in memory. -/
structure U8s (W : World) (a : Option Addr) (len : Nat) (q : Nat → Int) (b o : Nat) : Prop where
  at_ : 0 < len → a = some ⟨b, o, none⟩ ∧ b < W.heap.size
  cells : ∀ i, i < len → W.cell? ⟨b, o + i, none⟩ = some (.int .u8 (q i))
  ok : ∀ i, i < len → 0 ≤ q i ∧ q i ≤ 255
set_option maxRecDepth 100000 in
theorem u8s_of {H : Type} {enc : TypeId × Value → H} {W : World} {base : Nat} {v : Value} {d : DataW H} {p : List MemPlace}
    (hv : Value.okWide Try.prog W .any base 22 v) (h : DataW.Trod enc Try.prog W 0 (fun _ => true) true 22 v d p) :
    ∃ (a : Option Addr) (len cap : Nat) (q : Nat → Int) (b o : Nat), v = .slice a len cap ∧ len ≤ 9223372036854775807 ∧ U8s W a len q b o := by
  obtain ⟨a, len, cap, rfl⟩ := okWide_slice Try.underlying22 hv
  obtain ⟨fuel, hf⟩ := h
  rcases open_slice Try.underlying22 hf with ⟨hcs, _⟩ | ⟨x, l, c, m, n, D, Pl, hcs, _, hl, hm, hmm, _, hx⟩
  · simp [Value.cells] at hcs
    obtain ⟨rfl, rfl, rfl⟩ := hcs
    exact ⟨none, 0, 0, fun _ => 0, 0, 0, rfl, by decide, ⟨fun h => absurd h (by decide), fun i hi => absurd hi (by omega), fun i hi => absurd hi (by omega)⟩⟩
  · simp [Value.cells] at hcs
    obtain ⟨rfl, rfl, rfl⟩ := hcs
    simp only [if_true] at hmm
    subst hmm
    have each : ∀ i, i < len → ∃ y : Int, W.cell? (x.add i) = some (.int .u8 y) ∧ 0 ≤ y ∧ y ≤ 255 := by
      intro i hi
      obtain ⟨cs', h1, h2⟩ := hx i (by omega)
      rw [cellsU] at h1
      obtain ⟨_, hlen, hcell⟩ := World.cells?_some h1
      obtain ⟨n0, e0, -, w0⟩ := DataW.trod_int Try.underlying5 h2
      subst e0
      have c0 := hcell 0 (by simp)
      rw [add_add] at c0
      exact ⟨n0, by simpa using c0, wf8 w0⟩
    obtain ⟨q, hq⟩ : ∃ q : Nat → Int, ∀ i, i < len → W.cell? (x.add i) = some (.int .u8 (q i)) ∧ 0 ≤ q i ∧ q i ≤ 255 :=
      ⟨fun i => Classical.epsilon fun y : Int => W.cell? (x.add i) = some (.int .u8 y) ∧ 0 ≤ y ∧ y ≤ 255, fun i hi => Classical.epsilon_spec (each i hi)⟩
    obtain ⟨xb, xo, xs⟩ := x
    by_cases hz : 0 < len
    · have h0 := (hq 0 hz).1
      have hs : xs = none := by
        have := World.cell?_spot (a := (⟨xb, xo, xs⟩ : Addr)) (by simpa [Addr.add] using h0)
        exact this
      subst hs
      have hb : xb < W.heap.size := cell_lt (p := ⟨xb, xo, none⟩) (by simpa [Addr.add] using h0)
      refine ⟨_, len, _, q, xb, xo, rfl, (by have hm9 : maxLen ≤ 9223372036854775807 := (by decide); omega), ⟨fun _ => ⟨rfl, hb⟩, fun i hi => ?_, fun i hi => (hq i hi).2⟩⟩
      have a0 := (hq i hi).1
      rw [add_plain] at a0
      exact a0
    · exact ⟨_, len, _, q, 0, 0, rfl, by omega, ⟨fun h => absurd h hz, fun i hi => absurd hi (by omega), fun i hi => absurd hi (by omega)⟩⟩
theorem cells_moves : Try.prog.cellsOf 36 = 4 := by kernel_rfl
/-- An element. -/
structure MvE where
  kind : Int
  a : Int
  b : Int
  port : Int
def MvE.cells (x : MvE) : Array Value := #[.int .i64 x.kind, .int .u8 x.a, .int .u8 x.b, .int .i64 x.port]
/-- Its numbers fit. -/
structure MvE.Ok (x : MvE) : Prop where
  kind0 : -9223372036854775808 ≤ x.kind
  kind1 : x.kind ≤ 9223372036854775807
  a0 : 0 ≤ x.a
  a1 : x.a ≤ 255
  b0 : 0 ≤ x.b
  b1 : x.b ≤ 255
  port0 : -9223372036854775808 ≤ x.port
  port1 : x.port ≤ 9223372036854775807
/-- The list's elements in memory. -/
structure Mv (W : World) (a : Option Addr) (len : Nat) (q : Nat → MvE) (b o : Nat) : Prop where
  at_ : 0 < len → a = some ⟨b, o, none⟩ ∧ b < W.heap.size
  cells : ∀ i, i < len → W.rangeAt b (o + i * 4) (q i).cells.toList
  ok : ∀ i, i < len → (q i).Ok
set_option maxRecDepth 100000 in
theorem moves_of {H : Type} {enc : TypeId × Value → H} {W : World} {base : Nat} {v : Value} {d : DataW H} {p : List MemPlace}
    (hv : Value.okWide Try.prog W .any base 34 v) (h : DataW.Trod enc Try.prog W 0 (fun _ => true) true 34 v d p) :
    ∃ (a : Option Addr) (len cap : Nat) (q : Nat → MvE) (b o : Nat), v = .slice a len cap ∧ len ≤ 9223372036854775807 ∧ Mv W a len q b o := by
  obtain ⟨a, len, cap, rfl⟩ := okWide_slice Try.underlying34 hv
  obtain ⟨fuel, hf⟩ := h
  have z : MvE := ⟨0, 0, 0, 0⟩
  rcases open_slice Try.underlying34 hf with ⟨hcs, _⟩ | ⟨x, l, c, m, n, D, Pl, hcs, _, hl, hm, hmm, _, hx⟩
  · simp [Value.cells] at hcs
    obtain ⟨rfl, rfl, rfl⟩ := hcs
    exact ⟨none, 0, 0, fun _ => z, 0, 0, rfl, by decide, ⟨fun h => absurd h (by decide), fun i hi => absurd hi (by omega), fun i hi => absurd hi (by omega)⟩⟩
  · simp [Value.cells] at hcs
    obtain ⟨rfl, rfl, rfl⟩ := hcs
    simp only [if_true] at hmm
    subst hmm
    have each : ∀ i, i < len → ∃ y : MvE, (∀ j v, y.cells.toList[j]? = some v → W.cell? (x.add (i * 4 + j)) = some v) ∧ y.Ok := by
      intro i hi
      obtain ⟨cs', h1, h2⟩ := hx i (by omega)
      rw [cells_moves] at h1
      obtain ⟨_, hlen, hcell⟩ := World.cells?_some h1
      obtain ⟨xs, k, _, _, _, hxl, hfld⟩ := DataW.trod_struct Try.underlying36 h2
      have hxl' : xs.length = 4 := hxl
      match xs, hxl', cs', hlen with
      | [y0, y1, y2, y3], _, [v0, v1, v2, v3], _ =>
        have g0 : DataW.trod enc Try.prog W 0 (fun _ => true) true k 3 [v0] = some y0 := by
          have := hfld 0 _ rfl
          have e : [v0] = (([v0, v1, v2, v3] : List Value).drop 0).take (Try.prog.cellsOf 3) := by rw [cellsI]; rfl
          rw [e]; exact this
        obtain ⟨n0, e0, -, w0⟩ := DataW.trod_int Try.underlying3 g0
        have g1 : DataW.trod enc Try.prog W 0 (fun _ => true) true k 5 [v1] = some y1 := by
          have := hfld 1 _ rfl
          have e : [v1] = (([v0, v1, v2, v3] : List Value).drop 1).take (Try.prog.cellsOf 5) := by rw [cellsU]; rfl
          rw [e]; exact this
        obtain ⟨n1, e1, -, w1⟩ := DataW.trod_int Try.underlying5 g1
        have g2 : DataW.trod enc Try.prog W 0 (fun _ => true) true k 5 [v2] = some y2 := by
          have := hfld 2 _ rfl
          have e : [v2] = (([v0, v1, v2, v3] : List Value).drop 2).take (Try.prog.cellsOf 5) := by rw [cellsU]; rfl
          rw [e]; exact this
        obtain ⟨n2, e2, -, w2⟩ := DataW.trod_int Try.underlying5 g2
        have g3 : DataW.trod enc Try.prog W 0 (fun _ => true) true k 3 [v3] = some y3 := by
          have := hfld 3 _ rfl
          have e : [v3] = (([v0, v1, v2, v3] : List Value).drop 3).take (Try.prog.cellsOf 3) := by rw [cellsI]; rfl
          rw [e]; exact this
        obtain ⟨n3, e3, -, w3⟩ := DataW.trod_int Try.underlying3 g3
        simp only [List.cons.injEq, and_true] at e0 e1 e2 e3
        subst e0 e1 e2 e3
        refine ⟨⟨n0, n1, n2, n3⟩, fun j v hj => ?_, ⟨(wf64 w0).1, (wf64 w0).2, (wf8 w1).1, (wf8 w1).2, (wf8 w2).1, (wf8 w2).2, (wf64 w3).1, (wf64 w3).2⟩⟩
        have hj' : j < 4 := by
          have := (List.getElem?_eq_some_iff.1 hj).1
          simpa [MvE.cells] using this
        have c0 := hcell j (by simpa using hj')
        rw [add_add] at c0
        rw [c0]
        exact hj
    obtain ⟨q, hq⟩ : ∃ q : Nat → MvE, ∀ i, i < len → (∀ j v, (q i).cells.toList[j]? = some v → W.cell? (x.add (i * 4 + j)) = some v) ∧ (q i).Ok :=
      ⟨fun i => @Classical.epsilon MvE ⟨z⟩ fun y => (∀ j v, y.cells.toList[j]? = some v → W.cell? (x.add (i * 4 + j)) = some v) ∧ y.Ok, fun i hi => Classical.epsilon_spec (each i hi)⟩
    obtain ⟨xb, xo, xs⟩ := x
    by_cases hz : 0 < len
    · have h0 := (hq 0 hz).1 0 _ rfl
      have hs : xs = none := by
        have := World.cell?_spot (a := (⟨xb, xo, xs⟩ : Addr)) (by simpa [Addr.add] using h0)
        exact this
      subst hs
      have hb : xb < W.heap.size := cell_lt (p := ⟨xb, xo, none⟩) (by simpa [Addr.add] using h0)
      refine ⟨_, len, _, q, xb, xo, rfl, (by have hm9 : maxLen ≤ 9223372036854775807 := (by decide); omega), ⟨fun _ => ⟨rfl, hb⟩, fun i hi j v hj => ?_, fun i hi => (hq i hi).2⟩⟩
      have a0 := (hq i hi).1 j v hj
      rw [add_plain] at a0
      rw [Nat.add_assoc]
      exact a0
    · exact ⟨_, len, _, q, 0, 0, rfl, by omega, ⟨fun h => absurd h hz, fun i hi => absurd hi (by omega), fun i hi => absurd hi (by omega)⟩⟩
end Go.Proofs.Ytkebkbiabdlomaa
