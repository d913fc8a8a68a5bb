/-
  How a step and a list of steps that are handed in are read; conditions: those of the row.
-/
import Derived.Test.YtggphgmpdanliaaMArg
import Derived.Test.YtggphgmpdanliaaYG
import Derived.Deep.Slices
import Derived.Deep.SlicePairs
set_option linter.unusedSimpArgs false
set_option linter.unusedVariables false
namespace Go.Proofs.Ytggphgmpdanliaa
open Go.ChangeShapes Go.WideShapes Go.ChangeAt Go.RowKit Go.Deep Classical
theorem cellsSp : Try.prog.cellsOf 34 = 6 := by kernel_rfl
theorem spCells_int : Try.prog.cellsOf 3 = 1 := by kernel_rfl
theorem spCells_uint16 : Try.prog.cellsOf 32 = 1 := by kernel_rfl
theorem spCells_uint8 : Try.prog.cellsOf 5 = 1 := by kernel_rfl
theorem list6 {l : List Value} (h : l.length = 6) : ∃ c0 c1 c2 c3 c4 c5, l = [c0, c1, c2, c3, c4, c5] := by
  match l, h with
  | [c0, c1, c2, c3, c4, c5], _ => exact ⟨_, _, _, _, _, _, rfl⟩
theorem spWf64 {n : Int} (h : (Lit.int .i64 n).wf = true) : -9223372036854775808 ≤ n ∧ n ≤ 9223372036854775807 := by
  simp [Lit.wf, IntKind.min, IntKind.max, IntKind.signed, IntKind.bits] at h
  omega
theorem spWf16 {n : Int} (h : (Lit.int .u16 n).wf = true) : 0 ≤ n ∧ n ≤ 65535 := by
  simp [Lit.wf, IntKind.min, IntKind.max, IntKind.signed, IntKind.bits] at h
  omega
theorem spWf8 {n : Int} (h : (Lit.int .u8 n).wf = true) : 0 ≤ n ∧ n ≤ 255 := by
  simp [Lit.wf, IntKind.min, IntKind.max, IntKind.signed, IntKind.bits] at h
  omega
set_option maxRecDepth 100000 in
theorem step_of {H : Type} {enc : TypeId × Value → H} {W : World} {base : Nat} {v : Value} {d : DataW H} {p : List MemPlace}
    (hv : Value.okWide Try.prog W .any base 34 v) (h : DataW.Trod enc Try.prog W 0 (fun _ => true) true 34 v d p) : ∃ s : Sp, s.Ok ∧ v = .agg s.cells := by
  obtain ⟨cs, rfl, hcs⟩ := okWide_struct Try.underlying34 hv
  rw [cellsSp] at hcs
  obtain ⟨l⟩ := cs
  obtain ⟨c0, c1, c2, c3, c4, c5, rfl⟩ := list6 (l := l) (by simpa using hcs)
  obtain ⟨fuel, hf⟩ := h
  obtain ⟨xs, n, _, -, -, hxl, hfld⟩ := DataW.trod_struct Try.underlying34 hf
  have hxl' : xs.length = 6 := hxl
  have g0 : DataW.trod enc Try.prog W 0 (fun _ => true) true n 3 [c0] = some (xs[0]'(by omega)) := by
    have := hfld 0 _ rfl
    rw [List.getElem?_eq_getElem (show 0 < xs.length by omega)] at this
    have e : [c0] = (([c0, c1, c2, c3, c4, c5] : List Value).drop 0).take (Try.prog.cellsOf 3) := by rw [spCells_int]; rfl
    rw [e]; exact this
  obtain ⟨n0, e0, -, w0⟩ := DataW.trod_int Try.underlying3 g0
  simp only [List.cons.injEq, and_true] at e0
  subst e0
  have g1 : DataW.trod enc Try.prog W 0 (fun _ => true) true n 32 [c1] = some (xs[1]'(by omega)) := by
    have := hfld 1 _ rfl
    rw [List.getElem?_eq_getElem (show 1 < xs.length by omega)] at this
    have e : [c1] = (([.int .i64 n0, c1, c2, c3, c4, c5] : List Value).drop 1).take (Try.prog.cellsOf 32) := by rw [spCells_uint16]; rfl
    rw [e]; exact this
  obtain ⟨n1, e1, -, w1⟩ := DataW.trod_int Try.underlying32 g1
  simp only [List.cons.injEq, and_true] at e1
  subst e1
  have g2 : DataW.trod enc Try.prog W 0 (fun _ => true) true n 5 [c2] = some (xs[2]'(by omega)) := by
    have := hfld 2 _ rfl
    rw [List.getElem?_eq_getElem (show 2 < xs.length by omega)] at this
    have e : [c2] = (([.int .i64 n0, .int .u16 n1, c2, c3, c4, c5] : List Value).drop 2).take (Try.prog.cellsOf 5) := by rw [spCells_uint8]; rfl
    rw [e]; exact this
  obtain ⟨n2, e2, -, w2⟩ := DataW.trod_int Try.underlying5 g2
  simp only [List.cons.injEq, and_true] at e2
  subst e2
  have g3 : DataW.trod enc Try.prog W 0 (fun _ => true) true n 5 [c3] = some (xs[3]'(by omega)) := by
    have := hfld 3 _ rfl
    rw [List.getElem?_eq_getElem (show 3 < xs.length by omega)] at this
    have e : [c3] = (([.int .i64 n0, .int .u16 n1, .int .u8 n2, c3, c4, c5] : List Value).drop 3).take (Try.prog.cellsOf 5) := by rw [spCells_uint8]; rfl
    rw [e]; exact this
  obtain ⟨n3, e3, -, w3⟩ := DataW.trod_int Try.underlying5 g3
  simp only [List.cons.injEq, and_true] at e3
  subst e3
  have g4 : DataW.trod enc Try.prog W 0 (fun _ => true) true n 3 [c4] = some (xs[4]'(by omega)) := by
    have := hfld 4 _ rfl
    rw [List.getElem?_eq_getElem (show 4 < xs.length by omega)] at this
    have e : [c4] = (([.int .i64 n0, .int .u16 n1, .int .u8 n2, .int .u8 n3, c4, c5] : List Value).drop 4).take (Try.prog.cellsOf 3) := by rw [spCells_int]; rfl
    rw [e]; exact this
  obtain ⟨n4, e4, -, w4⟩ := DataW.trod_int Try.underlying3 g4
  simp only [List.cons.injEq, and_true] at e4
  subst e4
  have g5 : DataW.trod enc Try.prog W 0 (fun _ => true) true n 3 [c5] = some (xs[5]'(by omega)) := by
    have := hfld 5 _ rfl
    rw [List.getElem?_eq_getElem (show 5 < xs.length by omega)] at this
    have e : [c5] = (([.int .i64 n0, .int .u16 n1, .int .u8 n2, .int .u8 n3, .int .i64 n4, c5] : List Value).drop 5).take (Try.prog.cellsOf 3) := by rw [spCells_int]; rfl
    rw [e]; exact this
  obtain ⟨n5, e5, -, w5⟩ := DataW.trod_int Try.underlying3 g5
  simp only [List.cons.injEq, and_true] at e5
  subst e5
  exact ⟨⟨n0, n1, n2, n3, n4, n5⟩, ⟨spWf64 w0, spWf16 w1, spWf8 w2, spWf8 w3, spWf64 w4, spWf64 w5⟩, rfl⟩
/-- The list's steps in memory. -/
structure Scr (W : World) (a : Option Addr) (len : Nat) (q : Nat → Sp) (b o : Nat) : Prop where
  at_ : 0 < len → a = some ⟨b, o, none⟩ ∧ b < W.heap.size
  cells : ∀ i, i < len → W.rangeAt b (o + i * 6) (q i).cells.toList
  ok : ∀ i, i < len → (q i).Ok
theorem range6 {W : World} {b o : Nat} {s : Sp} (h0 : W.cell? ⟨b, o, none⟩ = some (.int .i64 s.k)) (h1 : W.cell? ⟨b, o + 1, none⟩ = some (.int .u16 s.a)) (h2 : W.cell? ⟨b, o + 2, none⟩ = some (.int .u8 s.v)) (h3 : W.cell? ⟨b, o + 3, none⟩ = some (.int .u8 s.u)) (h4 : W.cell? ⟨b, o + 4, none⟩ = some (.int .i64 s.c)) (h5 : W.cell? ⟨b, o + 5, none⟩ = some (.int .i64 s.n)) : W.rangeAt b o s.cells.toList := fun j v hv => by
  match j, hv with
  | 0, hv => simp [Sp.cells] at hv; subst hv; exact h0
  | 1, hv => simp [Sp.cells] at hv; subst hv; exact h1
  | 2, hv => simp [Sp.cells] at hv; subst hv; exact h2
  | 3, hv => simp [Sp.cells] at hv; subst hv; exact h3
  | 4, hv => simp [Sp.cells] at hv; subst hv; exact h4
  | 5, hv => simp [Sp.cells] at hv; subst hv; exact h5
  | j + 6, hv => simp [Sp.cells] at hv
set_option maxRecDepth 100000 in
theorem steps_of {H : Type} {enc : TypeId × Value → H} {W : World} {base : Nat} {v : Value} {d : DataW H} {p : List MemPlace}
    (hv : Value.okWide Try.prog W .any base 24 v) (h : DataW.Trod enc Try.prog W 0 (fun _ => true) true 24 v d p) :
    ∃ (a : Option Addr) (len cap : Nat) (q : Nat → Sp) (b o : Nat), v = .slice a len cap ∧ len ≤ 9223372036854775807 ∧ Scr W a len q b o := by
  obtain ⟨a, len, cap, rfl⟩ := okWide_slice Try.underlying24 hv
  obtain ⟨fuel, hf⟩ := h
  rcases open_slice Try.underlying24 hf with ⟨hcs, _⟩ | ⟨x, l, c, m, n, D, Pl, hcs, _, hl, hm, hmm, _, hx⟩
  · simp [Value.cells] at hcs
    obtain ⟨rfl, rfl, rfl⟩ := hcs
    exact ⟨none, 0, 0, fun _ => ⟨0, 0, 0, 0, 0, 0⟩, 0, 0, rfl, by decide, ⟨fun h => absurd h (by decide), fun i hi => absurd hi (by omega), fun i hi => absurd hi (by omega)⟩⟩
  · simp [Value.cells] at hcs
    obtain ⟨rfl, rfl, rfl⟩ := hcs
    simp only [if_true] at hmm
    subst hmm
    have each : ∀ i, i < len → ∃ s : Sp, W.cell? (x.add (i * 6)) = some (.int .i64 s.k) ∧ W.cell? (x.add (i * 6 + 1)) = some (.int .u16 s.a) ∧ W.cell? (x.add (i * 6 + 2)) = some (.int .u8 s.v) ∧ W.cell? (x.add (i * 6 + 3)) = some (.int .u8 s.u) ∧ W.cell? (x.add (i * 6 + 4)) = some (.int .i64 s.c) ∧ W.cell? (x.add (i * 6 + 5)) = some (.int .i64 s.n) ∧ s.Ok := by
      intro i hi
      obtain ⟨cs', h1, h2⟩ := hx i (by omega)
      rw [cellsSp] at h1
      obtain ⟨_, hlen, hcell⟩ := World.cells?_some h1
      obtain ⟨xs, k, _, _, _, hxl, hfld⟩ := DataW.trod_struct Try.underlying34 h2
      have hxl' : xs.length = 6 := hxl
      match xs, hxl', cs', hlen with
      | [y0, y1, y2, y3, y4, y5], _, [v0, v1, v2, v3, v4, v5], _ =>
        have g0 : DataW.trod enc Try.prog W 0 (fun _ => true) true k 3 [v0] = some y0 := by
          have := hfld 0 _ rfl
          skip
          have e : [v0] = (([v0, v1, v2, v3, v4, v5] : List Value).drop 0).take (Try.prog.cellsOf 3) := by rw [spCells_int]; rfl
          rw [e]; exact this
        obtain ⟨n0, e0, -, w0⟩ := DataW.trod_int Try.underlying3 g0
        simp only [List.cons.injEq, and_true] at e0
        subst e0
        have g1 : DataW.trod enc Try.prog W 0 (fun _ => true) true k 32 [v1] = some y1 := by
          have := hfld 1 _ rfl
          skip
          have e : [v1] = (([.int .i64 n0, v1, v2, v3, v4, v5] : List Value).drop 1).take (Try.prog.cellsOf 32) := by rw [spCells_uint16]; rfl
          rw [e]; exact this
        obtain ⟨n1, e1, -, w1⟩ := DataW.trod_int Try.underlying32 g1
        simp only [List.cons.injEq, and_true] at e1
        subst e1
        have g2 : DataW.trod enc Try.prog W 0 (fun _ => true) true k 5 [v2] = some y2 := by
          have := hfld 2 _ rfl
          skip
          have e : [v2] = (([.int .i64 n0, .int .u16 n1, v2, v3, v4, v5] : List Value).drop 2).take (Try.prog.cellsOf 5) := by rw [spCells_uint8]; rfl
          rw [e]; exact this
        obtain ⟨n2, e2, -, w2⟩ := DataW.trod_int Try.underlying5 g2
        simp only [List.cons.injEq, and_true] at e2
        subst e2
        have g3 : DataW.trod enc Try.prog W 0 (fun _ => true) true k 5 [v3] = some y3 := by
          have := hfld 3 _ rfl
          skip
          have e : [v3] = (([.int .i64 n0, .int .u16 n1, .int .u8 n2, v3, v4, v5] : List Value).drop 3).take (Try.prog.cellsOf 5) := by rw [spCells_uint8]; rfl
          rw [e]; exact this
        obtain ⟨n3, e3, -, w3⟩ := DataW.trod_int Try.underlying5 g3
        simp only [List.cons.injEq, and_true] at e3
        subst e3
        have g4 : DataW.trod enc Try.prog W 0 (fun _ => true) true k 3 [v4] = some y4 := by
          have := hfld 4 _ rfl
          skip
          have e : [v4] = (([.int .i64 n0, .int .u16 n1, .int .u8 n2, .int .u8 n3, v4, v5] : List Value).drop 4).take (Try.prog.cellsOf 3) := by rw [spCells_int]; rfl
          rw [e]; exact this
        obtain ⟨n4, e4, -, w4⟩ := DataW.trod_int Try.underlying3 g4
        simp only [List.cons.injEq, and_true] at e4
        subst e4
        have g5 : DataW.trod enc Try.prog W 0 (fun _ => true) true k 3 [v5] = some y5 := by
          have := hfld 5 _ rfl
          skip
          have e : [v5] = (([.int .i64 n0, .int .u16 n1, .int .u8 n2, .int .u8 n3, .int .i64 n4, v5] : List Value).drop 5).take (Try.prog.cellsOf 3) := by rw [spCells_int]; rfl
          rw [e]; exact this
        obtain ⟨n5, e5, -, w5⟩ := DataW.trod_int Try.underlying3 g5
        simp only [List.cons.injEq, and_true] at e5
        subst e5
        have c0 := hcell 0 (by omega)
        have c1 := hcell 1 (by omega)
        have c2 := hcell 2 (by omega)
        have c3 := hcell 3 (by omega)
        have c4 := hcell 4 (by omega)
        have c5 := hcell 5 (by omega)
        rw [add_add] at c0 c1 c2 c3 c4 c5
        exact ⟨⟨n0, n1, n2, n3, n4, n5⟩, by simpa using c0, by simpa using c1, by simpa using c2, by simpa using c3, by simpa using c4, by simpa using c5, ⟨spWf64 w0, spWf16 w1, spWf8 w2, spWf8 w3, spWf64 w4, spWf64 w5⟩⟩
    haveI : Nonempty Sp := ⟨⟨0, 0, 0, 0, 0, 0⟩⟩
    obtain ⟨q, hq⟩ : ∃ q : Nat → Sp, ∀ i, i < len → W.cell? (x.add (i * 6)) = some (.int .i64 (q i).k) ∧ W.cell? (x.add (i * 6 + 1)) = some (.int .u16 (q i).a) ∧ W.cell? (x.add (i * 6 + 2)) = some (.int .u8 (q i).v) ∧ W.cell? (x.add (i * 6 + 3)) = some (.int .u8 (q i).u) ∧ W.cell? (x.add (i * 6 + 4)) = some (.int .i64 (q i).c) ∧ W.cell? (x.add (i * 6 + 5)) = some (.int .i64 (q i).n) ∧ (q i).Ok :=
      ⟨fun i => Classical.epsilon fun s : Sp => W.cell? (x.add (i * 6)) = some (.int .i64 s.k) ∧ W.cell? (x.add (i * 6 + 1)) = some (.int .u16 s.a) ∧ W.cell? (x.add (i * 6 + 2)) = some (.int .u8 s.v) ∧ W.cell? (x.add (i * 6 + 3)) = some (.int .u8 s.u) ∧ W.cell? (x.add (i * 6 + 4)) = some (.int .i64 s.c) ∧ W.cell? (x.add (i * 6 + 5)) = some (.int .i64 s.n) ∧ s.Ok, fun i hi => Classical.epsilon_spec (each i hi)⟩
    obtain ⟨xb, xo, xs⟩ := x
    by_cases hz : 0 < len
    · have h0 := (hq 0 hz).1
      have hs : xs = none := by
        have := World.cell?_spot (a := (⟨xb, xo, xs⟩ : Addr)) (by simpa [Addr.add] using h0)
        exact this
      subst hs
      have hb : xb < W.heap.size := cell_lt (p := ⟨xb, xo, none⟩) (by simpa [Addr.add] using h0)
      refine ⟨_, len, _, q, xb, xo, rfl, (by have hm9 : maxLen ≤ 9223372036854775807 := (by decide); omega), ⟨fun _ => ⟨rfl, hb⟩, fun i hi => ?_, fun i hi => (hq i hi).2.2.2.2.2.2⟩⟩
      obtain ⟨a0, a1, a2, a3, a4, a5, -⟩ := hq i hi
      rw [add_plain] at a0 a1 a2 a3 a4 a5
      exact range6 a0 (by rw [Nat.add_assoc]; exact a1) (by rw [Nat.add_assoc]; exact a2) (by rw [Nat.add_assoc]; exact a3) (by rw [Nat.add_assoc]; exact a4) (by rw [Nat.add_assoc]; exact a5)
    · exact ⟨_, len, _, q, 0, 0, rfl, by omega, ⟨fun h => absurd h hz, fun i hi => absurd hi (by omega), fun i hi => absurd hi (by omega)⟩⟩
end Go.Proofs.Ytggphgmpdanliaa
