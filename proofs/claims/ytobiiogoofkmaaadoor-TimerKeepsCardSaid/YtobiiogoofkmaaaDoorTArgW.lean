/-
  How a clock that is handed in by value is read; conditions: those of the row.
  That the tables lie in their variables where the row's condition is met.
  How a list of steps that is handed in is read; conditions: those of the row.
-/
import Derived.Test.YtobiiogoofkmaaaDoorTBase
import Derived.ProofKit
import Derived.OpenShut
import Derived.ChangeOld
import Derived.Below
import Derived.Carry
import Derived.Test.YtobiiogoofkmaaaDoorTie
import Derived.Test.YtobiiogoofkmaaaDoorCards
import Derived.SizedLaws
import Derived.Deep.DeepHandedRow
import Derived.Lib.LaidTab
import Derived.LaidMore
import Derived.LaidSub
import Derived.Deep.Slices
import Derived.Deep.SlicePairs
set_option linter.unusedSimpArgs false
set_option linter.unusedVariables false
namespace Go.Proofs.YtobiiogoofkmaaaDoor
open Go.ChangeShapes Go.WideShapes Go.ChangeAt Go.RowKit Classical
theorem cellsClk : Tryd.prog.cellsOf 24 = 13 := by kernel_rfl
theorem cellsU8 : Tryd.prog.cellsOf 5 = 1 := by kernel_rfl
theorem cellsU16 : Tryd.prog.cellsOf 22 = 1 := by kernel_rfl
theorem cellsBo : Tryd.prog.cellsOf 4 = 1 := by kernel_rfl
theorem list13 {l : List Value} (h : l.length = 13) : ∃ c0 c1 c2 c3 c4 c5 c6 c7 c8 c9 c10 c11 c12, l = [c0, c1, c2, c3, c4, c5, c6, c7, c8, c9, c10, c11, c12] := by
  match l, h with
  | [c0, c1, c2, c3, c4, c5, c6, c7, c8, c9, c10, c11, c12], _ => exact ⟨_, _, _, _, _, _, _, _, _, _, _, _, _, rfl⟩
theorem wf8 {n : Int} (h : (Lit.int .u8 n).wf = true) : 0 ≤ n ∧ n ≤ 255 := by
  simp [Lit.wf, IntKind.min, IntKind.max, IntKind.signed, IntKind.bits] at h
  omega
theorem wf16 {n : Int} (h : (Lit.int .u16 n).wf = true) : 0 ≤ n ∧ n ≤ 65535 := by
  simp [Lit.wf, IntKind.min, IntKind.max, IntKind.signed, IntKind.bits] at h
  omega
theorem wf64 {n : Int} (h : (Lit.int .i64 n).wf = true) : -9223372036854775808 ≤ n ∧ n ≤ 9223372036854775807 := by
  simp [Lit.wf, IntKind.min, IntKind.max, IntKind.signed, IntKind.bits] at h
  omega
theorem ck_of {H : Type} {enc : TypeId × Value → H} {W : World} {base : Nat} {v : Value} {d : DataW H} {p : List MemPlace}
    (hv : Value.okWide Tryd.prog W .any base 24 v) (h : DataW.Trod enc Tryd.prog W 0 (fun _ => true) true 24 v d p) :
    ∃ c : Ck, c.Ok ∧ v = .agg c.cells := by
  obtain ⟨cs, rfl, hcs⟩ := okWide_struct Tryd.underlying24 hv
  rw [cellsClk] at hcs
  obtain ⟨l⟩ := cs
  obtain ⟨c0, c1, c2, c3, c4, c5, c6, c7, c8, c9, c10, c11, c12, rfl⟩ := list13 (l := l) (by simpa using hcs)
  obtain ⟨fuel, hf⟩ := h
  obtain ⟨xs, n, _, -, -, hxl, hfld⟩ := DataW.trod_struct Tryd.underlying24 hf
  have hxl' : xs.length = 13 := hxl
  have f0 : DataW.trod enc Tryd.prog W 0 (fun _ => true) true n 22 [c0] = some (xs[0]'(by omega)) := by
    have := hfld 0 _ rfl
    rw [List.getElem?_eq_getElem (show 0 < xs.length by omega)] at this
    have e : [c0] = (([c0, c1, c2, c3, c4, c5, c6, c7, c8, c9, c10, c11, c12] : List Value).drop 0).take (Tryd.prog.cellsOf 22) := by rw [cellsU16]; rfl
    rw [e]; exact this
  obtain ⟨v0, e, -, w0⟩ := DataW.trod_int Tryd.underlying22 f0
  simp only [List.cons.injEq, and_true] at e
  subst e
  have f1 : DataW.trod enc Tryd.prog W 0 (fun _ => true) true n 22 [c1] = some (xs[1]'(by omega)) := by
    have := hfld 1 _ rfl
    rw [List.getElem?_eq_getElem (show 1 < xs.length by omega)] at this
    have e : [c1] = (([.int .u16 v0, c1, c2, c3, c4, c5, c6, c7, c8, c9, c10, c11, c12] : List Value).drop 1).take (Tryd.prog.cellsOf 22) := by rw [cellsU16]; rfl
    rw [e]; exact this
  obtain ⟨v1, e, -, w1⟩ := DataW.trod_int Tryd.underlying22 f1
  simp only [List.cons.injEq, and_true] at e
  subst e
  have f2 : DataW.trod enc Tryd.prog W 0 (fun _ => true) true n 22 [c2] = some (xs[2]'(by omega)) := by
    have := hfld 2 _ rfl
    rw [List.getElem?_eq_getElem (show 2 < xs.length by omega)] at this
    have e : [c2] = (([.int .u16 v0, .int .u16 v1, c2, c3, c4, c5, c6, c7, c8, c9, c10, c11, c12] : List Value).drop 2).take (Tryd.prog.cellsOf 22) := by rw [cellsU16]; rfl
    rw [e]; exact this
  obtain ⟨v2, e, -, w2⟩ := DataW.trod_int Tryd.underlying22 f2
  simp only [List.cons.injEq, and_true] at e
  subst e
  have f3 : DataW.trod enc Tryd.prog W 0 (fun _ => true) true n 5 [c3] = some (xs[3]'(by omega)) := by
    have := hfld 3 _ rfl
    rw [List.getElem?_eq_getElem (show 3 < xs.length by omega)] at this
    have e : [c3] = (([.int .u16 v0, .int .u16 v1, .int .u16 v2, c3, c4, c5, c6, c7, c8, c9, c10, c11, c12] : List Value).drop 3).take (Tryd.prog.cellsOf 5) := by rw [cellsU8]; rfl
    rw [e]; exact this
  obtain ⟨v3, e, -, w3⟩ := DataW.trod_int Tryd.underlying5 f3
  simp only [List.cons.injEq, and_true] at e
  subst e
  have f4 : DataW.trod enc Tryd.prog W 0 (fun _ => true) true n 5 [c4] = some (xs[4]'(by omega)) := by
    have := hfld 4 _ rfl
    rw [List.getElem?_eq_getElem (show 4 < xs.length by omega)] at this
    have e : [c4] = (([.int .u16 v0, .int .u16 v1, .int .u16 v2, .int .u8 v3, c4, c5, c6, c7, c8, c9, c10, c11, c12] : List Value).drop 4).take (Tryd.prog.cellsOf 5) := by rw [cellsU8]; rfl
    rw [e]; exact this
  obtain ⟨v4, e, -, w4⟩ := DataW.trod_int Tryd.underlying5 f4
  simp only [List.cons.injEq, and_true] at e
  subst e
  have f5 : DataW.trod enc Tryd.prog W 0 (fun _ => true) true n 4 [c5] = some (xs[5]'(by omega)) := by
    have := hfld 5 _ rfl
    rw [List.getElem?_eq_getElem (show 5 < xs.length by omega)] at this
    have e : [c5] = (([.int .u16 v0, .int .u16 v1, .int .u16 v2, .int .u8 v3, .int .u8 v4, c5, c6, c7, c8, c9, c10, c11, c12] : List Value).drop 5).take (Tryd.prog.cellsOf 4) := by rw [cellsBo]; rfl
    rw [e]; exact this
  obtain ⟨v5, e, -⟩ := DataW.trod_bool Tryd.underlying4 f5
  simp only [List.cons.injEq, and_true] at e
  subst e
  have f6 : DataW.trod enc Tryd.prog W 0 (fun _ => true) true n 4 [c6] = some (xs[6]'(by omega)) := by
    have := hfld 6 _ rfl
    rw [List.getElem?_eq_getElem (show 6 < xs.length by omega)] at this
    have e : [c6] = (([.int .u16 v0, .int .u16 v1, .int .u16 v2, .int .u8 v3, .int .u8 v4, .bool v5, c6, c7, c8, c9, c10, c11, c12] : List Value).drop 6).take (Tryd.prog.cellsOf 4) := by rw [cellsBo]; rfl
    rw [e]; exact this
  obtain ⟨v6, e, -⟩ := DataW.trod_bool Tryd.underlying4 f6
  simp only [List.cons.injEq, and_true] at e
  subst e
  have f7 : DataW.trod enc Tryd.prog W 0 (fun _ => true) true n 4 [c7] = some (xs[7]'(by omega)) := by
    have := hfld 7 _ rfl
    rw [List.getElem?_eq_getElem (show 7 < xs.length by omega)] at this
    have e : [c7] = (([.int .u16 v0, .int .u16 v1, .int .u16 v2, .int .u8 v3, .int .u8 v4, .bool v5, .bool v6, c7, c8, c9, c10, c11, c12] : List Value).drop 7).take (Tryd.prog.cellsOf 4) := by rw [cellsBo]; rfl
    rw [e]; exact this
  obtain ⟨v7, e, -⟩ := DataW.trod_bool Tryd.underlying4 f7
  simp only [List.cons.injEq, and_true] at e
  subst e
  have f8 : DataW.trod enc Tryd.prog W 0 (fun _ => true) true n 4 [c8] = some (xs[8]'(by omega)) := by
    have := hfld 8 _ rfl
    rw [List.getElem?_eq_getElem (show 8 < xs.length by omega)] at this
    have e : [c8] = (([.int .u16 v0, .int .u16 v1, .int .u16 v2, .int .u8 v3, .int .u8 v4, .bool v5, .bool v6, .bool v7, c8, c9, c10, c11, c12] : List Value).drop 8).take (Tryd.prog.cellsOf 4) := by rw [cellsBo]; rfl
    rw [e]; exact this
  obtain ⟨v8, e, -⟩ := DataW.trod_bool Tryd.underlying4 f8
  simp only [List.cons.injEq, and_true] at e
  subst e
  have f9 : DataW.trod enc Tryd.prog W 0 (fun _ => true) true n 4 [c9] = some (xs[9]'(by omega)) := by
    have := hfld 9 _ rfl
    rw [List.getElem?_eq_getElem (show 9 < xs.length by omega)] at this
    have e : [c9] = (([.int .u16 v0, .int .u16 v1, .int .u16 v2, .int .u8 v3, .int .u8 v4, .bool v5, .bool v6, .bool v7, .bool v8, c9, c10, c11, c12] : List Value).drop 9).take (Tryd.prog.cellsOf 4) := by rw [cellsBo]; rfl
    rw [e]; exact this
  obtain ⟨v9, e, -⟩ := DataW.trod_bool Tryd.underlying4 f9
  simp only [List.cons.injEq, and_true] at e
  subst e
  have f10 : DataW.trod enc Tryd.prog W 0 (fun _ => true) true n 22 [c10] = some (xs[10]'(by omega)) := by
    have := hfld 10 _ rfl
    rw [List.getElem?_eq_getElem (show 10 < xs.length by omega)] at this
    have e : [c10] = (([.int .u16 v0, .int .u16 v1, .int .u16 v2, .int .u8 v3, .int .u8 v4, .bool v5, .bool v6, .bool v7, .bool v8, .bool v9, c10, c11, c12] : List Value).drop 10).take (Tryd.prog.cellsOf 22) := by rw [cellsU16]; rfl
    rw [e]; exact this
  obtain ⟨v10, e, -, w10⟩ := DataW.trod_int Tryd.underlying22 f10
  simp only [List.cons.injEq, and_true] at e
  subst e
  have f11 : DataW.trod enc Tryd.prog W 0 (fun _ => true) true n 5 [c11] = some (xs[11]'(by omega)) := by
    have := hfld 11 _ rfl
    rw [List.getElem?_eq_getElem (show 11 < xs.length by omega)] at this
    have e : [c11] = (([.int .u16 v0, .int .u16 v1, .int .u16 v2, .int .u8 v3, .int .u8 v4, .bool v5, .bool v6, .bool v7, .bool v8, .bool v9, .int .u16 v10, c11, c12] : List Value).drop 11).take (Tryd.prog.cellsOf 5) := by rw [cellsU8]; rfl
    rw [e]; exact this
  obtain ⟨v11, e, -, w11⟩ := DataW.trod_int Tryd.underlying5 f11
  simp only [List.cons.injEq, and_true] at e
  subst e
  have f12 : DataW.trod enc Tryd.prog W 0 (fun _ => true) true n 5 [c12] = some (xs[12]'(by omega)) := by
    have := hfld 12 _ rfl
    rw [List.getElem?_eq_getElem (show 12 < xs.length by omega)] at this
    have e : [c12] = (([.int .u16 v0, .int .u16 v1, .int .u16 v2, .int .u8 v3, .int .u8 v4, .bool v5, .bool v6, .bool v7, .bool v8, .bool v9, .int .u16 v10, .int .u8 v11, c12] : List Value).drop 12).take (Tryd.prog.cellsOf 5) := by rw [cellsU8]; rfl
    rw [e]; exact this
  obtain ⟨v12, e, -, w12⟩ := DataW.trod_int Tryd.underlying5 f12
  simp only [List.cons.injEq, and_true] at e
  subst e
  exact ⟨⟨v0, v1, v2, v3, v4, v5, v6, v7, v8, v9, v10, v11, v12⟩, ⟨wf16 w0, wf16 w1, wf16 w2, wf8 w3, wf8 w4, wf16 w10, wf8 w11, wf8 w12⟩, rfl⟩
end Go.Proofs.YtobiiogoofkmaaaDoor
namespace Go.Proofs.YtobiiogoofkmaaaDoor
open Go.ChangeShapes Go.WideShapes Go.ChangeAt Go.RowKit Classical
theorem ownT : ownKnob Tryd.prog.godebug = none := by kernel_rfl
theorem laidOutT : laidOutB Tryd.prog = true := by kernel_rfl
theorem g_dividers : Tryd.prog.globalNamed "tandem/timer.dividers" = some 0 := by kernel_rfl
theorem gt_dividers : (Tryd.prog.globals[0]?).map (·.type) = some 47 := by kernel_rfl
theorem g_fourBeats : Tryd.prog.globalNamed "tandem/timer.fourBeats" = some 3 := by kernel_rfl
theorem gt_fourBeats : (Tryd.prog.globals[3]?).map (·.type) = some 47 := by kernel_rfl
theorem g_fiveBeats : Tryd.prog.globalNamed "tandem/timer.fiveBeats" = some 2 := by kernel_rfl
theorem gt_fiveBeats : (Tryd.prog.globals[2]?).map (·.type) = some 47 := by kernel_rfl
theorem g_frames : Tryd.prog.globalNamed "tandem/timer.frames" = some 1 := by kernel_rfl
theorem gt_frames : (Tryd.prog.globals[1]?).map (·.type) = some 49 := by kernel_rfl
theorem g_rounds : Tryd.prog.globalNamed "tandem/timer.rounds" = some 4 := by kernel_rfl
theorem gt_rounds : (Tryd.prog.globals[4]?).map (·.type) = some 51 := by kernel_rfl
theorem cells4 : Tryd.prog.cellsOf 47 = 4 := by kernel_rfl
theorem cells3 : Tryd.prog.cellsOf 49 = 3 := by kernel_rfl
theorem cells2 : Tryd.prog.cellsOf 51 = 2 := by kernel_rfl
theorem dtab_cells {W : World} (t : Lib.TabIs Tryd.prog W "tandem/timer.dividers" .u16 [1, 8, 64, 256]) : DTab W :=
  ⟨t.cell g_dividers 0 (by decide), t.cell g_dividers 1 (by decide), t.cell g_dividers 2 (by decide), t.cell g_dividers 3 (by decide)⟩
theorem dtab_of {W : World} (h : laidMetH Tryd.prog [("tandem/timer.dividers", Rows.laid_tandem_timer_dividers)] W) : DTab W := by
  have h1 : laidMet Tryd.prog [("tandem/timer.dividers", Lib.tabData .u16 [1, 8, 64, 256])] W := h
  exact dtab_cells (Lib.tabIs_of_head (rest := []) g_dividers gt_dividers Tryd.underlying47 Tryd.underlying22 cellsU16 cells4 h1)
theorem tabs_of {W : World} (h : laidMetH Tryd.prog [("tandem/timer.dividers", Rows.laid_tandem_timer_dividers), ("tandem/timer.fourBeats", Rows.laid_tandem_timer_fourBeats), ("tandem/timer.fiveBeats", Rows.laid_tandem_timer_fiveBeats), ("tandem/timer.frames", Rows.laid_tandem_timer_frames), ("tandem/timer.rounds", Rows.laid_tandem_timer_rounds)] W) : Tabs W := by
  have h1 : laidMet Tryd.prog [("tandem/timer.dividers", Lib.tabData .u16 [1, 8, 64, 256]), ("tandem/timer.fourBeats", Lib.tabData .u16 [7457, 14913, 22371, 29829]), ("tandem/timer.fiveBeats", Lib.tabData .u16 [7457, 14913, 22371, 37281]), ("tandem/timer.frames", Lib.tabData .u16 [29828, 29829, 29830]), ("tandem/timer.rounds", Lib.tabData .u16 [29830, 37282])] W := h
  have h_dividers : laidMet Tryd.prog [("tandem/timer.dividers", Lib.tabData .u16 [1, 8, 64, 256])] W := laidMet.filter (fun x => x.1 == "tandem/timer.dividers") h1
  have t_dividers : Lib.TabIs Tryd.prog W "tandem/timer.dividers" .u16 [1, 8, 64, 256] := Lib.tabIs_of_head (rest := []) g_dividers gt_dividers Tryd.underlying47 Tryd.underlying22 cellsU16 cells4 h_dividers
  have h_fourBeats : laidMet Tryd.prog [("tandem/timer.fourBeats", Lib.tabData .u16 [7457, 14913, 22371, 29829])] W := laidMet.filter (fun x => x.1 == "tandem/timer.fourBeats") h1
  have t_fourBeats : Lib.TabIs Tryd.prog W "tandem/timer.fourBeats" .u16 [7457, 14913, 22371, 29829] := Lib.tabIs_of_head (rest := []) g_fourBeats gt_fourBeats Tryd.underlying47 Tryd.underlying22 cellsU16 cells4 h_fourBeats
  have h_fiveBeats : laidMet Tryd.prog [("tandem/timer.fiveBeats", Lib.tabData .u16 [7457, 14913, 22371, 37281])] W := laidMet.filter (fun x => x.1 == "tandem/timer.fiveBeats") h1
  have t_fiveBeats : Lib.TabIs Tryd.prog W "tandem/timer.fiveBeats" .u16 [7457, 14913, 22371, 37281] := Lib.tabIs_of_head (rest := []) g_fiveBeats gt_fiveBeats Tryd.underlying47 Tryd.underlying22 cellsU16 cells4 h_fiveBeats
  have h_frames : laidMet Tryd.prog [("tandem/timer.frames", Lib.tabData .u16 [29828, 29829, 29830])] W := laidMet.filter (fun x => x.1 == "tandem/timer.frames") h1
  have t_frames : Lib.TabIs Tryd.prog W "tandem/timer.frames" .u16 [29828, 29829, 29830] := Lib.tabIs_of_head (rest := []) g_frames gt_frames Tryd.underlying49 Tryd.underlying22 cellsU16 cells3 h_frames
  have h_rounds : laidMet Tryd.prog [("tandem/timer.rounds", Lib.tabData .u16 [29830, 37282])] W := laidMet.filter (fun x => x.1 == "tandem/timer.rounds") h1
  have t_rounds : Lib.TabIs Tryd.prog W "tandem/timer.rounds" .u16 [29830, 37282] := Lib.tabIs_of_head (rest := []) g_rounds gt_rounds Tryd.underlying51 Tryd.underlying22 cellsU16 cells2 h_rounds
  exact ⟨dtab_cells t_dividers, fun i hi => t_fourBeats.cell g_fourBeats i hi, fun i hi => t_fiveBeats.cell g_fiveBeats i hi, fun i hi => t_frames.cell g_frames i hi, fun i hi => t_rounds.cell g_rounds i hi⟩
end Go.Proofs.YtobiiogoofkmaaaDoor
namespace Go.Proofs.YtobiiogoofkmaaaDoor
open Go.ChangeShapes Go.WideShapes Go.ChangeAt Go.RowKit Go.Deep Classical
theorem cellsSt : Tryd.prog.cellsOf 35 = 4 := by kernel_rfl
theorem cellsI : Tryd.prog.cellsOf 3 = 1 := by kernel_rfl
/-- The list's elements in memory. -/
structure Scr (W : World) (a : Option Addr) (len : Nat) (K A V N : Nat → Int) (b o : Nat) : Prop where
  at_ : 0 < len → a = some ⟨b, o, none⟩ ∧ b < W.heap.size
  cells : ∀ i, i < len → W.cell? ⟨b, o + i * 4, none⟩ = some (.int .i64 (K i)) ∧ W.cell? ⟨b, o + i * 4 + 1, none⟩ = some (.int .u16 (A i)) ∧ W.cell? ⟨b, o + i * 4 + 2, none⟩ = some (.int .u8 (V i)) ∧ W.cell? ⟨b, o + i * 4 + 3, none⟩ = some (.int .i64 (N i))
  fits : ∀ i, i < len → (-9223372036854775808 ≤ N i ∧ N i ≤ 9223372036854775807) ∧ (0 ≤ V i ∧ V i ≤ 255) ∧ 0 ≤ A i ∧ A i ≤ 65535
theorem ops_of {H : Type} {enc : TypeId × Value → H} {W : World} {base : Nat} {v : Value} {d : DataW H} {p : List MemPlace}
    (hv : Value.okWide Tryd.prog W .any base 33 v) (h : DataW.Trod enc Tryd.prog W 0 (fun _ => true) true 33 v d p) :
    ∃ (a : Option Addr) (len cap : Nat) (K A V N : Nat → Int) (b o : Nat), v = .slice a len cap ∧ len ≤ 9223372036854775807 ∧ Scr W a len K A V N b o := by
  obtain ⟨a, len, cap, rfl⟩ := okWide_slice Tryd.underlying33 hv
  obtain ⟨fuel, hf⟩ := h
  rcases open_slice Tryd.underlying33 hf with ⟨hcs, _⟩ | ⟨x, l, c, m, n, D, Pl, hcs, _, hl, hm, hmm, _, hx⟩
  · simp [Value.cells] at hcs
    obtain ⟨rfl, rfl, rfl⟩ := hcs
    exact ⟨none, 0, 0, fun _ => 0, fun _ => 0, fun _ => 0, fun _ => 0, 0, 0, rfl, by decide, ⟨fun h => absurd h (by decide), fun i hi => absurd hi (by omega), fun i hi => absurd hi (by omega)⟩⟩
  · simp [Value.cells] at hcs
    obtain ⟨rfl, rfl, rfl⟩ := hcs
    simp only [if_true] at hmm
    subst hmm
    have each : ∀ i, i < len → ∃ q : Int × Int × Int × Int, W.cell? (x.add (i * 4)) = some (.int .i64 q.1) ∧ W.cell? (x.add (i * 4 + 1)) = some (.int .u16 q.2.1) ∧ W.cell? (x.add (i * 4 + 2)) = some (.int .u8 q.2.2.1) ∧ W.cell? (x.add (i * 4 + 3)) = some (.int .i64 q.2.2.2) ∧ (-9223372036854775808 ≤ q.2.2.2 ∧ q.2.2.2 ≤ 9223372036854775807) ∧ (0 ≤ q.2.2.1 ∧ q.2.2.1 ≤ 255) ∧ 0 ≤ q.2.1 ∧ q.2.1 ≤ 65535 := by
      intro i hi
      obtain ⟨cs', h1, h2⟩ := hx i (by omega)
      rw [cellsSt] at h1
      obtain ⟨_, hlen, hcell⟩ := World.cells?_some h1
      obtain ⟨xs, k, _, _, _, hxl, hfld⟩ := DataW.trod_struct Tryd.underlying35 h2
      have hxl' : xs.length = 4 := hxl
      match xs, hxl', cs', hlen with
      | [y0, y1, y2, y3], _, [v0, v1, v2, v3], _ =>
        have g0 : DataW.trod enc Tryd.prog W 0 (fun _ => true) true k 3 [v0] = some y0 := by
          have := hfld 0 _ rfl
          have e : [v0] = (([v0, v1, v2, v3] : List Value).drop 0).take (Tryd.prog.cellsOf 3) := by rw [cellsI]; rfl
          rw [e]; exact this
        have g1 : DataW.trod enc Tryd.prog W 0 (fun _ => true) true k 22 [v1] = some y1 := by
          have := hfld 1 _ rfl
          have e : [v1] = (([v0, v1, v2, v3] : List Value).drop 1).take (Tryd.prog.cellsOf 22) := by rw [cellsU16]; rfl
          rw [e]; exact this
        have g2 : DataW.trod enc Tryd.prog W 0 (fun _ => true) true k 5 [v2] = some y2 := by
          have := hfld 2 _ rfl
          have e : [v2] = (([v0, v1, v2, v3] : List Value).drop 2).take (Tryd.prog.cellsOf 5) := by rw [cellsU8]; rfl
          rw [e]; exact this
        have g3 : DataW.trod enc Tryd.prog W 0 (fun _ => true) true k 3 [v3] = some y3 := by
          have := hfld 3 _ rfl
          have e : [v3] = (([v0, v1, v2, v3] : List Value).drop 3).take (Tryd.prog.cellsOf 3) := by rw [cellsI]; rfl
          rw [e]; exact this
        obtain ⟨n0, e0, -, w0⟩ := DataW.trod_int Tryd.underlying3 g0
        obtain ⟨n1, e1, -, w1⟩ := DataW.trod_int Tryd.underlying22 g1
        obtain ⟨n2, e2, -, w2⟩ := DataW.trod_int Tryd.underlying5 g2
        obtain ⟨n3, e3, -, w3⟩ := DataW.trod_int Tryd.underlying3 g3
        simp only [List.cons.injEq, and_true] at e0 e1 e2 e3
        subst e0 e1 e2 e3
        have c0 := hcell 0 (by omega)
        have c1 := hcell 1 (by omega)
        have c2 := hcell 2 (by omega)
        have c3 := hcell 3 (by omega)
        rw [add_add] at c0 c1 c2 c3
        exact ⟨(n0, n1, n2, n3), by simpa using c0, by simpa using c1, by simpa using c2, by simpa using c3, wf64 w3, wf8 w2, wf16 w1⟩
    obtain ⟨q, hq⟩ := choose_lt each
    obtain ⟨xb, xo, xs⟩ := x
    by_cases hz : 0 < len
    · have h0 := (hq 0 hz).1
      have hs : xs = none := by
        have := World.cell?_spot (a := (⟨xb, xo, xs⟩ : Addr)) (by simpa [Addr.add] using h0)
        exact this
      subst hs
      have hb : xb < W.heap.size := cell_lt (p := ⟨xb, xo, none⟩) (by simpa [Addr.add] using h0)
      refine ⟨_, len, _, fun i => (q i).1, fun i => (q i).2.1, fun i => (q i).2.2.1, fun i => (q i).2.2.2, xb, xo, rfl, (by have hm9 : maxLen ≤ 9223372036854775807 := (by decide); omega), ⟨fun _ => ⟨rfl, hb⟩, fun i hi => ?_, fun i hi => ⟨(hq i hi).2.2.2.2.1, (hq i hi).2.2.2.2.2⟩⟩⟩
      obtain ⟨a0, a1, a2, a3, -⟩ := hq i hi
      rw [add_plain] at a0 a1 a2 a3
      exact ⟨a0, by rw [Nat.add_assoc]; exact a1, by rw [Nat.add_assoc]; exact a2, by rw [Nat.add_assoc]; exact a3⟩
    · exact ⟨_, len, _, fun _ => 0, fun _ => 0, fun _ => 0, fun _ => 0, 0, 0, rfl, by omega, ⟨fun h => absurd h hz, fun i hi => absurd hi (by omega), fun i hi => absurd hi (by omega)⟩⟩
end Go.Proofs.YtobiiogoofkmaaaDoor
