/-
  How a video memory and a list of bytes that are handed in are read; conditions: those of the row.
  How a board that is handed in is read: its cells, its numbers; conditions: those of the row.
  A witness for rows whose first argument is a video memory: it is read, it is of its kinds, it weighs nothing. (The kernel can't reckon these by itself: 12585 cells.)
-/
import Derived.Test.YtecaipakaaongaaXvPad
import Derived.ProofKit
import Derived.OpenShut
import Derived.ChangeOld
import Derived.Below
import Derived.Carry
import Derived.Deep.Slices
import Derived.Deep.SlicePairs
import Derived.SizedLaws
import Derived.Test.YtecaipakaaongaaMBase
import Derived.Test.YtecaipakaaongaaChecked
import Derived.Handed
set_option linter.unusedSimpArgs false
set_option linter.unusedVariables false
namespace Go.Proofs.Ytecaipakaaongaa
open Go.ChangeShapes Go.WideShapes Go.ChangeAt Go.RowKit Go.Deep Classical
theorem own : ownKnob Try.prog.godebug = none := by kernel_rfl
theorem laidOut : laidOutB Try.prog = true := by kernel_rfl
theorem cellsU : Try.prog.cellsOf 5 = 1 := by kernel_rfl
theorem cellsH : Try.prog.cellsOf 26 = 1 := by kernel_rfl
theorem cellsBo : Try.prog.cellsOf 4 = 1 := by kernel_rfl
theorem cellsVid : Try.prog.cellsOf 28 = 12585 := by kernel_rfl
theorem wf8 {n : Int} (h : (Lit.int .u8 n).wf = true) : 0 ≤ n ∧ n ≤ 255 := by
  simp [Lit.wf, IntKind.min, IntKind.max, IntKind.signed, IntKind.bits] at h
  omega
theorem wf16 {n : Int} (h : (Lit.int .u16 n).wf = true) : 0 ≤ n ∧ n ≤ 65535 := by
  simp [Lit.wf, IntKind.min, IntKind.max, IntKind.signed, IntKind.bits] at h
  omega
theorem one_at {L : List Value} {k : Nat} {v : Value} (h : (L.drop k).take 1 = [v]) : L[k]? = some v := by
  have := congrArg (fun l : List Value => l[0]?) h
  simpa [List.getElem?_take, List.getElem?_drop] using this
theorem sub_at {L : List Value} {o n k : Nat} {v : Value} (h : ((L.drop o).take n)[k]? = some v) : L[o + k]? = some v := by
  rw [List.getElem?_take] at h
  split at h
  · rwa [List.getElem?_drop] at h
  · cases h
theorem byte_of {H : Type} {enc : TypeId × Value → H} {W : World} {n : Nat} {L : List Value} {x : DataW H × List MemPlace}
    (h : DataW.trod enc Try.prog W 0 (fun _ => true) true n 5 L = some x) : ∃ m : Nat, m < 256 ∧ L = [.int .u8 (m : Nat)] := by
  obtain ⟨v, e, -, w⟩ := DataW.trod_int Try.underlying5 h
  have := wf8 w
  refine ⟨v.toNat, by omega, ?_⟩
  rw [e, show ((v.toNat : Nat) : Int) = v by omega]
theorem half_of {H : Type} {enc : TypeId × Value → H} {W : World} {n : Nat} {L : List Value} {x : DataW H × List MemPlace}
    (h : DataW.trod enc Try.prog W 0 (fun _ => true) true n 26 L = some x) : ∃ m : Nat, m < 65536 ∧ L = [.int .u16 (m : Nat)] := by
  obtain ⟨v, e, -, w⟩ := DataW.trod_int Try.underlying26 h
  have := wf16 w
  refine ⟨v.toNat, by omega, ?_⟩
  rw [e, show ((v.toNat : Nat) : Int) = v by omega]
theorem truth_of {H : Type} {enc : TypeId × Value → H} {W : World} {n : Nat} {L : List Value} {x : DataW H × List MemPlace}
    (h : DataW.trod enc Try.prog W 0 (fun _ => true) true n 4 L = some x) : ∃ m : Nat, m < 2 ∧ L = [.bool (m != 0)] := by
  obtain ⟨v, e, -⟩ := DataW.trod_bool Try.underlying4 h
  cases v
  · exact ⟨0, by decide, e⟩
  · exact ⟨1, by decide, e⟩
theorem bytes_of {H : Type} {enc : TypeId × Value → H} {W : World} {n N T : Nat} {L : List Value} {x : DataW H × List MemPlace} (hu : Try.prog.underlying T = some (.array N 5))
    (h : DataW.trod enc Try.prog W 0 (fun _ => true) true n T L = some x) (k : Nat) (hk : k < N) : ∃ m : Nat, m < 256 ∧ L[k]? = some (.int .u8 (m : Nat)) := by
  obtain ⟨ys, n', -, -, -, hyl, hys⟩ := DataW.trod_array hu h
  have g := hys k (by omega)
  rw [List.getElem?_eq_getElem (show k < ys.length by omega), cellsU, Nat.mul_one] at g
  obtain ⟨m, hm, e⟩ := byte_of g
  exact ⟨m, hm, one_at e⟩
/-- Cell i is of its kind. -/
def Cok (L : List Value) (i : Nat) : Prop := ∃ m : Nat, L[i]? = some (cel i m) ∧ m < (if i < 12577 then 256 else if i < 12579 then 65536 else if i = 12579 then 256 else if i < 12583 then 2 else 256)
theorem vid_of_cells {cs : Array Value} (hs : cs.size = 12585) (h : ∀ i, i < 12585 → Cok cs.toList i) : ∃ f, Vid cs f ∧ Fok f := by
  have h2 : ∀ i, ∃ m : Nat, i < 12585 → cs.toList[i]? = some (cel i m) ∧ m < (if i < 12577 then 256 else if i < 12579 then 65536 else if i = 12579 then 256 else if i < 12583 then 2 else 256) := fun i => by
    by_cases hi : i < 12585
    · obtain ⟨m, a, b⟩ := h i hi
      exact ⟨m, fun _ => ⟨a, b⟩⟩
    · exact ⟨0, fun c => absurd c hi⟩
  obtain ⟨f, hf⟩ := Classical.axiomOfChoice h2
  refine ⟨f, ⟨hs, fun i hi => by rw [← Array.getElem?_toList]; exact (hf i hi).1⟩, ?_⟩
  refine ⟨fun i hi => ?_, ?_, ?_, ?_, ?_, ?_, ?_, ?_, ?_⟩
  · have := (hf i (by omega)).2; rw [if_pos hi] at this; exact this
  · exact (hf 12577 (by decide)).2
  · exact (hf 12578 (by decide)).2
  · exact (hf 12579 (by decide)).2
  · exact (hf 12580 (by decide)).2
  · exact (hf 12581 (by decide)).2
  · exact (hf 12582 (by decide)).2
  · exact (hf 12583 (by decide)).2
  · exact (hf 12584 (by decide)).2
set_option maxRecDepth 100000 in
theorem vid_of {H : Type} {enc : TypeId × Value → H} {W : World} {base : Nat} {v : Value} {d : DataW H} {p : List MemPlace}
    (hv : Value.okWide Try.prog W .any base 28 v) (h : DataW.Trod enc Try.prog W 0 (fun _ => true) true 28 v d p) :
    ∃ cs f, v = .agg cs ∧ Vid cs f ∧ Fok f := by
  obtain ⟨cs, rfl, hcs⟩ := okWide_struct Try.underlying28 hv
  rw [cellsVid] at hcs
  obtain ⟨fuel, hf⟩ := h
  obtain ⟨xs, n, _, -, -, hxl, hfld⟩ := DataW.trod_struct Try.underlying28 hf
  have hxl' : xs.length = 13 := hxl
  have s1 : Cok cs.toList 256 := by
    have := hfld 1 _ rfl
    rw [List.getElem?_eq_getElem (show 1 < xs.length by omega)] at this
    have g : DataW.trod enc Try.prog W 0 (fun _ => true) true n 5 ((cs.toList.drop 256).take (Try.prog.cellsOf 5)) = some (xs[1]'(by omega)) := this
    obtain ⟨m, hm, e⟩ := byte_of g
    rw [show Try.prog.cellsOf 5 = 1 by kernel_rfl] at e
    exact ⟨m, one_at e, hm⟩
  have s5 : Cok cs.toList 12577 := by
    have := hfld 5 _ rfl
    rw [List.getElem?_eq_getElem (show 5 < xs.length by omega)] at this
    have g : DataW.trod enc Try.prog W 0 (fun _ => true) true n 26 ((cs.toList.drop 12577).take (Try.prog.cellsOf 26)) = some (xs[5]'(by omega)) := this
    obtain ⟨m, hm, e⟩ := half_of g
    rw [show Try.prog.cellsOf 26 = 1 by kernel_rfl] at e
    exact ⟨m, one_at e, hm⟩
  have s6 : Cok cs.toList 12578 := by
    have := hfld 6 _ rfl
    rw [List.getElem?_eq_getElem (show 6 < xs.length by omega)] at this
    have g : DataW.trod enc Try.prog W 0 (fun _ => true) true n 26 ((cs.toList.drop 12578).take (Try.prog.cellsOf 26)) = some (xs[6]'(by omega)) := this
    obtain ⟨m, hm, e⟩ := half_of g
    rw [show Try.prog.cellsOf 26 = 1 by kernel_rfl] at e
    exact ⟨m, one_at e, hm⟩
  have s7 : Cok cs.toList 12579 := by
    have := hfld 7 _ rfl
    rw [List.getElem?_eq_getElem (show 7 < xs.length by omega)] at this
    have g : DataW.trod enc Try.prog W 0 (fun _ => true) true n 5 ((cs.toList.drop 12579).take (Try.prog.cellsOf 5)) = some (xs[7]'(by omega)) := this
    obtain ⟨m, hm, e⟩ := byte_of g
    rw [show Try.prog.cellsOf 5 = 1 by kernel_rfl] at e
    exact ⟨m, one_at e, hm⟩
  have s8 : Cok cs.toList 12580 := by
    have := hfld 8 _ rfl
    rw [List.getElem?_eq_getElem (show 8 < xs.length by omega)] at this
    have g : DataW.trod enc Try.prog W 0 (fun _ => true) true n 4 ((cs.toList.drop 12580).take (Try.prog.cellsOf 4)) = some (xs[8]'(by omega)) := this
    obtain ⟨m, hm, e⟩ := truth_of g
    rw [show Try.prog.cellsOf 4 = 1 by kernel_rfl] at e
    exact ⟨m, one_at e, hm⟩
  have s9 : Cok cs.toList 12581 := by
    have := hfld 9 _ rfl
    rw [List.getElem?_eq_getElem (show 9 < xs.length by omega)] at this
    have g : DataW.trod enc Try.prog W 0 (fun _ => true) true n 4 ((cs.toList.drop 12581).take (Try.prog.cellsOf 4)) = some (xs[9]'(by omega)) := this
    obtain ⟨m, hm, e⟩ := truth_of g
    rw [show Try.prog.cellsOf 4 = 1 by kernel_rfl] at e
    exact ⟨m, one_at e, hm⟩
  have s10 : Cok cs.toList 12582 := by
    have := hfld 10 _ rfl
    rw [List.getElem?_eq_getElem (show 10 < xs.length by omega)] at this
    have g : DataW.trod enc Try.prog W 0 (fun _ => true) true n 4 ((cs.toList.drop 12582).take (Try.prog.cellsOf 4)) = some (xs[10]'(by omega)) := this
    obtain ⟨m, hm, e⟩ := truth_of g
    rw [show Try.prog.cellsOf 4 = 1 by kernel_rfl] at e
    exact ⟨m, one_at e, hm⟩
  have s11 : Cok cs.toList 12583 := by
    have := hfld 11 _ rfl
    rw [List.getElem?_eq_getElem (show 11 < xs.length by omega)] at this
    have g : DataW.trod enc Try.prog W 0 (fun _ => true) true n 5 ((cs.toList.drop 12583).take (Try.prog.cellsOf 5)) = some (xs[11]'(by omega)) := this
    obtain ⟨m, hm, e⟩ := byte_of g
    rw [show Try.prog.cellsOf 5 = 1 by kernel_rfl] at e
    exact ⟨m, one_at e, hm⟩
  have s12 : Cok cs.toList 12584 := by
    have := hfld 12 _ rfl
    rw [List.getElem?_eq_getElem (show 12 < xs.length by omega)] at this
    have g : DataW.trod enc Try.prog W 0 (fun _ => true) true n 5 ((cs.toList.drop 12584).take (Try.prog.cellsOf 5)) = some (xs[12]'(by omega)) := this
    obtain ⟨m, hm, e⟩ := byte_of g
    rw [show Try.prog.cellsOf 5 = 1 by kernel_rfl] at e
    exact ⟨m, one_at e, hm⟩
  have a0 : ∀ k, k < 256 → Cok cs.toList (0 + k) := fun k hk => by
    have := hfld 0 _ rfl
    rw [List.getElem?_eq_getElem (show 0 < xs.length by omega)] at this
    have g : DataW.trod enc Try.prog W 0 (fun _ => true) true n 22 ((cs.toList.drop 0).take (Try.prog.cellsOf 22)) = some (xs[0]'(by omega)) := this
    obtain ⟨m, hm, e⟩ := bytes_of Try.underlying22 g k hk
    refine ⟨m, ?_, by rw [if_pos (by omega)]; exact hm⟩
    rw [cel_b _ (by omega)]
    exact sub_at e
  have a2 : ∀ k, k < 4096 → Cok cs.toList (257 + k) := fun k hk => by
    have := hfld 2 _ rfl
    rw [List.getElem?_eq_getElem (show 2 < xs.length by omega)] at this
    have g : DataW.trod enc Try.prog W 0 (fun _ => true) true n 23 ((cs.toList.drop 257).take (Try.prog.cellsOf 23)) = some (xs[2]'(by omega)) := this
    obtain ⟨m, hm, e⟩ := bytes_of Try.underlying23 g k hk
    refine ⟨m, ?_, by rw [if_pos (by omega)]; exact hm⟩
    rw [cel_b _ (by omega)]
    exact sub_at e
  have a3 : ∀ k, k < 32 → Cok cs.toList (4353 + k) := fun k hk => by
    have := hfld 3 _ rfl
    rw [List.getElem?_eq_getElem (show 3 < xs.length by omega)] at this
    have g : DataW.trod enc Try.prog W 0 (fun _ => true) true n 24 ((cs.toList.drop 4353).take (Try.prog.cellsOf 24)) = some (xs[3]'(by omega)) := this
    obtain ⟨m, hm, e⟩ := bytes_of Try.underlying24 g k hk
    refine ⟨m, ?_, by rw [if_pos (by omega)]; exact hm⟩
    rw [cel_b _ (by omega)]
    exact sub_at e
  have a4 : ∀ k, k < 8192 → Cok cs.toList (4385 + k) := fun k hk => by
    have := hfld 4 _ rfl
    rw [List.getElem?_eq_getElem (show 4 < xs.length by omega)] at this
    have g : DataW.trod enc Try.prog W 0 (fun _ => true) true n 25 ((cs.toList.drop 4385).take (Try.prog.cellsOf 25)) = some (xs[4]'(by omega)) := this
    obtain ⟨m, hm, e⟩ := bytes_of Try.underlying25 g k hk
    refine ⟨m, ?_, by rw [if_pos (by omega)]; exact hm⟩
    rw [cel_b _ (by omega)]
    exact sub_at e
  obtain ⟨f, V, F⟩ := vid_of_cells hcs fun i hi => by
    by_cases h1 : i < 256
    · have := a0 i h1; rwa [Nat.zero_add] at this
    by_cases h2 : i = 256
    · rw [h2]; exact s1
    by_cases h3 : i < 4353
    · have := a2 (i - 257) (by omega); rwa [show 257 + (i - 257) = i by omega] at this
    by_cases h4 : i < 4385
    · have := a3 (i - 4353) (by omega); rwa [show 4353 + (i - 4353) = i by omega] at this
    by_cases h5 : i < 12577
    · have := a4 (i - 4385) (by omega); rwa [show 4385 + (i - 4385) = i by omega] at this
    have : i = 12577 ∨ i = 12578 ∨ i = 12579 ∨ i = 12580 ∨ i = 12581 ∨ i = 12582 ∨ i = 12583 ∨ i = 12584 := by omega
    rcases this with rfl | rfl | rfl | rfl | rfl | rfl | rfl | rfl
    · exact s5
    · exact s6
    · exact s7
    · exact s8
    · exact s9
    · exact s10
    · exact s11
    · exact s12
  exact ⟨cs, f, rfl, V, F⟩
theorem u8s_of {H : Type} {enc : TypeId × Value → H} {W : World} {a : Option Addr} {len cap : Nat} {d : DataW H} {p : List MemPlace}
    (h : DataW.Trod enc Try.prog W 0 (fun _ => true) true 29 (Value.slice a len cap) d p) :
    ∃ l : List Nat, l.length = len ∧ (∀ k, k < len → l.getD k 0 < 256) ∧ RowV W a len cap l := by
  obtain ⟨fuel, hf⟩ := h
  rcases open_ints Try.underlying29 Try.underlying5 (by kernel_rfl) hf with ⟨hcs, _⟩ | ⟨x, l, c, zs, hcs, _, hl, hm, hz, hx, hcell, hwz⟩
  · simp [Value.cells] at hcs
    obtain ⟨rfl, rfl, rfl⟩ := hcs
    exact ⟨[], rfl, fun k hk => absurd hk (by omega), .inl ⟨rfl, rfl, rfl⟩⟩
  · simp [Value.cells] at hcs
    obtain ⟨rfl, rfl, rfl⟩ := hcs
    simp only [if_true] at hz
    obtain ⟨L, hL⟩ : ∃ L : List Nat, L = (zs.take len).map Int.toNat := ⟨_, rfl⟩
    have hg : ∀ k, k < len → ((L.getD k 0 : Nat) : Int) = zs.getD k 0 ∧ L.getD k 0 < 256 := fun k hk => by
      have hkz : k < zs.length := by omega
      have := wf8 (hwz zs[k] (List.getElem_mem hkz))
      have e1 : L.getD k 0 = (zs[k]).toNat := by
        rw [hL, List.getD_eq_getElem?_getD, List.getElem?_map, List.getElem?_take_of_lt hk, List.getElem?_eq_getElem hkz]; rfl
      have e2 : zs.getD k 0 = zs[k] := by rw [List.getD_eq_getElem?_getD, List.getElem?_eq_getElem hkz]; rfl
      rw [e1, e2]
      omega
    refine ⟨L, by rw [hL, List.length_map, List.length_take]; omega, fun k hk => (hg k hk).2, ?_⟩
    obtain ⟨b, off, spot⟩ := x
    by_cases h0 : len = 0
    · exact .inr ⟨_, rfl, .inl h0⟩
    · have hc := hcell 0 (by omega)
      have hspot : spot = none := by simpa [Addr.add] using World.cell?_spot hc
      subst hspot
      have hc0 : W.cell? ⟨b, off + 0, none⟩ = some (.int .u8 (zs.getD 0 0)) := by rw [← Addr.add_lit]; exact hc
      refine .inr ⟨_, rfl, .inr ⟨b, off, rfl, cell_lt hc0, fun k hk => ?_⟩⟩
      have := hcell k (by omega)
      rw [Addr.add_lit] at this
      rw [this, (hg k hk).1]
end Go.Proofs.Ytecaipakaaongaa
namespace Go.Proofs.Ytecaipakaaongaa
open Go.ChangeShapes Go.WideShapes Go.ChangeAt Go.RowKit Classical
theorem cellsBoard : Try.prog.cellsOf 37 = 31 := by kernel_rfl
theorem cellsI : Try.prog.cellsOf 3 = 1 := by kernel_rfl
theorem cellsM : Try.prog.cellsOf 34 = 1 := by kernel_rfl
theorem cellsB : Try.prog.cellsOf 4 = 1 := by kernel_rfl
theorem cellsR : Try.prog.cellsOf 35 = 8 := by kernel_rfl
theorem list31 {l : List Value} (h : l.length = 31) : ∃ c0 c1 c2 c3 c4 c5 c6 c7 c8 c9 c10 c11 c12 c13 c14 c15 c16 c17 c18 c19 c20 c21 c22 c23 c24 c25 c26 c27 c28 c29 c30, l = [c0, c1, c2, c3, c4, c5, c6, c7, c8, c9, c10, c11, c12, c13, c14, c15, c16, c17, c18, c19, c20, c21, c22, c23, c24, c25, c26, c27, c28, c29, c30] := by
  match l, h with
  | [c0, c1, c2, c3, c4, c5, c6, c7, c8, c9, c10, c11, c12, c13, c14, c15, c16, c17, c18, c19, c20, c21, c22, c23, c24, c25, c26, c27, c28, c29, c30], _ => exact ⟨_, _, _, _, _, _, _, _, _, _, _, _, _, _, _, _, _, _, _, _, _, _, _, _, _, _, _, _, _, _, _, rfl⟩
theorem wf64 {n : Int} (h : (Lit.int .i64 n).wf = true) : -9223372036854775808 ≤ n ∧ n ≤ 9223372036854775807 := by
  simp [Lit.wf, IntKind.min, IntKind.max, IntKind.signed, IntKind.bits] at h
  omega
set_option maxRecDepth 100000 in
theorem board_of {H : Type} {enc : TypeId × Value → H} {W : World} {base : Nat} {v : Value} {d : DataW H} {p : List MemPlace}
    (hv : Value.okWide Try.prog W .any base 37 v) (h : DataW.Trod enc Try.prog W 0 (fun _ => true) true 37 v d p) : ∃ b : Bd, b.Wf ∧ v = .agg b.cells := by
  obtain ⟨cs, rfl, hcs⟩ := okWide_struct Try.underlying37 hv
  rw [cellsBoard] at hcs
  obtain ⟨l⟩ := cs
  obtain ⟨c0, c1, c2, c3, c4, c5, c6, c7, c8, c9, c10, c11, c12, c13, c14, c15, c16, c17, c18, c19, c20, c21, c22, c23, c24, c25, c26, c27, c28, c29, c30, rfl⟩ := list31 (l := l) (by simpa using hcs)
  obtain ⟨fuel, hf⟩ := h
  obtain ⟨xs, n, _, -, -, hxl, hfld⟩ := DataW.trod_struct Try.underlying37 hf
  have hxl' : xs.length = 24 := hxl
  have f0 : DataW.trod enc Try.prog W 0 (fun _ => true) true n 3 [c0] = some (xs[0]'(by omega)) := by
    have := hfld 0 _ rfl
    rw [List.getElem?_eq_getElem (show 0 < xs.length by omega)] at this
    have e : [c0] = (([c0, c1, c2, c3, c4, c5, c6, c7, c8, c9, c10, c11, c12, c13, c14, c15, c16, c17, c18, c19, c20, c21, c22, c23, c24, c25, c26, c27, c28, c29, c30] : List Value).drop 0).take (Try.prog.cellsOf 3) := by rw [cellsI]; rfl
    rw [e]; exact this
  obtain ⟨v0, e, -, w0⟩ := DataW.trod_int Try.underlying3 f0
  simp only [List.cons.injEq, and_true] at e
  subst e
  have f1 : DataW.trod enc Try.prog W 0 (fun _ => true) true n 3 [c1] = some (xs[1]'(by omega)) := by
    have := hfld 1 _ rfl
    rw [List.getElem?_eq_getElem (show 1 < xs.length by omega)] at this
    have e : [c1] = (([.int .i64 v0, c1, c2, c3, c4, c5, c6, c7, c8, c9, c10, c11, c12, c13, c14, c15, c16, c17, c18, c19, c20, c21, c22, c23, c24, c25, c26, c27, c28, c29, c30] : List Value).drop 1).take (Try.prog.cellsOf 3) := by rw [cellsI]; rfl
    rw [e]; exact this
  obtain ⟨v1, e, -, w1⟩ := DataW.trod_int Try.underlying3 f1
  simp only [List.cons.injEq, and_true] at e
  subst e
  have f2 : DataW.trod enc Try.prog W 0 (fun _ => true) true n 34 [c2] = some (xs[2]'(by omega)) := by
    have := hfld 2 _ rfl
    rw [List.getElem?_eq_getElem (show 2 < xs.length by omega)] at this
    have e : [c2] = (([.int .i64 v0, .int .i64 v1, c2, c3, c4, c5, c6, c7, c8, c9, c10, c11, c12, c13, c14, c15, c16, c17, c18, c19, c20, c21, c22, c23, c24, c25, c26, c27, c28, c29, c30] : List Value).drop 2).take (Try.prog.cellsOf 34) := by rw [cellsM]; rfl
    rw [e]; exact this
  obtain ⟨v2, e, -, w2⟩ := DataW.trod_int Try.underlying34 f2
  simp only [List.cons.injEq, and_true] at e
  subst e
  have f3 : DataW.trod enc Try.prog W 0 (fun _ => true) true n 4 [c3] = some (xs[3]'(by omega)) := by
    have := hfld 3 _ rfl
    rw [List.getElem?_eq_getElem (show 3 < xs.length by omega)] at this
    have e : [c3] = (([.int .i64 v0, .int .i64 v1, .int .u8 v2, c3, c4, c5, c6, c7, c8, c9, c10, c11, c12, c13, c14, c15, c16, c17, c18, c19, c20, c21, c22, c23, c24, c25, c26, c27, c28, c29, c30] : List Value).drop 3).take (Try.prog.cellsOf 4) := by rw [cellsB]; rfl
    rw [e]; exact this
  obtain ⟨v3, e, -⟩ := DataW.trod_bool Try.underlying4 f3
  simp only [List.cons.injEq, and_true] at e
  subst e
  have f4 : DataW.trod enc Try.prog W 0 (fun _ => true) true n 3 [c4] = some (xs[4]'(by omega)) := by
    have := hfld 4 _ rfl
    rw [List.getElem?_eq_getElem (show 4 < xs.length by omega)] at this
    have e : [c4] = (([.int .i64 v0, .int .i64 v1, .int .u8 v2, .bool v3, c4, c5, c6, c7, c8, c9, c10, c11, c12, c13, c14, c15, c16, c17, c18, c19, c20, c21, c22, c23, c24, c25, c26, c27, c28, c29, c30] : List Value).drop 4).take (Try.prog.cellsOf 3) := by rw [cellsI]; rfl
    rw [e]; exact this
  obtain ⟨v4, e, -, w4⟩ := DataW.trod_int Try.underlying3 f4
  simp only [List.cons.injEq, and_true] at e
  subst e
  have f5 : DataW.trod enc Try.prog W 0 (fun _ => true) true n 3 [c5] = some (xs[5]'(by omega)) := by
    have := hfld 5 _ rfl
    rw [List.getElem?_eq_getElem (show 5 < xs.length by omega)] at this
    have e : [c5] = (([.int .i64 v0, .int .i64 v1, .int .u8 v2, .bool v3, .int .i64 v4, c5, c6, c7, c8, c9, c10, c11, c12, c13, c14, c15, c16, c17, c18, c19, c20, c21, c22, c23, c24, c25, c26, c27, c28, c29, c30] : List Value).drop 5).take (Try.prog.cellsOf 3) := by rw [cellsI]; rfl
    rw [e]; exact this
  obtain ⟨v5, e, -, w5⟩ := DataW.trod_int Try.underlying3 f5
  simp only [List.cons.injEq, and_true] at e
  subst e
  have f6 : DataW.trod enc Try.prog W 0 (fun _ => true) true n 4 [c6] = some (xs[6]'(by omega)) := by
    have := hfld 6 _ rfl
    rw [List.getElem?_eq_getElem (show 6 < xs.length by omega)] at this
    have e : [c6] = (([.int .i64 v0, .int .i64 v1, .int .u8 v2, .bool v3, .int .i64 v4, .int .i64 v5, c6, c7, c8, c9, c10, c11, c12, c13, c14, c15, c16, c17, c18, c19, c20, c21, c22, c23, c24, c25, c26, c27, c28, c29, c30] : List Value).drop 6).take (Try.prog.cellsOf 4) := by rw [cellsB]; rfl
    rw [e]; exact this
  obtain ⟨v6, e, -⟩ := DataW.trod_bool Try.underlying4 f6
  simp only [List.cons.injEq, and_true] at e
  subst e
  have f7 : DataW.trod enc Try.prog W 0 (fun _ => true) true n 5 [c7] = some (xs[7]'(by omega)) := by
    have := hfld 7 _ rfl
    rw [List.getElem?_eq_getElem (show 7 < xs.length by omega)] at this
    have e : [c7] = (([.int .i64 v0, .int .i64 v1, .int .u8 v2, .bool v3, .int .i64 v4, .int .i64 v5, .bool v6, c7, c8, c9, c10, c11, c12, c13, c14, c15, c16, c17, c18, c19, c20, c21, c22, c23, c24, c25, c26, c27, c28, c29, c30] : List Value).drop 7).take (Try.prog.cellsOf 5) := by rw [cellsU]; rfl
    rw [e]; exact this
  obtain ⟨v7, e, -, w7⟩ := DataW.trod_int Try.underlying5 f7
  simp only [List.cons.injEq, and_true] at e
  subst e
  have f8 : DataW.trod enc Try.prog W 0 (fun _ => true) true n 5 [c8] = some (xs[8]'(by omega)) := by
    have := hfld 8 _ rfl
    rw [List.getElem?_eq_getElem (show 8 < xs.length by omega)] at this
    have e : [c8] = (([.int .i64 v0, .int .i64 v1, .int .u8 v2, .bool v3, .int .i64 v4, .int .i64 v5, .bool v6, .int .u8 v7, c8, c9, c10, c11, c12, c13, c14, c15, c16, c17, c18, c19, c20, c21, c22, c23, c24, c25, c26, c27, c28, c29, c30] : List Value).drop 8).take (Try.prog.cellsOf 5) := by rw [cellsU]; rfl
    rw [e]; exact this
  obtain ⟨v8, e, -, w8⟩ := DataW.trod_int Try.underlying5 f8
  simp only [List.cons.injEq, and_true] at e
  subst e
  have f9 : DataW.trod enc Try.prog W 0 (fun _ => true) true n 5 [c9] = some (xs[9]'(by omega)) := by
    have := hfld 9 _ rfl
    rw [List.getElem?_eq_getElem (show 9 < xs.length by omega)] at this
    have e : [c9] = (([.int .i64 v0, .int .i64 v1, .int .u8 v2, .bool v3, .int .i64 v4, .int .i64 v5, .bool v6, .int .u8 v7, .int .u8 v8, c9, c10, c11, c12, c13, c14, c15, c16, c17, c18, c19, c20, c21, c22, c23, c24, c25, c26, c27, c28, c29, c30] : List Value).drop 9).take (Try.prog.cellsOf 5) := by rw [cellsU]; rfl
    rw [e]; exact this
  obtain ⟨v9, e, -, w9⟩ := DataW.trod_int Try.underlying5 f9
  simp only [List.cons.injEq, and_true] at e
  subst e
  have f10 : DataW.trod enc Try.prog W 0 (fun _ => true) true n 5 [c10] = some (xs[10]'(by omega)) := by
    have := hfld 10 _ rfl
    rw [List.getElem?_eq_getElem (show 10 < xs.length by omega)] at this
    have e : [c10] = (([.int .i64 v0, .int .i64 v1, .int .u8 v2, .bool v3, .int .i64 v4, .int .i64 v5, .bool v6, .int .u8 v7, .int .u8 v8, .int .u8 v9, c10, c11, c12, c13, c14, c15, c16, c17, c18, c19, c20, c21, c22, c23, c24, c25, c26, c27, c28, c29, c30] : List Value).drop 10).take (Try.prog.cellsOf 5) := by rw [cellsU]; rfl
    rw [e]; exact this
  obtain ⟨v10, e, -, w10⟩ := DataW.trod_int Try.underlying5 f10
  simp only [List.cons.injEq, and_true] at e
  subst e
  have f11 : DataW.trod enc Try.prog W 0 (fun _ => true) true n 5 [c11] = some (xs[11]'(by omega)) := by
    have := hfld 11 _ rfl
    rw [List.getElem?_eq_getElem (show 11 < xs.length by omega)] at this
    have e : [c11] = (([.int .i64 v0, .int .i64 v1, .int .u8 v2, .bool v3, .int .i64 v4, .int .i64 v5, .bool v6, .int .u8 v7, .int .u8 v8, .int .u8 v9, .int .u8 v10, c11, c12, c13, c14, c15, c16, c17, c18, c19, c20, c21, c22, c23, c24, c25, c26, c27, c28, c29, c30] : List Value).drop 11).take (Try.prog.cellsOf 5) := by rw [cellsU]; rfl
    rw [e]; exact this
  obtain ⟨v11, e, -, w11⟩ := DataW.trod_int Try.underlying5 f11
  simp only [List.cons.injEq, and_true] at e
  subst e
  have f12 : DataW.trod enc Try.prog W 0 (fun _ => true) true n 3 [c12] = some (xs[12]'(by omega)) := by
    have := hfld 12 _ rfl
    rw [List.getElem?_eq_getElem (show 12 < xs.length by omega)] at this
    have e : [c12] = (([.int .i64 v0, .int .i64 v1, .int .u8 v2, .bool v3, .int .i64 v4, .int .i64 v5, .bool v6, .int .u8 v7, .int .u8 v8, .int .u8 v9, .int .u8 v10, .int .u8 v11, c12, c13, c14, c15, c16, c17, c18, c19, c20, c21, c22, c23, c24, c25, c26, c27, c28, c29, c30] : List Value).drop 12).take (Try.prog.cellsOf 3) := by rw [cellsI]; rfl
    rw [e]; exact this
  obtain ⟨v12, e, -, w12⟩ := DataW.trod_int Try.underlying3 f12
  simp only [List.cons.injEq, and_true] at e
  subst e
  have f13 : DataW.trod enc Try.prog W 0 (fun _ => true) true n 5 [c13] = some (xs[13]'(by omega)) := by
    have := hfld 13 _ rfl
    rw [List.getElem?_eq_getElem (show 13 < xs.length by omega)] at this
    have e : [c13] = (([.int .i64 v0, .int .i64 v1, .int .u8 v2, .bool v3, .int .i64 v4, .int .i64 v5, .bool v6, .int .u8 v7, .int .u8 v8, .int .u8 v9, .int .u8 v10, .int .u8 v11, .int .i64 v12, c13, c14, c15, c16, c17, c18, c19, c20, c21, c22, c23, c24, c25, c26, c27, c28, c29, c30] : List Value).drop 13).take (Try.prog.cellsOf 5) := by rw [cellsU]; rfl
    rw [e]; exact this
  obtain ⟨v13, e, -, w13⟩ := DataW.trod_int Try.underlying5 f13
  simp only [List.cons.injEq, and_true] at e
  subst e
  have f14 : DataW.trod enc Try.prog W 0 (fun _ => true) true n 5 [c14] = some (xs[14]'(by omega)) := by
    have := hfld 14 _ rfl
    rw [List.getElem?_eq_getElem (show 14 < xs.length by omega)] at this
    have e : [c14] = (([.int .i64 v0, .int .i64 v1, .int .u8 v2, .bool v3, .int .i64 v4, .int .i64 v5, .bool v6, .int .u8 v7, .int .u8 v8, .int .u8 v9, .int .u8 v10, .int .u8 v11, .int .i64 v12, .int .u8 v13, c14, c15, c16, c17, c18, c19, c20, c21, c22, c23, c24, c25, c26, c27, c28, c29, c30] : List Value).drop 14).take (Try.prog.cellsOf 5) := by rw [cellsU]; rfl
    rw [e]; exact this
  obtain ⟨v14, e, -, w14⟩ := DataW.trod_int Try.underlying5 f14
  simp only [List.cons.injEq, and_true] at e
  subst e
  have f15 := hfld 15 _ rfl
  rw [List.getElem?_eq_getElem (show 15 < xs.length by omega)] at f15
  obtain ⟨ys, n', -, -, -, hyl, hys⟩ := DataW.trod_array Try.underlying35 f15
  have g0 : DataW.trod enc Try.prog W 0 (fun _ => true) true n' 5 [c15] = some (ys[0]'(by omega)) := by
    have := hys 0 (by omega)
    rw [List.getElem?_eq_getElem (show 0 < ys.length by omega)] at this
    have e : [c15] = (((([.int .i64 v0, .int .i64 v1, .int .u8 v2, .bool v3, .int .i64 v4, .int .i64 v5, .bool v6, .int .u8 v7, .int .u8 v8, .int .u8 v9, .int .u8 v10, .int .u8 v11, .int .i64 v12, .int .u8 v13, .int .u8 v14, c15, c16, c17, c18, c19, c20, c21, c22, c23, c24, c25, c26, c27, c28, c29, c30] : List Value).drop 15).take (Try.prog.cellsOf 35)).drop (0 * Try.prog.cellsOf 5)).take (Try.prog.cellsOf 5) := by rw [cellsU, cellsR]; rfl
    rw [e]; exact this
  obtain ⟨r0, e, -, wr0⟩ := DataW.trod_int Try.underlying5 g0
  simp only [List.cons.injEq, and_true] at e
  subst e
  have g1 : DataW.trod enc Try.prog W 0 (fun _ => true) true n' 5 [c16] = some (ys[1]'(by omega)) := by
    have := hys 1 (by omega)
    rw [List.getElem?_eq_getElem (show 1 < ys.length by omega)] at this
    have e : [c16] = (((([.int .i64 v0, .int .i64 v1, .int .u8 v2, .bool v3, .int .i64 v4, .int .i64 v5, .bool v6, .int .u8 v7, .int .u8 v8, .int .u8 v9, .int .u8 v10, .int .u8 v11, .int .i64 v12, .int .u8 v13, .int .u8 v14, .int .u8 r0, c16, c17, c18, c19, c20, c21, c22, c23, c24, c25, c26, c27, c28, c29, c30] : List Value).drop 15).take (Try.prog.cellsOf 35)).drop (1 * Try.prog.cellsOf 5)).take (Try.prog.cellsOf 5) := by rw [cellsU, cellsR]; rfl
    rw [e]; exact this
  obtain ⟨r1, e, -, wr1⟩ := DataW.trod_int Try.underlying5 g1
  simp only [List.cons.injEq, and_true] at e
  subst e
  have g2 : DataW.trod enc Try.prog W 0 (fun _ => true) true n' 5 [c17] = some (ys[2]'(by omega)) := by
    have := hys 2 (by omega)
    rw [List.getElem?_eq_getElem (show 2 < ys.length by omega)] at this
    have e : [c17] = (((([.int .i64 v0, .int .i64 v1, .int .u8 v2, .bool v3, .int .i64 v4, .int .i64 v5, .bool v6, .int .u8 v7, .int .u8 v8, .int .u8 v9, .int .u8 v10, .int .u8 v11, .int .i64 v12, .int .u8 v13, .int .u8 v14, .int .u8 r0, .int .u8 r1, c17, c18, c19, c20, c21, c22, c23, c24, c25, c26, c27, c28, c29, c30] : List Value).drop 15).take (Try.prog.cellsOf 35)).drop (2 * Try.prog.cellsOf 5)).take (Try.prog.cellsOf 5) := by rw [cellsU, cellsR]; rfl
    rw [e]; exact this
  obtain ⟨r2, e, -, wr2⟩ := DataW.trod_int Try.underlying5 g2
  simp only [List.cons.injEq, and_true] at e
  subst e
  have g3 : DataW.trod enc Try.prog W 0 (fun _ => true) true n' 5 [c18] = some (ys[3]'(by omega)) := by
    have := hys 3 (by omega)
    rw [List.getElem?_eq_getElem (show 3 < ys.length by omega)] at this
    have e : [c18] = (((([.int .i64 v0, .int .i64 v1, .int .u8 v2, .bool v3, .int .i64 v4, .int .i64 v5, .bool v6, .int .u8 v7, .int .u8 v8, .int .u8 v9, .int .u8 v10, .int .u8 v11, .int .i64 v12, .int .u8 v13, .int .u8 v14, .int .u8 r0, .int .u8 r1, .int .u8 r2, c18, c19, c20, c21, c22, c23, c24, c25, c26, c27, c28, c29, c30] : List Value).drop 15).take (Try.prog.cellsOf 35)).drop (3 * Try.prog.cellsOf 5)).take (Try.prog.cellsOf 5) := by rw [cellsU, cellsR]; rfl
    rw [e]; exact this
  obtain ⟨r3, e, -, wr3⟩ := DataW.trod_int Try.underlying5 g3
  simp only [List.cons.injEq, and_true] at e
  subst e
  have g4 : DataW.trod enc Try.prog W 0 (fun _ => true) true n' 5 [c19] = some (ys[4]'(by omega)) := by
    have := hys 4 (by omega)
    rw [List.getElem?_eq_getElem (show 4 < ys.length by omega)] at this
    have e : [c19] = (((([.int .i64 v0, .int .i64 v1, .int .u8 v2, .bool v3, .int .i64 v4, .int .i64 v5, .bool v6, .int .u8 v7, .int .u8 v8, .int .u8 v9, .int .u8 v10, .int .u8 v11, .int .i64 v12, .int .u8 v13, .int .u8 v14, .int .u8 r0, .int .u8 r1, .int .u8 r2, .int .u8 r3, c19, c20, c21, c22, c23, c24, c25, c26, c27, c28, c29, c30] : List Value).drop 15).take (Try.prog.cellsOf 35)).drop (4 * Try.prog.cellsOf 5)).take (Try.prog.cellsOf 5) := by rw [cellsU, cellsR]; rfl
    rw [e]; exact this
  obtain ⟨r4, e, -, wr4⟩ := DataW.trod_int Try.underlying5 g4
  simp only [List.cons.injEq, and_true] at e
  subst e
  have g5 : DataW.trod enc Try.prog W 0 (fun _ => true) true n' 5 [c20] = some (ys[5]'(by omega)) := by
    have := hys 5 (by omega)
    rw [List.getElem?_eq_getElem (show 5 < ys.length by omega)] at this
    have e : [c20] = (((([.int .i64 v0, .int .i64 v1, .int .u8 v2, .bool v3, .int .i64 v4, .int .i64 v5, .bool v6, .int .u8 v7, .int .u8 v8, .int .u8 v9, .int .u8 v10, .int .u8 v11, .int .i64 v12, .int .u8 v13, .int .u8 v14, .int .u8 r0, .int .u8 r1, .int .u8 r2, .int .u8 r3, .int .u8 r4, c20, c21, c22, c23, c24, c25, c26, c27, c28, c29, c30] : List Value).drop 15).take (Try.prog.cellsOf 35)).drop (5 * Try.prog.cellsOf 5)).take (Try.prog.cellsOf 5) := by rw [cellsU, cellsR]; rfl
    rw [e]; exact this
  obtain ⟨r5, e, -, wr5⟩ := DataW.trod_int Try.underlying5 g5
  simp only [List.cons.injEq, and_true] at e
  subst e
  have g6 : DataW.trod enc Try.prog W 0 (fun _ => true) true n' 5 [c21] = some (ys[6]'(by omega)) := by
    have := hys 6 (by omega)
    rw [List.getElem?_eq_getElem (show 6 < ys.length by omega)] at this
    have e : [c21] = (((([.int .i64 v0, .int .i64 v1, .int .u8 v2, .bool v3, .int .i64 v4, .int .i64 v5, .bool v6, .int .u8 v7, .int .u8 v8, .int .u8 v9, .int .u8 v10, .int .u8 v11, .int .i64 v12, .int .u8 v13, .int .u8 v14, .int .u8 r0, .int .u8 r1, .int .u8 r2, .int .u8 r3, .int .u8 r4, .int .u8 r5, c21, c22, c23, c24, c25, c26, c27, c28, c29, c30] : List Value).drop 15).take (Try.prog.cellsOf 35)).drop (6 * Try.prog.cellsOf 5)).take (Try.prog.cellsOf 5) := by rw [cellsU, cellsR]; rfl
    rw [e]; exact this
  obtain ⟨r6, e, -, wr6⟩ := DataW.trod_int Try.underlying5 g6
  simp only [List.cons.injEq, and_true] at e
  subst e
  have g7 : DataW.trod enc Try.prog W 0 (fun _ => true) true n' 5 [c22] = some (ys[7]'(by omega)) := by
    have := hys 7 (by omega)
    rw [List.getElem?_eq_getElem (show 7 < ys.length by omega)] at this
    have e : [c22] = (((([.int .i64 v0, .int .i64 v1, .int .u8 v2, .bool v3, .int .i64 v4, .int .i64 v5, .bool v6, .int .u8 v7, .int .u8 v8, .int .u8 v9, .int .u8 v10, .int .u8 v11, .int .i64 v12, .int .u8 v13, .int .u8 v14, .int .u8 r0, .int .u8 r1, .int .u8 r2, .int .u8 r3, .int .u8 r4, .int .u8 r5, .int .u8 r6, c22, c23, c24, c25, c26, c27, c28, c29, c30] : List Value).drop 15).take (Try.prog.cellsOf 35)).drop (7 * Try.prog.cellsOf 5)).take (Try.prog.cellsOf 5) := by rw [cellsU, cellsR]; rfl
    rw [e]; exact this
  obtain ⟨r7, e, -, wr7⟩ := DataW.trod_int Try.underlying5 g7
  simp only [List.cons.injEq, and_true] at e
  subst e
  have f16 : DataW.trod enc Try.prog W 0 (fun _ => true) true n 5 [c23] = some (xs[16]'(by omega)) := by
    have := hfld 16 _ rfl
    rw [List.getElem?_eq_getElem (show 16 < xs.length by omega)] at this
    have e : [c23] = (([.int .i64 v0, .int .i64 v1, .int .u8 v2, .bool v3, .int .i64 v4, .int .i64 v5, .bool v6, .int .u8 v7, .int .u8 v8, .int .u8 v9, .int .u8 v10, .int .u8 v11, .int .i64 v12, .int .u8 v13, .int .u8 v14, .int .u8 r0, .int .u8 r1, .int .u8 r2, .int .u8 r3, .int .u8 r4, .int .u8 r5, .int .u8 r6, .int .u8 r7, c23, c24, c25, c26, c27, c28, c29, c30] : List Value).drop 23).take (Try.prog.cellsOf 5) := by rw [cellsU]; rfl
    rw [e]; exact this
  obtain ⟨v16, e, -, w16⟩ := DataW.trod_int Try.underlying5 f16
  simp only [List.cons.injEq, and_true] at e
  subst e
  have f17 : DataW.trod enc Try.prog W 0 (fun _ => true) true n 5 [c24] = some (xs[17]'(by omega)) := by
    have := hfld 17 _ rfl
    rw [List.getElem?_eq_getElem (show 17 < xs.length by omega)] at this
    have e : [c24] = (([.int .i64 v0, .int .i64 v1, .int .u8 v2, .bool v3, .int .i64 v4, .int .i64 v5, .bool v6, .int .u8 v7, .int .u8 v8, .int .u8 v9, .int .u8 v10, .int .u8 v11, .int .i64 v12, .int .u8 v13, .int .u8 v14, .int .u8 r0, .int .u8 r1, .int .u8 r2, .int .u8 r3, .int .u8 r4, .int .u8 r5, .int .u8 r6, .int .u8 r7, .int .u8 v16, c24, c25, c26, c27, c28, c29, c30] : List Value).drop 24).take (Try.prog.cellsOf 5) := by rw [cellsU]; rfl
    rw [e]; exact this
  obtain ⟨v17, e, -, w17⟩ := DataW.trod_int Try.underlying5 f17
  simp only [List.cons.injEq, and_true] at e
  subst e
  have f18 : DataW.trod enc Try.prog W 0 (fun _ => true) true n 5 [c25] = some (xs[18]'(by omega)) := by
    have := hfld 18 _ rfl
    rw [List.getElem?_eq_getElem (show 18 < xs.length by omega)] at this
    have e : [c25] = (([.int .i64 v0, .int .i64 v1, .int .u8 v2, .bool v3, .int .i64 v4, .int .i64 v5, .bool v6, .int .u8 v7, .int .u8 v8, .int .u8 v9, .int .u8 v10, .int .u8 v11, .int .i64 v12, .int .u8 v13, .int .u8 v14, .int .u8 r0, .int .u8 r1, .int .u8 r2, .int .u8 r3, .int .u8 r4, .int .u8 r5, .int .u8 r6, .int .u8 r7, .int .u8 v16, .int .u8 v17, c25, c26, c27, c28, c29, c30] : List Value).drop 25).take (Try.prog.cellsOf 5) := by rw [cellsU]; rfl
    rw [e]; exact this
  obtain ⟨v18, e, -, w18⟩ := DataW.trod_int Try.underlying5 f18
  simp only [List.cons.injEq, and_true] at e
  subst e
  have f19 : DataW.trod enc Try.prog W 0 (fun _ => true) true n 5 [c26] = some (xs[19]'(by omega)) := by
    have := hfld 19 _ rfl
    rw [List.getElem?_eq_getElem (show 19 < xs.length by omega)] at this
    have e : [c26] = (([.int .i64 v0, .int .i64 v1, .int .u8 v2, .bool v3, .int .i64 v4, .int .i64 v5, .bool v6, .int .u8 v7, .int .u8 v8, .int .u8 v9, .int .u8 v10, .int .u8 v11, .int .i64 v12, .int .u8 v13, .int .u8 v14, .int .u8 r0, .int .u8 r1, .int .u8 r2, .int .u8 r3, .int .u8 r4, .int .u8 r5, .int .u8 r6, .int .u8 r7, .int .u8 v16, .int .u8 v17, .int .u8 v18, c26, c27, c28, c29, c30] : List Value).drop 26).take (Try.prog.cellsOf 5) := by rw [cellsU]; rfl
    rw [e]; exact this
  obtain ⟨v19, e, -, w19⟩ := DataW.trod_int Try.underlying5 f19
  simp only [List.cons.injEq, and_true] at e
  subst e
  have f20 : DataW.trod enc Try.prog W 0 (fun _ => true) true n 4 [c27] = some (xs[20]'(by omega)) := by
    have := hfld 20 _ rfl
    rw [List.getElem?_eq_getElem (show 20 < xs.length by omega)] at this
    have e : [c27] = (([.int .i64 v0, .int .i64 v1, .int .u8 v2, .bool v3, .int .i64 v4, .int .i64 v5, .bool v6, .int .u8 v7, .int .u8 v8, .int .u8 v9, .int .u8 v10, .int .u8 v11, .int .i64 v12, .int .u8 v13, .int .u8 v14, .int .u8 r0, .int .u8 r1, .int .u8 r2, .int .u8 r3, .int .u8 r4, .int .u8 r5, .int .u8 r6, .int .u8 r7, .int .u8 v16, .int .u8 v17, .int .u8 v18, .int .u8 v19, c27, c28, c29, c30] : List Value).drop 27).take (Try.prog.cellsOf 4) := by rw [cellsB]; rfl
    rw [e]; exact this
  obtain ⟨v20, e, -⟩ := DataW.trod_bool Try.underlying4 f20
  simp only [List.cons.injEq, and_true] at e
  subst e
  have f21 : DataW.trod enc Try.prog W 0 (fun _ => true) true n 4 [c28] = some (xs[21]'(by omega)) := by
    have := hfld 21 _ rfl
    rw [List.getElem?_eq_getElem (show 21 < xs.length by omega)] at this
    have e : [c28] = (([.int .i64 v0, .int .i64 v1, .int .u8 v2, .bool v3, .int .i64 v4, .int .i64 v5, .bool v6, .int .u8 v7, .int .u8 v8, .int .u8 v9, .int .u8 v10, .int .u8 v11, .int .i64 v12, .int .u8 v13, .int .u8 v14, .int .u8 r0, .int .u8 r1, .int .u8 r2, .int .u8 r3, .int .u8 r4, .int .u8 r5, .int .u8 r6, .int .u8 r7, .int .u8 v16, .int .u8 v17, .int .u8 v18, .int .u8 v19, .bool v20, c28, c29, c30] : List Value).drop 28).take (Try.prog.cellsOf 4) := by rw [cellsB]; rfl
    rw [e]; exact this
  obtain ⟨v21, e, -⟩ := DataW.trod_bool Try.underlying4 f21
  simp only [List.cons.injEq, and_true] at e
  subst e
  have f22 : DataW.trod enc Try.prog W 0 (fun _ => true) true n 4 [c29] = some (xs[22]'(by omega)) := by
    have := hfld 22 _ rfl
    rw [List.getElem?_eq_getElem (show 22 < xs.length by omega)] at this
    have e : [c29] = (([.int .i64 v0, .int .i64 v1, .int .u8 v2, .bool v3, .int .i64 v4, .int .i64 v5, .bool v6, .int .u8 v7, .int .u8 v8, .int .u8 v9, .int .u8 v10, .int .u8 v11, .int .i64 v12, .int .u8 v13, .int .u8 v14, .int .u8 r0, .int .u8 r1, .int .u8 r2, .int .u8 r3, .int .u8 r4, .int .u8 r5, .int .u8 r6, .int .u8 r7, .int .u8 v16, .int .u8 v17, .int .u8 v18, .int .u8 v19, .bool v20, .bool v21, c29, c30] : List Value).drop 29).take (Try.prog.cellsOf 4) := by rw [cellsB]; rfl
    rw [e]; exact this
  obtain ⟨v22, e, -⟩ := DataW.trod_bool Try.underlying4 f22
  simp only [List.cons.injEq, and_true] at e
  subst e
  have f23 : DataW.trod enc Try.prog W 0 (fun _ => true) true n 3 [c30] = some (xs[23]'(by omega)) := by
    have := hfld 23 _ rfl
    rw [List.getElem?_eq_getElem (show 23 < xs.length by omega)] at this
    have e : [c30] = (([.int .i64 v0, .int .i64 v1, .int .u8 v2, .bool v3, .int .i64 v4, .int .i64 v5, .bool v6, .int .u8 v7, .int .u8 v8, .int .u8 v9, .int .u8 v10, .int .u8 v11, .int .i64 v12, .int .u8 v13, .int .u8 v14, .int .u8 r0, .int .u8 r1, .int .u8 r2, .int .u8 r3, .int .u8 r4, .int .u8 r5, .int .u8 r6, .int .u8 r7, .int .u8 v16, .int .u8 v17, .int .u8 v18, .int .u8 v19, .bool v20, .bool v21, .bool v22, c30] : List Value).drop 30).take (Try.prog.cellsOf 3) := by rw [cellsI]; rfl
    rw [e]; exact this
  obtain ⟨v23, e, -, w23⟩ := DataW.trod_int Try.underlying3 f23
  simp only [List.cons.injEq, and_true] at e
  subst e
  refine ⟨{ kind := v0, sub := v1, hard := v2, work := v3, prg := v4, chr := v5, chrRam := v6, shift := v7, ctrl := v8, chrA := v9, chrB := v10, prgR := v11, last := v12, latch := v13, sel := v14, r := [r0, r1, r2, r3, r4, r5, r6, r7], turn := v16, guard := v17, iLatch := v18, iCount := v19, iLoad := v20, iOn := v21, irq := v22, epoch := v23 }, { kind := wf64 w0, sub := wf64 w1, hard := wf8 w2, prg := wf64 w4, chr := wf64 w5, shift := wf8 w7, ctrl := wf8 w8, chrA := wf8 w9, chrB := wf8 w10, prgR := wf8 w11, last := wf64 w12, latch := wf8 w13, sel := wf8 w14, turn := wf8 w16, guard := wf8 w17, iLatch := wf8 w18, iCount := wf8 w19, epoch := wf64 w23, rlen := rfl, rall := ?_ }, rfl⟩
  intro x hx
  simp only [List.mem_cons, List.not_mem_nil, or_false] at hx
  rcases hx with rfl | rfl | rfl | rfl | rfl | rfl | rfl | rfl
  · exact wf8 wr0
  · exact wf8 wr1
  · exact wf8 wr2
  · exact wf8 wr3
  · exact wf8 wr4
  · exact wf8 wr5
  · exact wf8 wr6
  · exact wf8 wr7
end Go.Proofs.Ytecaipakaaongaa
namespace Go.Proofs.Ytecaipakaaongaa
open Go.ChangeShapes Go.WideShapes Go.ChangeAt Go.RowKit Go.Deep Classical
variable {H : Type}
theorem tU8 (w : World) (enc : TypeId × Value → H) (fuel m : Nat) (hm : m < 256) : DataW.trod enc Try.prog w 0 (fun _ => true) true (fuel + 1) 5 [.int .u8 (m : Nat)] = some (.lit (.int .u8 (m : Nat)), []) := by
  have h : (Lit.int .u8 ((m : Nat) : Int)).wf = true := by simp [Lit.wf, IntKind.min, IntKind.max, IntKind.signed, IntKind.bits]; omega
  simp [DataW.trod, Try.underlying5, h]
theorem tU16 (w : World) (enc : TypeId × Value → H) (fuel m : Nat) (hm : m < 65536) : DataW.trod enc Try.prog w 0 (fun _ => true) true (fuel + 1) 26 [.int .u16 (m : Nat)] = some (.lit (.int .u16 (m : Nat)), []) := by
  have h : (Lit.int .u16 ((m : Nat) : Int)).wf = true := by simp [Lit.wf, IntKind.min, IntKind.max, IntKind.signed, IntKind.bits]; omega
  simp [DataW.trod, Try.underlying26, h]
theorem tB (w : World) (enc : TypeId × Value → H) (fuel : Nat) (b : Bool) : DataW.trod enc Try.prog w 0 (fun _ => true) true (fuel + 1) 4 [.bool b] = some (.lit (.bool b), []) := by
  simp [DataW.trod, Try.underlying4]
theorem mapM_some {α β : Type} (f : α → Option β) (g : α → β) : ∀ l : List α, (∀ x ∈ l, f x = some (g x)) → l.mapM f = some (l.map g)
  | [], _ => rfl
  | x :: l, h => by
    rw [List.mapM_cons, h x (by simp), mapM_some f g l fun y hy => h y (by simp [hy])]
    rfl
theorem drop_take {L : List Value} {k : Nat} {v : Value} (h : L[k]? = some v) : (L.drop k).take 1 = [v] := by
  obtain ⟨hk, e⟩ := List.getElem?_eq_some_iff.1 h
  rw [List.drop_eq_getElem_cons hk, e]
  rfl
theorem wAll (e : TypeId) (g : Nat → DataW H) (hg : ∀ i, DataW.weights Try.prog e (g i) = []) : ∀ l : List Nat, DataW.weightsAll Try.prog e (l.map g) = []
  | [] => by simp [DataW.weightsAll]
  | i :: l => by simp [DataW.weightsAll, hg i, wAll e g hg l]
/-- What is read of a piece of a video memory: some datum, no places, no weight. -/
def Light (w : World) (enc : TypeId × Value → H) (fuel : Nat) (T : TypeId) (L : List Value) : Prop := ∃ d, DataW.trod enc Try.prog w 0 (fun _ => true) true fuel T L = some (d, []) ∧ DataW.weights Try.prog T d = []
theorem tArr (cs : Array Value) (f : Nat → Nat) (F : Fok f) (V : Vid cs f) (w : World) (enc : TypeId × Value → H) (T n o : Nat) (hn : o + n ≤ 12577) (hu : Try.prog.underlying T = some (.array n 5)) (hc : Try.prog.cellsOf T = n) : Light w enc 3 T ((cs.toList.drop o).take (Try.prog.cellsOf T)) := by
  have hs : cs.toList.length = 12585 := by rw [Array.length_toList]; exact V.1
  obtain ⟨L, hL⟩ : ∃ L, L = (cs.toList.drop o).take (Try.prog.cellsOf T) := ⟨_, rfl⟩
  have hlen : L.length = n := by rw [hL, hc, List.length_take, List.length_drop, hs]; omega
  have hat : ∀ k, k < n → L[k]? = some (.int .u8 (f (o + k) : Nat)) := fun k hk => by
    rw [hL, List.getElem?_take, if_pos (by rw [hc]; exact hk), List.getElem?_drop, Array.getElem?_toList]
    exact V.byte _ (by omega)
  rw [← hL]
  have hm := mapM_some (fun i => DataW.trod enc Try.prog w 0 (fun _ => true) true 2 5 ((L.drop (i * Try.prog.cellsOf 5)).take (Try.prog.cellsOf 5))) (fun i => (DataW.lit (.int .u8 (f (o + i) : Nat)), ([] : List MemPlace))) (List.range n) fun i hi => by
    rw [cellsU, Nat.mul_one, drop_take (hat i (List.mem_range.1 hi))]
    exact tU8 w enc 1 _ (F.b _ (by have := List.mem_range.1 hi; omega))
  refine ⟨.agg ((List.range n).map fun i => DataW.lit (.int .u8 (f (o + i) : Nat))), ?_, ?_⟩
  · unfold DataW.trod
    simp only [hu]
    rw [if_pos (by rw [hlen, hc]), hm]
    simp
  · simp only [DataW.weights, hu]
    exact wAll 5 _ (fun i => by simp [DataW.weights]) _
theorem tOne (cs : Array Value) (f : Nat → Nat) (V : Vid cs f) (w : World) (enc : TypeId × Value → H) (T o : Nat) (v : Value) (ho : o < 12585) (hc : Try.prog.cellsOf T = 1) (hv : cel o (f o) = v) (d : DataW H) (ht : DataW.trod enc Try.prog w 0 (fun _ => true) true 3 T [v] = some (d, [])) (hw : DataW.weights Try.prog T d = []) : Light w enc 3 T ((cs.toList.drop o).take (Try.prog.cellsOf T)) := by
  have h := V.2 o ho
  rw [hv, ← Array.getElem?_toList] at h
  rw [hc, drop_take h]
  exact ⟨d, ht, hw⟩
def fldL : List (Nat × Nat) := [(22, 0), (23, 257), (24, 4353), (25, 4385), (5, 256), (26, 12577), (26, 12578), (5, 12579), (4, 12580), (4, 12581), (4, 12582), (5, 12583), (5, 12584)]
theorem fldL_all : ((Try.prog.fieldsOf 28).toList.all fun f => fldL.contains (f.type, f.offset)) = true := by kernel_rfl
theorem light_field (cs : Array Value) (f : Nat → Nat) (F : Fok f) (V : Vid cs f) (w : World) (enc : TypeId × Value → H) (T o : Nat) (h : fldL.contains (T, o) = true) : Light w enc 3 T ((cs.toList.drop o).take (Try.prog.cellsOf T)) := by
  have h := List.contains_iff_mem.1 h
  unfold fldL at h
  simp only [List.mem_cons, List.not_mem_nil, or_false, Prod.mk.injEq] at h
  rcases h with ⟨rfl, rfl⟩ | ⟨rfl, rfl⟩ | ⟨rfl, rfl⟩ | ⟨rfl, rfl⟩ | ⟨rfl, rfl⟩ | ⟨rfl, rfl⟩ | ⟨rfl, rfl⟩ | ⟨rfl, rfl⟩ | ⟨rfl, rfl⟩ | ⟨rfl, rfl⟩ | ⟨rfl, rfl⟩ | ⟨rfl, rfl⟩ | ⟨rfl, rfl⟩
  · exact tArr cs f F V w enc 22 256 0 (by decide) Try.underlying22 (by kernel_rfl)
  · exact tArr cs f F V w enc 23 4096 257 (by decide) Try.underlying23 (by kernel_rfl)
  · exact tArr cs f F V w enc 24 32 4353 (by decide) Try.underlying24 (by kernel_rfl)
  · exact tArr cs f F V w enc 25 8192 4385 (by decide) Try.underlying25 (by kernel_rfl)
  · exact tOne cs f V w enc 5 256 (.int .u8 (f 256 : Nat)) (by decide) (by kernel_rfl) (cel_b _ (by decide)) _ (tU8 w enc 2 _ (F.b _ (by decide))) (by simp [DataW.weights])
  · exact tOne cs f V w enc 26 12577 (.int .u16 (f 12577 : Nat)) (by decide) (by kernel_rfl) rfl _ (tU16 w enc 2 _ (F.v)) (by simp [DataW.weights])
  · exact tOne cs f V w enc 26 12578 (.int .u16 (f 12578 : Nat)) (by decide) (by kernel_rfl) rfl _ (tU16 w enc 2 _ (F.t)) (by simp [DataW.weights])
  · exact tOne cs f V w enc 5 12579 (.int .u8 (f 12579 : Nat)) (by decide) (by kernel_rfl) rfl _ (tU8 w enc 2 _ (F.x)) (by simp [DataW.weights])
  · exact tOne cs f V w enc 4 12580 (.bool (f 12580 != 0)) (by decide) (by kernel_rfl) rfl _ (tB w enc 2 _) (by simp [DataW.weights])
  · exact tOne cs f V w enc 4 12581 (.bool (f 12581 != 0)) (by decide) (by kernel_rfl) rfl _ (tB w enc 2 _) (by simp [DataW.weights])
  · exact tOne cs f V w enc 4 12582 (.bool (f 12582 != 0)) (by decide) (by kernel_rfl) rfl _ (tB w enc 2 _) (by simp [DataW.weights])
  · exact tOne cs f V w enc 5 12583 (.int .u8 (f 12583 : Nat)) (by decide) (by kernel_rfl) rfl _ (tU8 w enc 2 _ (F.buf)) (by simp [DataW.weights])
  · exact tOne cs f V w enc 5 12584 (.int .u8 (f 12584 : Nat)) (by decide) (by kernel_rfl) rfl _ (tU8 w enc 2 _ (F.io)) (by simp [DataW.weights])
theorem light_fields (w : World) (enc : TypeId × Value → H) (L : List Value) : ∀ fs : List Field, (∀ f ∈ fs, Light w enc 3 f.type ((L.drop f.offset).take (Try.prog.cellsOf f.type))) →
    ∃ xs : List (DataW H × List MemPlace), fs.mapM (fun f => DataW.trod enc Try.prog w 0 (fun _ => true) true 3 f.type ((L.drop f.offset).take (Try.prog.cellsOf f.type))) = some xs ∧ xs.flatMap (·.2) = [] ∧ DataW.weightsEach Try.prog (fs.map (·.type)) (xs.map (·.1)) = []
  | [], _ => ⟨[], rfl, rfl, by simp [DataW.weightsEach]⟩
  | f :: fs, h => by
    obtain ⟨d, h1, h2⟩ := h f (by simp)
    obtain ⟨xs, h3, h4, h5⟩ := light_fields w enc L fs fun g hg => h g (by simp [hg])
    refine ⟨(d, []) :: xs, ?_, by simp [h4], by simp [DataW.weightsEach, h2, h5]⟩
    rw [List.mapM_cons, h1, h3]
    rfl
theorem light_vid (cs : Array Value) (f : Nat → Nat) (F : Fok f) (V : Vid cs f) (w : World) (enc : TypeId × Value → H) : Light w enc 4 28 cs.toList := by
  obtain ⟨xs, h1, h2, h3⟩ := light_fields w enc cs.toList (Try.prog.fieldsOf 28).toList fun fl hf => light_field cs f F V w enc fl.type fl.offset (List.all_eq_true.1 fldL_all fl hf)
  have hu : Try.prog.underlying 28 = some (.struct (Try.prog.fieldsOf 28)) := by kernel_rfl
  refine ⟨.agg (xs.map (·.1)), ?_, ?_⟩
  · unfold DataW.trod
    simp only [hu]
    rw [if_pos (by rw [Array.length_toList, V.1, cellsVid]), h1]
    simp [h2]
  · simp only [DataW.weights, hu]
    exact h3
def rep (n : Nat) (x : TypeId) : List TypeId := List.replicate n x
theorem rep_len (n : Nat) (x : TypeId) : (rep n x).length = n := List.length_replicate
theorem rep_lt (n i : Nat) (x : TypeId) (l : List TypeId) (h : i < n) : (rep n x ++ l)[i]? = some x := by
  rw [List.getElem?_append_left (by rw [rep_len]; exact h)]
  unfold rep
  rw [List.getElem?_replicate, if_pos h]
theorem rep_ge (n i : Nat) (x : TypeId) (l : List TypeId) : (rep n x ++ l)[n + i]? = l[i]? := by
  rw [List.getElem?_append_right (by rw [rep_len]; omega), rep_len, Nat.add_sub_cancel_left]
def kinds13 : List TypeId := rep 12577 5 ++ [26, 26, 5, 4, 4, 4, 5, 5]
set_option maxRecDepth 1000000 in
theorem kinds13_is : Try.prog.cellTypes Try.prog.depth 28 = some kinds13 := by kernel_rfl
theorem kinds13_len : kinds13.length = 12585 := by unfold kinds13; rw [List.length_append, rep_len]; rfl
theorem okU8 (w : World) (base m : Nat) (hm : m < 256) : Cell.okWide Try.prog w .any base 5 (.int .u8 (m : Nat)) := by
  unfold Cell.okWide Cell.ok
  simp only [Try.underlying5]
  refine ⟨trivial, ?_⟩
  simp [IntKind.has, IntKind.min, IntKind.max, IntKind.signed, IntKind.bits]
  omega
theorem okU16 (w : World) (base m : Nat) (hm : m < 65536) : Cell.okWide Try.prog w .any base 26 (.int .u16 (m : Nat)) := by
  unfold Cell.okWide Cell.ok
  simp only [Try.underlying26]
  refine ⟨trivial, ?_⟩
  simp [IntKind.has, IntKind.min, IntKind.max, IntKind.signed, IntKind.bits]
  omega
theorem okB (w : World) (base : Nat) (b : Bool) : Cell.okWide Try.prog w .any base 4 (.bool b) := by
  unfold Cell.okWide Cell.ok
  simp only [Try.underlying4]
set_option maxRecDepth 1000000 in
theorem ok_vid (cs : Array Value) (f : Nat → Nat) (F : Fok f) (V : Vid cs f) (w : World) (base : Nat) : Value.okWide Try.prog w .any base 28 (.agg cs) := by
  have hu : Try.prog.underlying 28 = some (.struct (Try.prog.fieldsOf 28)) := by kernel_rfl
  unfold Value.okWide
  simp only [hu]
  refine ⟨cs, rfl, by rw [V.1, cellsVid], kinds13, kinds13_is, ⟨1, by rw [kinds13_len, V.1]⟩, fun i v hv => ?_⟩
  have hi : i < 12585 := by rw [← V.1]; exact (Array.getElem?_eq_some_iff.1 hv).1
  rw [V.2 i hi] at hv
  cases hv
  rw [kinds13_len, Nat.mod_eq_of_lt hi]
  unfold kinds13
  by_cases h1 : i < 12577
  · rw [rep_lt _ _ _ _ h1, cel_b _ h1]
    exact ⟨5, rfl, okU8 w base (f i) (F.b _ h1)⟩
  · have : i = 12577 ∨ i = 12578 ∨ i = 12579 ∨ i = 12580 ∨ i = 12581 ∨ i = 12582 ∨ i = 12583 ∨ i = 12584 := by omega
    clear h1 hi
    rcases this with rfl | rfl | rfl | rfl | rfl | rfl | rfl | rfl
    · exact ⟨26, rep_ge 12577 0 _ _, okU16 w base _ F.v⟩
    · exact ⟨26, rep_ge 12577 1 _ _, okU16 w base _ F.t⟩
    · exact ⟨5, rep_ge 12577 2 _ _, okU8 w base _ F.x⟩
    · exact ⟨4, rep_ge 12577 3 _ _, okB w base _⟩
    · exact ⟨4, rep_ge 12577 4 _ _, okB w base _⟩
    · exact ⟨4, rep_ge 12577 5 _ _, okB w base _⟩
    · exact ⟨5, rep_ge 12577 6 _ _, okU8 w base _ F.buf⟩
    · exact ⟨5, rep_ge 12577 7 _ _, okU8 w base _ F.io⟩
def repV (n : Nat) (x : Value) : List Value := List.replicate n x
theorem repV_lt (n i : Nat) (x : Value) (l : List Value) (h : i < n) : (repV n x ++ l)[i]? = some x := by
  rw [List.getElem?_append_left (by unfold repV; rw [List.length_replicate]; exact h)]
  unfold repV
  rw [List.getElem?_replicate, if_pos h]
theorem repV_ge (n i : Nat) (x : Value) (l : List Value) : (repV n x ++ l)[n + i]? = l[i]? := by
  rw [List.getElem?_append_right (by unfold repV; rw [List.length_replicate]; omega)]
  unfold repV
  rw [List.length_replicate, Nat.add_sub_cancel_left]
/-- A video memory of zeros. -/
def zeroV : Array Value := (repV 12577 (.int .u8 0) ++ ([.int .u16 0, .int .u16 0, .int .u8 0, .bool false, .bool false, .bool false, .int .u8 0, .int .u8 0] : List Value)).toArray
set_option maxRecDepth 1000000 in
theorem zeroV_vid : Vid zeroV (fun _ => 0) := by
  refine ⟨by unfold zeroV repV; rw [List.size_toArray, List.length_append, List.length_replicate]; rfl, fun i hi => ?_⟩
  unfold zeroV
  rw [List.getElem?_toArray]
  by_cases h1 : i < 12577
  · rw [repV_lt _ _ _ _ h1, cel_b _ h1]
    rfl
  · have : i = 12577 ∨ i = 12578 ∨ i = 12579 ∨ i = 12580 ∨ i = 12581 ∨ i = 12582 ∨ i = 12583 ∨ i = 12584 := by omega
    clear h1 hi
    rcases this with rfl | rfl | rfl | rfl | rfl | rfl | rfl | rfl
    · exact repV_ge 12577 0 _ _
    · exact repV_ge 12577 1 _ _
    · exact repV_ge 12577 2 _ _
    · exact repV_ge 12577 3 _ _
    · exact repV_ge 12577 4 _ _
    · exact repV_ge 12577 5 _ _
    · exact repV_ge 12577 6 _ _
    · exact repV_ge 12577 7 _ _
theorem zeroV_ok : Fok (fun _ => 0) := ⟨fun _ _ => by decide, by decide, by decide, by decide, by decide, by decide, by decide, by decide, by decide⟩
set_option maxRecDepth 1000000 in
theorem witV {enc : TypeId × Value → H} {os : Os} (f : FuncId) (fn : Func) (s : ChangeSpec) (ts : List TypeId) (rest : List Value) (Z : Array Value) (fz : Nat → Nat) (FZ : Fok fz) (VZ : Vid Z fz) (i : Input) (hi : i = ⟨#[], (Value.agg Z :: rest).toArray, []⟩)
    (hf : Try.prog.funcs[f]? = some fn) (hp : fn.params.toList = 28 :: ts) (hvars : s.vars = []) (hb : fn.body.isSome = true) (ho : fn.ours = false) (hfr : fn.nfree = 0) (hin : Try.prog.inits.idxOf? f = none) (hlen : rest.length = ts.length)
    (hv : (World.plainHolding Try.prog os i).variablesB Try.prog = true)
    (hr : ((World.plainHolding Try.prog os i).heap.toList.drop Try.prog.globals.size).take ((begin Try.prog (fun _ _ => 0) default).world.heap.size - Try.prog.globals.size) = (begin Try.prog (fun _ _ => 0) default).world.heap.toList.drop Try.prog.globals.size)
    (hok : ((List.range ts.length).all fun j => match ts[j]?, rest[j]? with | some t, some v => Value.okWideB Try.prog (World.plainHolding Try.prog os i) t v | _, _ => false) = true)
    (hrest : (match DataW.trodAll enc Try.prog (World.plainHolding Try.prog os i).memory 0 (fun _ => true) true 8 ts rest with | some x => x.2.isEmpty && (DataW.weightsEach Try.prog ts x.1).all (· ≤ reachBytes) | none => false) = true) :
    ∃ (w : World) (tape : Tape) (i : Input), w.os = os ∧ (w.forCall tape i).Shaped Try.prog ∧ i.vars = [] ∧ Input.okWide Try.prog (w.forCall tape i) .any w.heap.size f i ∧
      s.pre6 enc Try.prog fn [] false (w.forCall tape i).memory i.args ∧ ({ modest := false } : Assume).holds Try.prog (lone (Frame.enter Try.prog f i.args .normal) [] (w.forCall tape i)) := by
  refine ⟨World.holding Try.prog os i, fun _ _ => 0, ⟨#[], i.args, []⟩, rfl, World.shaped_of_B hv hr, rfl, ?_, ?_, ?_⟩
  · refine ⟨fun o ho => by simp at ho, fun gv hg => by simp at hg, hin, fn, hf, hb, ho, hfr, ?_, fun j t v hj hvj => ?_⟩
    · rw [← Array.length_toList (xs := fn.params), hp, hi]
      simp [hlen]
    · rw [← Array.getElem?_toList, hp] at hj
      have hvj : (Value.agg Z :: rest)[j]? = some v := by rw [hi] at hvj; simpa using hvj
      cases j with
      | zero =>
        simp at hj hvj
        subst hj hvj
        exact ok_vid Z fz FZ VZ _ _
      | succ j =>
        simp only [List.getElem?_cons_succ] at hj hvj
        have hjl : j < ts.length := (List.getElem?_eq_some_iff.1 hj).1
        have := List.all_eq_true.1 hok j (List.mem_range.2 hjl)
        rw [hj, hvj] at this
        exact Value.okWide_of_okWideB this
  · obtain ⟨d, hd, hw⟩ := light_vid Z fz FZ VZ (World.plainHolding Try.prog os i).memory enc
    split at hrest
    · rename_i x hx
      rw [Bool.and_eq_true] at hrest
      have hx2 : x.2 = [] := List.isEmpty_iff.1 hrest.1
      have hW : DataW.Whole enc Try.prog fn.params.toList s.vars false (World.plainHolding Try.prog os i).memory i.args.toList (d :: x.1) [] [] := by
        refine ⟨[], [], ?_, ?_, rfl, fun b off h => by simp at h, fun h => by cases h⟩
        · have ea : i.args.toList = Value.agg Z :: rest := by rw [hi]
          have h2 := DataW.TrodAll_of_trodAll hx
          rw [hx2] at h2
          rw [hp, ea]
          exact trodAll_cons_mk (p := []) (p' := []) (v := Value.agg Z) ⟨4, hd⟩ h2
        · rw [hvars]; exact rfl
      refine ⟨⟨d :: x.1, [], [], hW, rfl⟩, by kernel_rfl, d :: x.1, [], [], hW, ?_⟩
      have hvt : (OpenSpec.ofChange s).bare.plain.varTypes Try.prog = [] := by
        show (s.vars.filterMap _) = []
        rw [hvars]
        rfl
      rw [hvt, List.append_nil, List.append_nil, hp]
      simp only [DataW.weightsEach, hw, List.nil_append]
      exact hrest.2
    · cases hrest
  · simp only [Assume.holds]
    exact ⟨by simp, by simp, fun h => by simp at h, by simp, by simp⟩
end Go.Proofs.Ytecaipakaaongaa
