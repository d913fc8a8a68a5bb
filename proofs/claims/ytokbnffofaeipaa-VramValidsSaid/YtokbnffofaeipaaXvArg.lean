/-
  How a video memory and a list of bytes that are handed in are read; conditions: those of the row.
-/
import Derived.Test.YtokbnffofaeipaaXvPad
import Derived.ProofKit
import Derived.OpenShut
import Derived.ChangeOld
import Derived.Below
import Derived.Carry
import Derived.Deep.Slices
import Derived.Deep.SlicePairs
import Derived.SizedLaws
set_option linter.unusedSimpArgs false
set_option linter.unusedVariables false
namespace Go.Proofs.Ytokbnffofaeipaa
open Go.ChangeShapes Go.WideShapes Go.ChangeAt Go.RowKit Go.Deep Classical
theorem own : ownKnob Try.prog.godebug = none := by kernel_rfl
theorem laidOut : laidOutB Try.prog = true := by kernel_rfl
theorem cellsU : Try.prog.cellsOf 5 = 1 := by kernel_rfl
theorem cellsH : Try.prog.cellsOf 26 = 1 := by kernel_rfl
theorem cellsBo : Try.prog.cellsOf 4 = 1 := by kernel_rfl
theorem cellsVid : Try.prog.cellsOf 28 = 12585 := by kernel_rfl
theorem wf8 {n : Int} (h : (Lit.int .u8 n).wf = true) : 0 ≤ n ∧ n ≤ 255 := by
  simp [Lit.wf, IntKind.min, IntKind.max, IntKind.signed, IntKind.bits] at h
  omega
theorem wf16 {n : Int} (h : (Lit.int .u16 n).wf = true) : 0 ≤ n ∧ n ≤ 65535 := by
  simp [Lit.wf, IntKind.min, IntKind.max, IntKind.signed, IntKind.bits] at h
  omega
theorem one_at {L : List Value} {k : Nat} {v : Value} (h : (L.drop k).take 1 = [v]) : L[k]? = some v := by
  have := congrArg (fun l : List Value => l[0]?) h
  simpa [List.getElem?_take, List.getElem?_drop] using this
theorem sub_at {L : List Value} {o n k : Nat} {v : Value} (h : ((L.drop o).take n)[k]? = some v) : L[o + k]? = some v := by
  rw [List.getElem?_take] at h
  split at h
  · rwa [List.getElem?_drop] at h
  · cases h
theorem byte_of {H : Type} {enc : TypeId × Value → H} {W : World} {n : Nat} {L : List Value} {x : DataW H × List MemPlace}
    (h : DataW.trod enc Try.prog W 0 (fun _ => true) true n 5 L = some x) : ∃ m : Nat, m < 256 ∧ L = [.int .u8 (m : Nat)] := by
  obtain ⟨v, e, -, w⟩ := DataW.trod_int Try.underlying5 h
  have := wf8 w
  refine ⟨v.toNat, by omega, ?_⟩
  rw [e, show ((v.toNat : Nat) : Int) = v by omega]
theorem half_of {H : Type} {enc : TypeId × Value → H} {W : World} {n : Nat} {L : List Value} {x : DataW H × List MemPlace}
    (h : DataW.trod enc Try.prog W 0 (fun _ => true) true n 26 L = some x) : ∃ m : Nat, m < 65536 ∧ L = [.int .u16 (m : Nat)] := by
  obtain ⟨v, e, -, w⟩ := DataW.trod_int Try.underlying26 h
  have := wf16 w
  refine ⟨v.toNat, by omega, ?_⟩
  rw [e, show ((v.toNat : Nat) : Int) = v by omega]
theorem truth_of {H : Type} {enc : TypeId × Value → H} {W : World} {n : Nat} {L : List Value} {x : DataW H × List MemPlace}
    (h : DataW.trod enc Try.prog W 0 (fun _ => true) true n 4 L = some x) : ∃ m : Nat, m < 2 ∧ L = [.bool (m != 0)] := by
  obtain ⟨v, e, -⟩ := DataW.trod_bool Try.underlying4 h
  cases v
  · exact ⟨0, by decide, e⟩
  · exact ⟨1, by decide, e⟩
theorem bytes_of {H : Type} {enc : TypeId × Value → H} {W : World} {n N T : Nat} {L : List Value} {x : DataW H × List MemPlace} (hu : Try.prog.underlying T = some (.array N 5))
    (h : DataW.trod enc Try.prog W 0 (fun _ => true) true n T L = some x) (k : Nat) (hk : k < N) : ∃ m : Nat, m < 256 ∧ L[k]? = some (.int .u8 (m : Nat)) := by
  obtain ⟨ys, n', -, -, -, hyl, hys⟩ := DataW.trod_array hu h
  have g := hys k (by omega)
  rw [List.getElem?_eq_getElem (show k < ys.length by omega), cellsU, Nat.mul_one] at g
  obtain ⟨m, hm, e⟩ := byte_of g
  exact ⟨m, hm, one_at e⟩
/-- Cell i is of its kind. -/
def Cok (L : List Value) (i : Nat) : Prop := ∃ m : Nat, L[i]? = some (cel i m) ∧ m < (if i < 12577 then 256 else if i < 12579 then 65536 else if i = 12579 then 256 else if i < 12583 then 2 else 256)
theorem vid_of_cells {cs : Array Value} (hs : cs.size = 12585) (h : ∀ i, i < 12585 → Cok cs.toList i) : ∃ f, Vid cs f ∧ Fok f := by
  have h2 : ∀ i, ∃ m : Nat, i < 12585 → cs.toList[i]? = some (cel i m) ∧ m < (if i < 12577 then 256 else if i < 12579 then 65536 else if i = 12579 then 256 else if i < 12583 then 2 else 256) := fun i => by
    by_cases hi : i < 12585
    · obtain ⟨m, a, b⟩ := h i hi
      exact ⟨m, fun _ => ⟨a, b⟩⟩
    · exact ⟨0, fun c => absurd c hi⟩
  obtain ⟨f, hf⟩ := Classical.axiomOfChoice h2
  refine ⟨f, ⟨hs, fun i hi => by rw [← Array.getElem?_toList]; exact (hf i hi).1⟩, ?_⟩
  refine ⟨fun i hi => ?_, ?_, ?_, ?_, ?_, ?_, ?_, ?_, ?_⟩
  · have := (hf i (by omega)).2; rw [if_pos hi] at this; exact this
  · exact (hf 12577 (by decide)).2
  · exact (hf 12578 (by decide)).2
  · exact (hf 12579 (by decide)).2
  · exact (hf 12580 (by decide)).2
  · exact (hf 12581 (by decide)).2
  · exact (hf 12582 (by decide)).2
  · exact (hf 12583 (by decide)).2
  · exact (hf 12584 (by decide)).2
set_option maxRecDepth 100000 in
theorem vid_of {H : Type} {enc : TypeId × Value → H} {W : World} {base : Nat} {v : Value} {d : DataW H} {p : List MemPlace}
    (hv : Value.okWide Try.prog W .any base 28 v) (h : DataW.Trod enc Try.prog W 0 (fun _ => true) true 28 v d p) :
    ∃ cs f, v = .agg cs ∧ Vid cs f ∧ Fok f := by
  obtain ⟨cs, rfl, hcs⟩ := okWide_struct Try.underlying28 hv
  rw [cellsVid] at hcs
  obtain ⟨fuel, hf⟩ := h
  obtain ⟨xs, n, _, -, -, hxl, hfld⟩ := DataW.trod_struct Try.underlying28 hf
  have hxl' : xs.length = 13 := hxl
  have s1 : Cok cs.toList 256 := by
    have := hfld 1 _ rfl
    rw [List.getElem?_eq_getElem (show 1 < xs.length by omega)] at this
    have g : DataW.trod enc Try.prog W 0 (fun _ => true) true n 5 ((cs.toList.drop 256).take (Try.prog.cellsOf 5)) = some (xs[1]'(by omega)) := this
    obtain ⟨m, hm, e⟩ := byte_of g
    rw [show Try.prog.cellsOf 5 = 1 by kernel_rfl] at e
    exact ⟨m, one_at e, hm⟩
  have s5 : Cok cs.toList 12577 := by
    have := hfld 5 _ rfl
    rw [List.getElem?_eq_getElem (show 5 < xs.length by omega)] at this
    have g : DataW.trod enc Try.prog W 0 (fun _ => true) true n 26 ((cs.toList.drop 12577).take (Try.prog.cellsOf 26)) = some (xs[5]'(by omega)) := this
    obtain ⟨m, hm, e⟩ := half_of g
    rw [show Try.prog.cellsOf 26 = 1 by kernel_rfl] at e
    exact ⟨m, one_at e, hm⟩
  have s6 : Cok cs.toList 12578 := by
    have := hfld 6 _ rfl
    rw [List.getElem?_eq_getElem (show 6 < xs.length by omega)] at this
    have g : DataW.trod enc Try.prog W 0 (fun _ => true) true n 26 ((cs.toList.drop 12578).take (Try.prog.cellsOf 26)) = some (xs[6]'(by omega)) := this
    obtain ⟨m, hm, e⟩ := half_of g
    rw [show Try.prog.cellsOf 26 = 1 by kernel_rfl] at e
    exact ⟨m, one_at e, hm⟩
  have s7 : Cok cs.toList 12579 := by
    have := hfld 7 _ rfl
    rw [List.getElem?_eq_getElem (show 7 < xs.length by omega)] at this
    have g : DataW.trod enc Try.prog W 0 (fun _ => true) true n 5 ((cs.toList.drop 12579).take (Try.prog.cellsOf 5)) = some (xs[7]'(by omega)) := this
    obtain ⟨m, hm, e⟩ := byte_of g
    rw [show Try.prog.cellsOf 5 = 1 by kernel_rfl] at e
    exact ⟨m, one_at e, hm⟩
  have s8 : Cok cs.toList 12580 := by
    have := hfld 8 _ rfl
    rw [List.getElem?_eq_getElem (show 8 < xs.length by omega)] at this
    have g : DataW.trod enc Try.prog W 0 (fun _ => true) true n 4 ((cs.toList.drop 12580).take (Try.prog.cellsOf 4)) = some (xs[8]'(by omega)) := this
    obtain ⟨m, hm, e⟩ := truth_of g
    rw [show Try.prog.cellsOf 4 = 1 by kernel_rfl] at e
    exact ⟨m, one_at e, hm⟩
  have s9 : Cok cs.toList 12581 := by
    have := hfld 9 _ rfl
    rw [List.getElem?_eq_getElem (show 9 < xs.length by omega)] at this
    have g : DataW.trod enc Try.prog W 0 (fun _ => true) true n 4 ((cs.toList.drop 12581).take (Try.prog.cellsOf 4)) = some (xs[9]'(by omega)) := this
    obtain ⟨m, hm, e⟩ := truth_of g
    rw [show Try.prog.cellsOf 4 = 1 by kernel_rfl] at e
    exact ⟨m, one_at e, hm⟩
  have s10 : Cok cs.toList 12582 := by
    have := hfld 10 _ rfl
    rw [List.getElem?_eq_getElem (show 10 < xs.length by omega)] at this
    have g : DataW.trod enc Try.prog W 0 (fun _ => true) true n 4 ((cs.toList.drop 12582).take (Try.prog.cellsOf 4)) = some (xs[10]'(by omega)) := this
    obtain ⟨m, hm, e⟩ := truth_of g
    rw [show Try.prog.cellsOf 4 = 1 by kernel_rfl] at e
    exact ⟨m, one_at e, hm⟩
  have s11 : Cok cs.toList 12583 := by
    have := hfld 11 _ rfl
    rw [List.getElem?_eq_getElem (show 11 < xs.length by omega)] at this
    have g : DataW.trod enc Try.prog W 0 (fun _ => true) true n 5 ((cs.toList.drop 12583).take (Try.prog.cellsOf 5)) = some (xs[11]'(by omega)) := this
    obtain ⟨m, hm, e⟩ := byte_of g
    rw [show Try.prog.cellsOf 5 = 1 by kernel_rfl] at e
    exact ⟨m, one_at e, hm⟩
  have s12 : Cok cs.toList 12584 := by
    have := hfld 12 _ rfl
    rw [List.getElem?_eq_getElem (show 12 < xs.length by omega)] at this
    have g : DataW.trod enc Try.prog W 0 (fun _ => true) true n 5 ((cs.toList.drop 12584).take (Try.prog.cellsOf 5)) = some (xs[12]'(by omega)) := this
    obtain ⟨m, hm, e⟩ := byte_of g
    rw [show Try.prog.cellsOf 5 = 1 by kernel_rfl] at e
    exact ⟨m, one_at e, hm⟩
  have a0 : ∀ k, k < 256 → Cok cs.toList (0 + k) := fun k hk => by
    have := hfld 0 _ rfl
    rw [List.getElem?_eq_getElem (show 0 < xs.length by omega)] at this
    have g : DataW.trod enc Try.prog W 0 (fun _ => true) true n 22 ((cs.toList.drop 0).take (Try.prog.cellsOf 22)) = some (xs[0]'(by omega)) := this
    obtain ⟨m, hm, e⟩ := bytes_of Try.underlying22 g k hk
    refine ⟨m, ?_, by rw [if_pos (by omega)]; exact hm⟩
    rw [cel_b _ (by omega)]
    exact sub_at e
  have a2 : ∀ k, k < 4096 → Cok cs.toList (257 + k) := fun k hk => by
    have := hfld 2 _ rfl
    rw [List.getElem?_eq_getElem (show 2 < xs.length by omega)] at this
    have g : DataW.trod enc Try.prog W 0 (fun _ => true) true n 23 ((cs.toList.drop 257).take (Try.prog.cellsOf 23)) = some (xs[2]'(by omega)) := this
    obtain ⟨m, hm, e⟩ := bytes_of Try.underlying23 g k hk
    refine ⟨m, ?_, by rw [if_pos (by omega)]; exact hm⟩
    rw [cel_b _ (by omega)]
    exact sub_at e
  have a3 : ∀ k, k < 32 → Cok cs.toList (4353 + k) := fun k hk => by
    have := hfld 3 _ rfl
    rw [List.getElem?_eq_getElem (show 3 < xs.length by omega)] at this
    have g : DataW.trod enc Try.prog W 0 (fun _ => true) true n 24 ((cs.toList.drop 4353).take (Try.prog.cellsOf 24)) = some (xs[3]'(by omega)) := this
    obtain ⟨m, hm, e⟩ := bytes_of Try.underlying24 g k hk
    refine ⟨m, ?_, by rw [if_pos (by omega)]; exact hm⟩
    rw [cel_b _ (by omega)]
    exact sub_at e
  have a4 : ∀ k, k < 8192 → Cok cs.toList (4385 + k) := fun k hk => by
    have := hfld 4 _ rfl
    rw [List.getElem?_eq_getElem (show 4 < xs.length by omega)] at this
    have g : DataW.trod enc Try.prog W 0 (fun _ => true) true n 25 ((cs.toList.drop 4385).take (Try.prog.cellsOf 25)) = some (xs[4]'(by omega)) := this
    obtain ⟨m, hm, e⟩ := bytes_of Try.underlying25 g k hk
    refine ⟨m, ?_, by rw [if_pos (by omega)]; exact hm⟩
    rw [cel_b _ (by omega)]
    exact sub_at e
  obtain ⟨f, V, F⟩ := vid_of_cells hcs fun i hi => by
    by_cases h1 : i < 256
    · have := a0 i h1; rwa [Nat.zero_add] at this
    by_cases h2 : i = 256
    · rw [h2]; exact s1
    by_cases h3 : i < 4353
    · have := a2 (i - 257) (by omega); rwa [show 257 + (i - 257) = i by omega] at this
    by_cases h4 : i < 4385
    · have := a3 (i - 4353) (by omega); rwa [show 4353 + (i - 4353) = i by omega] at this
    by_cases h5 : i < 12577
    · have := a4 (i - 4385) (by omega); rwa [show 4385 + (i - 4385) = i by omega] at this
    have : i = 12577 ∨ i = 12578 ∨ i = 12579 ∨ i = 12580 ∨ i = 12581 ∨ i = 12582 ∨ i = 12583 ∨ i = 12584 := by omega
    rcases this with rfl | rfl | rfl | rfl | rfl | rfl | rfl | rfl
    · exact s5
    · exact s6
    · exact s7
    · exact s8
    · exact s9
    · exact s10
    · exact s11
    · exact s12
  exact ⟨cs, f, rfl, V, F⟩
theorem u8s_of {H : Type} {enc : TypeId × Value → H} {W : World} {a : Option Addr} {len cap : Nat} {d : DataW H} {p : List MemPlace}
    (h : DataW.Trod enc Try.prog W 0 (fun _ => true) true 29 (Value.slice a len cap) d p) :
    ∃ l : List Nat, l.length = len ∧ (∀ k, k < len → l.getD k 0 < 256) ∧ RowV W a len cap l := by
  obtain ⟨fuel, hf⟩ := h
  rcases open_ints Try.underlying29 Try.underlying5 (by kernel_rfl) hf with ⟨hcs, _⟩ | ⟨x, l, c, zs, hcs, _, hl, hm, hz, hx, hcell, hwz⟩
  · simp [Value.cells] at hcs
    obtain ⟨rfl, rfl, rfl⟩ := hcs
    exact ⟨[], rfl, fun k hk => absurd hk (by omega), .inl ⟨rfl, rfl, rfl⟩⟩
  · simp [Value.cells] at hcs
    obtain ⟨rfl, rfl, rfl⟩ := hcs
    simp only [if_true] at hz
    obtain ⟨L, hL⟩ : ∃ L : List Nat, L = (zs.take len).map Int.toNat := ⟨_, rfl⟩
    have hg : ∀ k, k < len → ((L.getD k 0 : Nat) : Int) = zs.getD k 0 ∧ L.getD k 0 < 256 := fun k hk => by
      have hkz : k < zs.length := by omega
      have := wf8 (hwz zs[k] (List.getElem_mem hkz))
      have e1 : L.getD k 0 = (zs[k]).toNat := by
        rw [hL, List.getD_eq_getElem?_getD, List.getElem?_map, List.getElem?_take_of_lt hk, List.getElem?_eq_getElem hkz]; rfl
      have e2 : zs.getD k 0 = zs[k] := by rw [List.getD_eq_getElem?_getD, List.getElem?_eq_getElem hkz]; rfl
      rw [e1, e2]
      omega
    refine ⟨L, by rw [hL, List.length_map, List.length_take]; omega, fun k hk => (hg k hk).2, ?_⟩
    obtain ⟨b, off, spot⟩ := x
    by_cases h0 : len = 0
    · exact .inr ⟨_, rfl, .inl h0⟩
    · have hc := hcell 0 (by omega)
      have hspot : spot = none := by simpa [Addr.add] using World.cell?_spot hc
      subst hspot
      have hc0 : W.cell? ⟨b, off + 0, none⟩ = some (.int .u8 (zs.getD 0 0)) := by rw [← Addr.add_lit]; exact hc
      refine .inr ⟨_, rfl, .inr ⟨b, off, rfl, cell_lt hc0, fun k hk => ?_⟩⟩
      have := hcell k (by omega)
      rw [Addr.add_lit] at this
      rw [this, (hg k hk).1]
end Go.Proofs.Ytokbnffofaeipaa
