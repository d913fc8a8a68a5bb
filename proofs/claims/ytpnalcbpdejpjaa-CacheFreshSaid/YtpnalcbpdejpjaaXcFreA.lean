/-
  How a block that is handed in is read; conditions: those of the row.
-/
import Derived.Test.YtpnalcbpdejpjaaXcArg
import Derived.Test.YtpnalcbpdejpjaaXcLaw1
import Derived.SizedLaws
import Derived.Deep.Slices
import Derived.Deep.SlicePairs
set_option linter.unusedSimpArgs false
set_option linter.unusedVariables false
namespace Go.Proofs.Ytpnalcbpdejpjaa
open Go.ChangeShapes Go.WideShapes Go.ChangeAt Go.RowKit Go.Deep Classical
theorem cellsMic : Try.prog.cellsOf 54 = 7 := by kernel_rfl
theorem cellsBlk : Try.prog.cellsOf 34 = 7 := by kernel_rfl
theorem bytesMic : Try.prog.bytesOf 54 = 48 := by kernel_rfl
set_option maxRecDepth 100000 in
theorem mics_of {H : Type} {enc : TypeId × Value → H} {W : World} {c : Value} {x : DataW H × List MemPlace} {n : Nat} {ts : List TypeId} {ds : List (DataW H)} {j : Nat}
    (h : DataW.trod enc Try.prog W 0 (fun _ => true) true n 32 [c] = some x)
    (hsz : (DataW.weightsEach Try.prog ts ds).all (· ≤ reachBytes) = true) (ht : ts[j]? = some 32) (hd : ds[j]? = some x.1) :
    ∃ a len cap L, c = .slice a len cap ∧ List.length L = len ∧ len ≤ 2932031007317 ∧ Ls W a len cap (mflat L) := by
  rcases DataW.trod_slice Try.underlying32 h with ⟨hcs, _⟩ | ⟨a, len, cap, elems, rest, m, _, hcs, hx, _, hl, _, hlen, hel, hsp, _⟩
  · simp only [List.cons.injEq, and_true] at hcs
    subst hcs
    exact ⟨none, 0, 0, [], rfl, rfl, by decide, ⟨rfl, (fun u hu => by cases hu), .inl ⟨rfl, rfl, rfl⟩⟩⟩
  · simp only [List.cons.injEq, and_true] at hcs
    subst hcs
    rw [hx] at hd
    have hw := sized_slice hsz ht hd Try.underlying32
    rw [bytesMic] at hw
    simp only [List.length_map, reachBytes] at hw
    have z : Mi := ⟨0, 0, 0, 0, 0, 0, 0⟩
    have each : ∀ i, i < len → ∃ y : Mi, ∀ t v, y.cells[t]? = some v → W.cell? (a.add (i * 7 + t)) = some v := by
      intro i hi
      have h1 := hel i hi
      rw [List.getElem?_eq_getElem (by omega), cellsMic] at h1
      obtain ⟨cs', h2, h3⟩ := Option.bind_eq_some_iff.1 h1
      obtain ⟨_, hlen', hcell⟩ := World.cells?_some h2
      obtain ⟨xs, k, _, _, _, hxl, hfld⟩ := DataW.trod_struct Try.underlying54 h3
      have hxl' : xs.length = 7 := hxl
      match xs, hxl', cs', hlen' with
      | [y0, y1, y2, y3, y4, y5, y6], _, [v0, v1, v2, v3, v4, v5, v6], _ =>
        have g0 : DataW.trod enc Try.prog W 0 (fun _ => true) true k 50 [v0] = some y0 := by
          have := hfld 0 _ rfl
          have e : [v0] = (([v0, v1, v2, v3, v4, v5, v6] : List Value).drop 0).take (Try.prog.cellsOf 50) := by rw [show Try.prog.cellsOf 50 = 1 by kernel_rfl]; rfl
          rw [e]; exact this
        obtain ⟨n0, e0, -, -⟩ := DataW.trod_int Try.underlying50 g0
        have g1 : DataW.trod enc Try.prog W 0 (fun _ => true) true k 51 [v1] = some y1 := by
          have := hfld 1 _ rfl
          have e : [v1] = (([v0, v1, v2, v3, v4, v5, v6] : List Value).drop 1).take (Try.prog.cellsOf 51) := by rw [show Try.prog.cellsOf 51 = 1 by kernel_rfl]; rfl
          rw [e]; exact this
        obtain ⟨n1, e1, -, -⟩ := DataW.trod_int Try.underlying51 g1
        have g2 : DataW.trod enc Try.prog W 0 (fun _ => true) true k 52 [v2] = some y2 := by
          have := hfld 2 _ rfl
          have e : [v2] = (([v0, v1, v2, v3, v4, v5, v6] : List Value).drop 2).take (Try.prog.cellsOf 52) := by rw [show Try.prog.cellsOf 52 = 1 by kernel_rfl]; rfl
          rw [e]; exact this
        obtain ⟨n2, e2, -, -⟩ := DataW.trod_int Try.underlying52 g2
        have g3 : DataW.trod enc Try.prog W 0 (fun _ => true) true k 22 [v3] = some y3 := by
          have := hfld 3 _ rfl
          have e : [v3] = (([v0, v1, v2, v3, v4, v5, v6] : List Value).drop 3).take (Try.prog.cellsOf 22) := by rw [show Try.prog.cellsOf 22 = 1 by kernel_rfl]; rfl
          rw [e]; exact this
        obtain ⟨n3, e3, -, -⟩ := DataW.trod_int Try.underlying22 g3
        have g4 : DataW.trod enc Try.prog W 0 (fun _ => true) true k 5 [v4] = some y4 := by
          have := hfld 4 _ rfl
          have e : [v4] = (([v0, v1, v2, v3, v4, v5, v6] : List Value).drop 4).take (Try.prog.cellsOf 5) := by rw [show Try.prog.cellsOf 5 = 1 by kernel_rfl]; rfl
          rw [e]; exact this
        obtain ⟨n4, e4, -, -⟩ := DataW.trod_int Try.underlying5 g4
        have g5 : DataW.trod enc Try.prog W 0 (fun _ => true) true k 3 [v5] = some y5 := by
          have := hfld 5 _ rfl
          have e : [v5] = (([v0, v1, v2, v3, v4, v5, v6] : List Value).drop 5).take (Try.prog.cellsOf 3) := by rw [show Try.prog.cellsOf 3 = 1 by kernel_rfl]; rfl
          rw [e]; exact this
        obtain ⟨n5, e5, -, -⟩ := DataW.trod_int Try.underlying3 g5
        have g6 : DataW.trod enc Try.prog W 0 (fun _ => true) true k 3 [v6] = some y6 := by
          have := hfld 6 _ rfl
          have e : [v6] = (([v0, v1, v2, v3, v4, v5, v6] : List Value).drop 6).take (Try.prog.cellsOf 3) := by rw [show Try.prog.cellsOf 3 = 1 by kernel_rfl]; rfl
          rw [e]; exact this
        obtain ⟨n6, e6, -, -⟩ := DataW.trod_int Try.underlying3 g6
        simp only [List.cons.injEq, and_true] at e0 e1 e2 e3 e4 e5 e6
        subst e0 e1 e2 e3 e4 e5 e6
        refine ⟨⟨n0, n1, n2, n3, n4, n5, n6⟩, fun t v hj => ?_⟩
        have hj' : t < 7 := (Array.getElem?_eq_some_iff.1 hj).1
        have c0 := hcell t (by simpa using hj')
        rw [add_add] at c0
        rw [c0]
        rw [← Array.getElem?_toList] at hj
        exact hj
    obtain ⟨q, hq⟩ : ∃ q : Nat → Mi, ∀ i, i < len → ∀ t v, (q i).cells[t]? = some v → W.cell? (a.add (i * 7 + t)) = some v :=
      ⟨fun i => @Classical.epsilon Mi ⟨z⟩ fun y => ∀ t v, y.cells[t]? = some v → W.cell? (a.add (i * 7 + t)) = some v, fun i hi => Classical.epsilon_spec (each i hi)⟩
    refine ⟨some a, len, cap, (List.range len).map q, rfl, by simp, by omega, ⟨by rw [mflat_len]; simp, mflat_one _, .inr ⟨a, rfl, fun j v hj => ?_⟩⟩⟩
    have hjl := (List.getElem?_eq_some_iff.1 hj).1
    rw [mflat_len, List.length_map, List.length_range] at hjl
    have hi : j / 7 < len := by omega
    have ej : j = j / 7 * 7 + j % 7 := by omega
    have h5 : ((List.range len).map q)[j / 7]? = some (q (j / 7)) := by
      rw [List.getElem?_map, List.getElem?_range hi]; rfl
    have h6 := mflat_at h5 (j % 7) (by omega)
    rw [← ej, hj] at h6
    have h7 := hq (j / 7) hi (j % 7) v h6.symm
    rw [← ej] at h7
    exact h7
/-- The fields of a block, one behind the other. -/
def blkT (i : Nat) : TypeId := if i = 0 then 22 else if i = 1 then 3 else if i = 2 then 9 else if i = 3 then 3 else if i = 4 then 32 else if i = 5 then 3 else 3
theorem blkT_cells (i : Nat) : Try.prog.cellsOf (blkT i) = 1 := by
  unfold blkT
  repeat' split
  all_goals kernel_rfl
theorem blk_fields {fs : Array Field} (h : Try.prog.underlying 34 = some (.struct fs)) : ∀ i, i < 7 → ∃ f, fs[i]? = some f ∧ f.offset = i ∧ f.type = blkT i := by
  have e := Option.some.inj (h.symm.trans Try.underlying34)
  simp only [TypeDesc.struct.injEq] at e
  subst e
  intro i hi
  match i, hi with
  | 0, _ | 1, _ | 2, _ | 3, _ | 4, _ | 5, _ | 6, _ => exact ⟨_, rfl, rfl, rfl⟩
  | _ + 7, h => exact absurd h (by omega)
set_option maxRecDepth 100000 in
theorem block_of {H : Type} {enc : TypeId × Value → H} {W : World} {base : Nat} {v : Value} {d : DataW H} {p : List MemPlace} {ts : List TypeId} {ds : List (DataW H)} {j : Nat}
    (hv : Value.okWide Try.prog W .any base 34 v) (h : DataW.Trod enc Try.prog W 0 (fun _ => true) true 34 v d p)
    (hsz : (DataW.weightsEach Try.prog ts ds).all (· ≤ reachBytes) = true) (ht : ts[j]? = some 34) (hd : ds[j]? = some d) :
    ∃ (pc tag : Int) (s : ByteArray) (ni lo hi : Int) (a : Option Addr) (n c : Nat) (L : List Mi), v = .agg #[.int .u16 pc, .int .i64 tag, .string s, .int .i64 ni, .slice a n c, .int .i64 lo, .int .i64 hi] ∧ (0 ≤ pc ∧ pc ≤ 65535) ∧ Ls W a n c (mflat L) ∧ n ≤ 2932031007317 ∧ s.size ≤ 140737488351232 ∧ L.length = n := by
  obtain ⟨cs, rfl, hcs⟩ := okWide_struct Try.underlying34 hv
  rw [cellsBlk] at hcs
  obtain ⟨fuel, hf⟩ := h
  obtain ⟨xs, n, _, hx, _, hxl, hfld⟩ := DataW.trod_struct Try.underlying34 hf
  have hxl' : xs.length = 7 := hxl
  simp only [Prod.mk.injEq] at hx
  obtain ⟨rfl, rfl⟩ := hx
  have fld : ∀ i (hi : i < 7), DataW.trod enc Try.prog W 0 (fun _ => true) true n (blkT i) [cs[i]'(by omega)] = some (xs[i]'(by omega)) := by
    intro i hi
    obtain ⟨f, h1, h2, h3⟩ := blk_fields Try.underlying34 i hi
    have := hfld i f h1
    rw [h2, h3, blkT_cells] at this
    have e : ((Value.agg cs).cells.toList.drop i).take 1 = [cs[i]'(by omega)] := by
      show (cs.toList.drop i).take 1 = _
      rw [List.drop_eq_getElem_cons (by simp; omega)]
      simp
    rw [e, List.getElem?_eq_getElem (by omega)] at this
    exact this
  have hszf : (DataW.weightsEach Try.prog ((List.range 7).map blkT) (xs.map (·.1))).all (· ≤ reachBytes) = true := by
    rw [List.all_eq_true]
    intro k hk
    refine List.all_eq_true.1 hsz k (DataW.weights_mem_each ht hd k ?_)
    have e : DataW.weights Try.prog 34 (DataW.agg (xs.map (·.1))) = DataW.weightsEach Try.prog ((List.range 7).map blkT) (xs.map (·.1)) := by
      simp only [DataW.weights, Try.underlying34]
      rfl
    rw [e]
    exact hk
  obtain ⟨pc, e0, -, w0⟩ := DataW.trod_int Try.underlying22 (show DataW.trod enc Try.prog W 0 (fun _ => true) true n 22 _ = _ from fld 0 (by omega))
  obtain ⟨tag, e1, -, -⟩ := DataW.trod_int Try.underlying3 (show DataW.trod enc Try.prog W 0 (fun _ => true) true n 3 _ = _ from fld 1 (by omega))
  obtain ⟨s, e2, x2, -⟩ := DataW.trod_string Try.underlying9 (show DataW.trod enc Try.prog W 0 (fun _ => true) true n 9 _ = _ from fld 2 (by omega))
  obtain ⟨ni, e3, -, -⟩ := DataW.trod_int Try.underlying3 (show DataW.trod enc Try.prog W 0 (fun _ => true) true n 3 _ = _ from fld 3 (by omega))
  obtain ⟨lo, e5, -, -⟩ := DataW.trod_int Try.underlying3 (show DataW.trod enc Try.prog W 0 (fun _ => true) true n 3 _ = _ from fld 5 (by omega))
  obtain ⟨hi, e6, -, -⟩ := DataW.trod_int Try.underlying3 (show DataW.trod enc Try.prog W 0 (fun _ => true) true n 3 _ = _ from fld 6 (by omega))
  obtain ⟨a, len, cap, L, e4, hL, hn, hls⟩ := mics_of (show DataW.trod enc Try.prog W 0 (fun _ => true) true n 32 _ = _ from fld 4 (by omega)) hszf (j := 4) rfl (by rw [List.getElem?_map, List.getElem?_eq_getElem (by omega)]; rfl)
  have hs : s.size ≤ 140737488351232 := by
    have := sized_string hszf (j := 2) rfl (show (xs.map (·.1))[2]? = some (.lit (.string s.data.toList)) by rw [List.getElem?_map, List.getElem?_eq_getElem (by omega)]; rw [x2]; rfl)
    simpa [reachBytes] using this
  simp only [List.cons.injEq, and_true] at e0 e1 e2 e3 e5 e6
  refine ⟨pc, tag, s, ni, lo, hi, a, len, cap, L, ?_, wf16 w0, hls, hn, hs, hL⟩
  congr 1
  apply Array.ext
  · simp [hcs]
  · intro i h1 h2
    have hi7 : i < 7 := by omega
    match i, hi7 with
    | 0, _ => exact e0
    | 1, _ => exact e1
    | 2, _ => exact e2
    | 3, _ => exact e3
    | 4, _ => exact e4
    | 5, _ => exact e5
    | 6, _ => exact e6
end Go.Proofs.Ytpnalcbpdejpjaa
