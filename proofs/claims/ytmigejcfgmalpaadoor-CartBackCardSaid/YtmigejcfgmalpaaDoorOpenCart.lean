/-
  How a cartridge that is handed in is read: its nineteen cells, its numbers, its four lists; conditions: those of the row.
-/
import Derived.Test.YtmigejcfgmalpaaDoorBakOpen
import Derived.Test.YtmigejcfgmalpaaDoorBakLaw
namespace Go.Proofs.YtmigejcfgmalpaaDoor
open Go.ChangeShapes Go.WideShapes Go.ChangeAt Go.RowKit
theorem cellsCart : Tryd.prog.cellsOf 24 = 19 := by kernel_rfl
theorem cellsI : Tryd.prog.cellsOf 3 = 1 := by kernel_rfl
theorem cellsB : Tryd.prog.cellsOf 4 = 1 := by kernel_rfl
theorem cellsS : Tryd.prog.cellsOf 22 = 1 := by kernel_rfl
/-- The fields' types, one behind the other. -/
def fieldT (i : Nat) : TypeId := if i < 15 then (if i = 3 ∨ i = 4 ∨ i = 5 then 4 else 3) else 22
theorem fieldT_cells (i : Nat) : Tryd.prog.cellsOf (fieldT i) = 1 := by
  unfold fieldT
  split
  · split
    · exact cellsB
    · exact cellsI
  · exact cellsS
theorem fields_are {fs : Array Field} (h : Tryd.prog.underlying 24 = some (.struct fs)) : ∀ i, i < 19 → ∃ f, fs[i]? = some f ∧ f.offset = i ∧ f.type = fieldT i := by
  have e := Option.some.inj (h.symm.trans Tryd.underlying24)
  simp only [TypeDesc.struct.injEq] at e
  subst e
  intro i hi
  match i, hi with
  | 0, _ | 1, _ | 2, _ | 3, _ | 4, _ | 5, _ | 6, _ | 7, _ | 8, _ | 9, _ | 10, _ | 11, _ | 12, _ | 13, _ | 14, _ | 15, _ | 16, _ | 17, _ | 18, _ => exact ⟨_, rfl, rfl, rfl⟩
  | _ + 19, h => exact absurd h (by omega)
/-- What is known of a cartridge that came in. -/
structure CartIn (W : World) (cs : Array Value) (T P Q R : List Nat) (at' ap aq ar : Option Addr) (nt np nq nr kt kp kq kr : Nat) : Prop where
  at4 : CartAt W cs T P Q R at' ap aq ar nt np nq nr kt kp kq kr
  ints : ∀ i, i < 15 → i ≠ 3 → i ≠ 4 → i ≠ 5 → ∃ n : Int, cs[i]? = some (.int .i64 n) ∧ -9223372036854775808 ≤ n ∧ n ≤ 9223372036854775807
  bools : ∀ i, i = 3 ∨ i = 4 ∨ i = 5 → ∃ b : Bool, cs[i]? = some (.bool b)
  ct : nt ≤ kt
  cp : np ≤ kp
  cq : nq ≤ kq
  cr : nr ≤ kr

theorem list_of {H : Type} {enc : TypeId × Value → H} {W : World} {c : Value} {x : DataW H × List MemPlace} {n : Nat} {ts : List TypeId} {ds : List (DataW H)} {j : Nat}
    (h : DataW.trod enc Tryd.prog W 0 (fun _ => true) true n 22 [c] = some x)
    (hsz : (DataW.weightsEach Tryd.prog ts ds).all (· ≤ reachBytes) = true) (ht : ts[j]? = some 22) (hd : ds[j]? = some x.1) :
    ∃ a len cap l, c = .slice a len cap ∧ In W a len cap l := by
  have hs : ∃ a len cap, c = .slice a len cap := by
    rcases open_ints Tryd.underlying22 Tryd.underlying5 (by kernel_rfl) h with ⟨hcs, _⟩ | ⟨a, l, cp, zs, hcs, _⟩
    · exact ⟨_, _, _, by simpa using hcs⟩
    · exact ⟨_, _, _, by simpa using hcs⟩
  obtain ⟨a, len, cap, rfl⟩ := hs
  obtain ⟨l, hl⟩ := in_of (enc := enc) (a := a) (len := len) (cap := cap) (d := x.1) (p := x.2) ⟨n, by simpa [Value.cells] using h⟩ hsz ht hd
  exact ⟨a, len, cap, l, rfl, hl⟩

set_option maxRecDepth 100000 in
theorem cart_of {H : Type} {enc : TypeId × Value → H} {W : World} {base : Nat} {v : Value} {d : DataW H} {p : List MemPlace} {ts : List TypeId} {ds : List (DataW H)} {j : Nat}
    (hv : Value.okWide Tryd.prog W .any base 24 v) (h : DataW.Trod enc Tryd.prog W 0 (fun _ => true) true 24 v d p)
    (hsz : (DataW.weightsEach Tryd.prog ts ds).all (· ≤ reachBytes) = true) (ht : ts[j]? = some 24) (hd : ds[j]? = some d) :
    ∃ cs T P Q R at' ap aq ar nt np nq nr kt kp kq kr, v = .agg cs ∧ CartIn W cs T P Q R at' ap aq ar nt np nq nr kt kp kq kr := by
  obtain ⟨cs, rfl, hcs⟩ := okWide_struct Tryd.underlying24 hv
  rw [cellsCart] at hcs
  obtain ⟨fuel, hf⟩ := h
  obtain ⟨xs, n, _, hx, _, hxl, hfld⟩ := DataW.trod_struct Tryd.underlying24 hf
  have hxl' : xs.length = 19 := hxl
  simp only [Prod.mk.injEq] at hx
  obtain ⟨rfl, rfl⟩ := hx
  -- each field's own reading
  have fld : ∀ i (hi : i < 19), DataW.trod enc Tryd.prog W 0 (fun _ => true) true n (fieldT i) [cs[i]'(by omega)] = some (xs[i]'(by omega)) := by
    intro i hi
    obtain ⟨f, h1, h2, h3⟩ := fields_are Tryd.underlying24 i hi
    have := hfld i f h1
    rw [h2, h3, fieldT_cells] at this
    have e : ((Value.agg cs).cells.toList.drop i).take 1 = [cs[i]'(by omega)] := by
      show (cs.toList.drop i).take 1 = _
      rw [List.drop_eq_getElem_cons (by simp; omega)]
      simp
    rw [e, List.getElem?_eq_getElem (by omega)] at this
    exact this
  -- the reach of the lists within
  have hszf : (DataW.weightsEach Tryd.prog ((List.range 19).map fieldT) (xs.map (·.1))).all (· ≤ reachBytes) = true := by
    rw [List.all_eq_true]
    intro k hk
    refine List.all_eq_true.1 hsz k (DataW.weights_mem_each ht hd k ?_)
    have e : DataW.weights Tryd.prog 24 (DataW.agg (xs.map (·.1))) = DataW.weightsEach Tryd.prog ((List.range 19).map fieldT) (xs.map (·.1)) := by
      simp only [DataW.weights, Tryd.underlying24]
      rfl
    rw [e]
    exact hk
  have tyS : ∀ i, 15 ≤ i → i < 19 → ((List.range 19).map fieldT)[i]? = some 22 := by
    intro i h1 h2
    rw [List.getElem?_map, List.getElem?_range h2]
    simp [fieldT, show ¬ i < 15 by omega]
  have lst : ∀ i (h1 : 15 ≤ i) (hi : i < 19), ∃ a len cap l, cs[i]'(by omega) = .slice a len cap ∧ In W a len cap l := by
    intro i h1 hi
    have h := fld i hi
    rw [show fieldT i = 22 by simp [fieldT, show ¬ i < 15 by omega]] at h
    exact list_of h hszf (tyS i h1 hi) (by rw [List.getElem?_map, List.getElem?_eq_getElem (by omega)]; rfl)
  have ints : ∀ i (hi : i < 15), i ≠ 3 → i ≠ 4 → i ≠ 5 → ∃ n : Int, cs[i]? = some (.int .i64 n) ∧ -9223372036854775808 ≤ n ∧ n ≤ 9223372036854775807 := by
    intro i hi n3 n4 n5
    have h := fld i (by omega)
    rw [show fieldT i = 3 by simp [fieldT, hi, n3, n4, n5]] at h
    obtain ⟨k, e, _, hw⟩ := DataW.trod_int Tryd.underlying3 h
    simp only [List.cons.injEq, and_true] at e
    refine ⟨k, by rw [Array.getElem?_eq_getElem (by omega), e], ?_⟩
    simp [Lit.wf, IntKind.min, IntKind.max, IntKind.signed, IntKind.bits] at hw
    omega
  have bools : ∀ i, i = 3 ∨ i = 4 ∨ i = 5 → ∃ b : Bool, cs[i]? = some (.bool b) := by
    intro i hi
    have h := fld i (by omega)
    rw [show fieldT i = 4 by simp [fieldT, hi, show i < 15 by omega]] at h
    obtain ⟨b, e, _⟩ := DataW.trod_bool Tryd.underlying4 h
    simp only [List.cons.injEq, and_true] at e
    exact ⟨b, by rw [Array.getElem?_eq_getElem (by omega), e]⟩
  obtain ⟨at', nt, kt, T, et, iT⟩ := lst 15 (by omega) (by omega)
  obtain ⟨ap, np, kp, P, ep, iP⟩ := lst 16 (by omega) (by omega)
  obtain ⟨aq, nq, kq, Q, eq, iQ⟩ := lst 17 (by omega) (by omega)
  obtain ⟨ar, nr, kr, R, er, iR⟩ := lst 18 (by omega) (by omega)
  refine ⟨cs, T, P, Q, R, at', ap, aq, ar, nt, np, nq, nr, kt, kp, kq, kr, rfl, ⟨⟨hcs, ?_, iT.length, iP.length, iQ.length, iR.length, iT.bytes, iP.bytes, iQ.bytes, iR.bytes, ?_, ?_, ?_, ?_, ?_, ?_, ?_, ?_, iT.row, iP.row, iQ.row, iR.row⟩, ints, bools, iT.le, iP.le, iQ.le, iR.le⟩⟩
  · rw [Array.all_eq_true]
    intro i hi
    by_cases hb : i = 3 ∨ i = 4 ∨ i = 5
    · obtain ⟨b, e⟩ := bools i hb
      rw [Array.getElem?_eq_getElem hi, Option.some.injEq] at e
      rw [e]; rfl
    · by_cases h15 : i < 15
      · obtain ⟨k, e, _⟩ := ints i h15 (by omega) (by omega) (by omega)
        rw [Array.getElem?_eq_getElem hi, Option.some.injEq] at e
        rw [e]; rfl
      · obtain ⟨a, len, cap, l, e, _⟩ := lst i (by omega) (by omega)
        rw [e]; rfl
  · have := iT.le; have := iT.reach; omega
  · have := iP.le; have := iP.reach; omega
  · have := iQ.le; have := iQ.reach; omega
  · have := iR.le; have := iR.reach; omega
  · rw [Array.getElem?_eq_getElem (by omega), et]
  · rw [Array.getElem?_eq_getElem (by omega), ep]
  · rw [Array.getElem?_eq_getElem (by omega), eq]
  · rw [Array.getElem?_eq_getElem (by omega), er]
end Go.Proofs.YtmigejcfgmalpaaDoor
