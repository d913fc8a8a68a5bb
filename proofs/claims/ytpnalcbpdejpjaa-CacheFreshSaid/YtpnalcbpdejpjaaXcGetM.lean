/-
  Get and Len, over the entries.
-/
import Derived.Test.YtpnalcbpdejpjaaXcPutM
set_option linter.unusedSimpArgs false
set_option linter.unusedVariables false
namespace Go.Proofs.Ytpnalcbpdejpjaa
open Go.RowKit Classical
set_option maxRecDepth 100000 in
set_option maxHeartbeats 4000000 in
theorem getM (base q ga kA m N t n fc : Nat) (tag : Int) (fa : Option Addr) (es : List En) (x : En) (w : World) (H : Cm base q ga kA m N tag t fa n fc es w) (hx : x ∈ es) (hN0 : 1 ≤ N) (hN : N ≤ 65536) (hn : n ≤ 1000) :
    Calls Try.prog 13 #[.pointer (some ⟨q, 0, none⟩), .agg #[.int .u16 x.pc, .int .i64 tag]] w fun e w' => e = .returned (.tuple #[.agg #[.int .u16 x.pc, .int .i64 tag, .string x.s, .int .i64 x.ni, .slice none 0 0, .int .i64 x.lo, .int .i64 x.hi], .bool true]) ∧ Below w.heap.size w w' := by
  obtain ⟨k, A, cnt, ca, hk, hc, he⟩ := H
  obtain ⟨hne, hf, ho⟩ := ca.row
  have hk := he x hx
  obtain ⟨i, hi⟩ := List.mem_iff_getElem?.1 hx
  have hil := (List.getElem?_eq_some_iff.1 hi).1
  obtain ⟨fg, rfl⟩ : ∃ fg, fa = some ⟨fg, 0, none⟩ := by
    cases fa with
    | none => have := (orow_none hf).1; omega
    | some ad => obtain ⟨g, rfl⟩ := orow_where hf; exact ⟨g, rfl⟩
  obtain ⟨sl, pc, tg, s, ni, oa, on, oc, lo, hi', f, sz⟩ := x
  obtain rfl : oa = none := hk.oa
  obtain rfl : on = 0 := hk.on
  obtain rfl : oc = 0 := hk.oc
  obtain rfl : tg = tag := hk.tag
  exact get_hit base q ga kA m k N i n fg fc sl pc tg s ni lo hi' f sz A es cnt w ca hi hN0 hN (by omega) hk.p0 hk.p1 hk.sl
theorem lenM (base q ga kA m N t n fc : Nat) (tag : Int) (fa : Option Addr) (es : List En) (w : World) (H : Cm base q ga kA m N tag t fa n fc es w) :
    Calls Try.prog 15 #[.pointer (some ⟨q, 0, none⟩)] w fun e w' => e = .returned (.int .i64 ((es.length : Nat) : Int)) ∧ w' = w := by
  obtain ⟨k, A, cnt, ca, hk, hc, he⟩ := H
  have := clen_any q n fa fc w (ca.b.cell 1)
  rw [ca.row.1] at this
  exact this
theorem Cm.on {base q ga kA m N t n fc : Nat} {tag : Int} {fa : Option Addr} {es : List En} {w w' : World} (H : Cm base q ga kA m N tag t fa n fc es w) (hb : Below w.heap.size w w') : Cm base q ga kA m N tag t fa n fc es w' := by
  obtain ⟨k, A, cnt, ca, h⟩ := H
  exact ⟨k, A, cnt, ca.on hb, h⟩
theorem Cm.other {base q ga kA m N t n fc base' q' ga' kA' m' N' t' n' fc' : Nat} {tag tag' : Int} {fa fa' : Option Addr} {es es' : List En} {w v : World} (H : Cm base q ga kA m N tag t fa n fc es w) (H' : Cm base' q' ga' kA' m' N' tag' t' fa' n' fc' es' w) (ap : Ap q ga m fa q' ga' m' fa') (g : Fr (CaS q' ga' m' (.slice fa' n' fc')) w v) : Cm base q ga kA m N tag t fa n fc es v := by
  obtain ⟨k, A, cnt, ca, h⟩ := H
  obtain ⟨k', A', cnt', ca', -⟩ := H'
  exact ⟨k, A, cnt, ca.other ca' ap g, h⟩
/-- No two entries have the same PC. -/
theorem Cm.apart {base q ga kA m N t n fc : Nat} {tag : Int} {fa : Option Addr} {es : List En} {w : World} (H : Cm base q ga kA m N tag t fa n fc es w) {i j : Nat} {x y : En} (hi : es[i]? = some x) (hj : es[j]? = some y) (e : x.pc = y.pc) : i = j := by
  obtain ⟨k, A, cnt, ca, hk, hc, he⟩ := H
  have hx := he x (List.mem_of_getElem? hi)
  have hy := he y (List.mem_of_getElem? hj)
  have h1 : x.slot = y.slot := by
    have := hx.sl
    rw [e, hy.sl] at this
    omega
  have h2 := (ca.v.e i x hi).2
  have h3 := (ca.v.e j y hj).2
  rw [h1, h3] at h2
  have := Option.some.inj h2
  omega
end Go.Proofs.Ytpnalcbpdejpjaa
