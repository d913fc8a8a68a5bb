/-
  A cartridge with its four lists, and its cells with other lists.
-/
import Derived.Test.YtpdbndkckioamaaDoorChkRW
set_option linter.unusedSimpArgs false
set_option linter.unusedVariables false
namespace Go.Proofs.YtpdbndkckioamaaDoor
open Go.RowKit
/-- A load whose guard says yes. -/
theorem wpList_load_want {P : Program} {ops : Array Oper} {rest : List Oper} {op : Oper} {a : Act} {w : World} {Q : Exit → Act → World → Prop} (hw : Region.wanted op (yielded ops a.tmps) = true) (ty : TypeId) (x : Operand) (ho : op.op = .load ty x)
    (b o : Nat) (hx : a.eval x = .pointer (some ⟨b, o, none⟩)) (cs : List Value) (d : TypeDesc) (hc : w.rangeAt b o cs)
    (hu : P.underlying ty = some d) (hd : d.isRow = true) (hi : (P.info? ty).map (·.size) = some cs.length)
    (h : wpList P ops Q rest (a.put op.dst (.agg cs.toArray)) w) : wpList P ops Q (op :: rest) a w :=
  BigFrame.wpList_want hw fun _ hK => wp_load_mid ty x ho b o hx cs d hc hu hd hi (hK _ _ h)
/-- The four lists of a cartridge, and what lies where. -/
structure CartAt (w : World) (cs : Array Value) (T P Q R : List Nat) (at' ap aq ar : Option Addr) (nt np nq nr kt kp kq kr : Nat) : Prop where
  size : cs.size = 19
  one : cs.all (·.oneCell') = true
  lt : T.length = nt
  lp : P.length = np
  lq : Q.length = nq
  lr : R.length = nr
  bt : Bytes T
  bp : Bytes P
  bq : Bytes Q
  br : Bytes R
  mt : nt ≤ 140737488351232
  mp : np ≤ 140737488351232
  mq : nq ≤ 140737488351232
  mr : nr ≤ 140737488351232
  h15 : cs[15]? = some (.slice at' nt kt)
  h16 : cs[16]? = some (.slice ap np kp)
  h17 : cs[17]? = some (.slice aq nq kq)
  h18 : cs[18]? = some (.slice ar nr kr)
  rt : Row w at' T
  rp : Row w ap P
  rq : Row w aq Q
  rr : Row w ar R
theorem marked_take (l : List Nat) : (marked l).take l.length = l := by simp [marked]
theorem Own.front {w : World} {g : Nat} {l : List Nat} (h : Own w g (marked l)) : Row w (some ⟨g, 0, none⟩) l := by
  have := h.row.take l.length
  rwa [marked_take] at this

theorem lists4_low (cs : Array Value) (t p q r : Value) (i : Nat) (hi : i < 15) : (lists4 cs t p q r)[i]? = cs[i]? := by
  unfold lists4
  rw [Array.getElem?_setIfInBounds_ne (by omega), Array.getElem?_setIfInBounds_ne (by omega), Array.getElem?_setIfInBounds_ne (by omega), Array.getElem?_setIfInBounds_ne (by omega)]
theorem IsC.lists {cs : Array Value} {c : CF} (C : IsC cs c) (gt gp gq gr : Option Addr) (kt kp kq kr : Nat) : IsC (lists4 cs (.slice gt c.nt kt) (.slice gp c.np kp) (.slice gq c.nq kq) (.slice gr c.nr kr)) c := by
  have hs := C.size
  exact ⟨by rw [lists4_size]; exact C.size, lists4_one C.one rfl rfl rfl rfl,
    (lists4_low _ _ _ _ _ 0 (by decide)).trans C.h0, (lists4_low _ _ _ _ _ 1 (by decide)).trans C.h1, (lists4_low _ _ _ _ _ 2 (by decide)).trans C.h2, (lists4_low _ _ _ _ _ 3 (by decide)).trans C.h3, (lists4_low _ _ _ _ _ 4 (by decide)).trans C.h4,
    (lists4_low _ _ _ _ _ 5 (by decide)).trans C.h5, (lists4_low _ _ _ _ _ 6 (by decide)).trans C.h6, (lists4_low _ _ _ _ _ 7 (by decide)).trans C.h7, (lists4_low _ _ _ _ _ 8 (by decide)).trans C.h8, (lists4_low _ _ _ _ _ 9 (by decide)).trans C.h9,
    (lists4_low _ _ _ _ _ 10 (by decide)).trans C.h10, (lists4_low _ _ _ _ _ 11 (by decide)).trans C.h11, (lists4_low _ _ _ _ _ 12 (by decide)).trans C.h12, (lists4_low _ _ _ _ _ 13 (by decide)).trans C.h13, (lists4_low _ _ _ _ _ 14 (by decide)).trans C.h14,
    ⟨gt, kt, by simp [lists4, hs]⟩, ⟨gp, kp, by simp [lists4, hs]⟩, ⟨gq, kq, by simp [lists4, hs]⟩, ⟨gr, kr, by simp [lists4, hs]⟩, C.mt, C.mp, C.mq, C.mr⟩
end Go.Proofs.YtpdbndkckioamaaDoor
