/-
  What mayBe's calls need of memory.
-/
import Derived.Test.YtpdbndkckioamaaDoorChkA
set_option linter.unusedSimpArgs false
set_option linter.unusedVariables false
namespace Go.Proofs.YtpdbndkckioamaaDoor
open Go.RowKit
/-- What is left of a code behind n statements; its first statement. -/
def restOf9 : Nat → Code → Code
  | n + 1, .seq _ b => restOf9 n b
  | _, c => c
def headOf9 : Code → Code
  | .seq a _ => a
  | c => c
theorem wpOp_store {P : Program} {ops : Array Oper} {Q : Exit → Act → World → Prop} {i : Nat} {K : Act → World → Prop} {a : Act} {w : World} {op : Oper} (hi : ops[i]? = some op) (hw : Region.wanted op (yielded ops a.tmps) = true) (ty : TypeId) (x y : Operand) (ho : op.op = .store ty x y)
    (b o : Nat) (v : Value) (cells : Array Value) (hx : a.eval x = .pointer (some ⟨b, o, none⟩)) (hy : a.eval y = v) (hv : v.cells = cells)
    (ht : w.there b o cells.size) (hs : (P.info? ty).map (·.size) = some cells.size) (h1 : cells.all (·.oneCell') = true) (a' : Act) (ha : a.put op.dst undef = a')
    (h : ∀ w', w' = w.setCells b o cells.toList → K a' w') : wpOp P ops Q i K a w := by
  subst ha
  unfold wpOp
  rw [hi]
  simp only [hw, if_true]
  left
  have e : storeVar ty ⟨b, o, none⟩ v = storeVar ty ⟨b, o, none⟩ (.agg cells) := by unfold storeVar; rw [hv]; rfl
  unfold Oper.wp execOp
  simp only [ho, hx, hy, Instr.storeAt, Instr.sureAddr, Sem.run_bind, Sem.run_pure, Result.andThen_ok, e, run_storeVar_mid w b o ty cells ht hs h1]
  exact h _ rfl
theorem Blk.setCells {b : Nat} {t : TypeId} : ∀ (vs : List Value) (o : Nat) (w : World) (cs : Array Value), Blk w b cs t → o + vs.length ≤ cs.size →
    ∃ cs' : Array Value, Blk (w.setCells b o vs) b cs' t ∧ cs'.size = cs.size ∧ ∀ j, cs'[j]? = if o ≤ j ∧ j < o + vs.length then vs[j - o]? else cs[j]?
  | [], o, w, cs, h, _ => ⟨cs, h, rfl, fun j => by rw [if_neg (by simp only [List.length_nil]; omega)]⟩
  | v :: vs, o, w, cs, h, hl => by
    obtain ⟨cs', h1, h2, h3⟩ := Blk.setCells vs (o + 1) (w.setCell ⟨b, o, none⟩ v) (cs.setIfInBounds o v) (h.set o v) (by simp at hl ⊢; omega)
    refine ⟨cs', h1, by simpa using h2, fun j => ?_⟩
    rw [h3 j]
    simp only [List.length_cons] at hl ⊢
    by_cases hj : o + 1 ≤ j ∧ j < o + 1 + vs.length
    · rw [if_pos hj, if_pos (by omega), show j - o = (j - (o + 1)) + 1 by omega, List.getElem?_cons_succ]
    · rw [if_neg hj]
      by_cases ho : j = o
      · subst ho
        rw [if_pos (by omega), Nat.sub_self, List.getElem?_cons_zero, Array.getElem?_setIfInBounds_self_of_lt (by omega)]
      · rw [if_neg (by omega), Array.getElem?_setIfInBounds_ne (by omega)]
theorem Blk.setAll {w : World} {b : Nat} {cs L : Array Value} {t : TypeId} (h : Blk w b cs t) (hs : L.size = cs.size) : Blk (w.setCells b 0 L.toList) b L t := by
  obtain ⟨cs', h1, h2, h3⟩ := Blk.setCells L.toList 0 w cs h (by simp; omega)
  have e : cs' = L := by
    apply Array.ext_getElem?
    intro j
    rw [h3 j]
    by_cases hj : j < L.size
    · rw [if_pos (by simp; omega)]; simp
    · rw [if_neg (by simp; omega), Array.getElem?_eq_none (by omega), Array.getElem?_eq_none (by omega)]
  rwa [e] at h1
theorem within_b (n hi : Int) (w : World) : Calls Tryd.prog 50 #[.int .i64 n, .int .i64 hi] w fun e w' => e = .returned (.bool (Chk.within n hi)) ∧ Below w.heap.size w w' := by
  refine (within_any n hi w).mono ?_
  rintro e w' ⟨he, rfl⟩
  exact ⟨he, Below.refl _ _⟩
structure MK (w : World) (cs : Array Value) (q : Nat) (row : Array Value) (W : World) : Prop where
  b : Blk W w.heap.size cs 25
  r : ∃ z : Array Value, Blk W (w.heap.size + 1) z 86 ∧ z.size = 19
  m : Blk W q row 103
  hq : w.heap.size + 1 < q
  gb : 1 < w.heap.size
  gz : 3 < w.heap.size
  bd : Bnd W
  tz : Tz W
  bl : Below w.heap.size w W
theorem MK.d {w : World} {cs : Array Value} {q : Nat} {row : Array Value} {W : World} (h : MK w cs q row W) {i : Nat} {v : Value} (e : cs[i]? = some v) : W.cell? ⟨w.heap.size, i, none⟩ = some v := (h.b.cell i).trans e
theorem MK.on {w : World} {cs : Array Value} {q : Nat} {row : Array Value} {W W' : World} (h : MK w cs q row W) (hb : Below W.heap.size W W') : MK w cs q row W' :=
  ⟨h.b.below h.b.lt hb, h.r.elim fun z hz => ⟨z, hz.1.below hz.1.lt hb, hz.2⟩, h.m.below h.m.lt hb, h.hq, h.gb, h.gz, h.bd.below h.bd.lt hb, h.tz.below hb, h.bl.trans (hb.mono h.bl.size)⟩
theorem Blk.otherCells {w : World} {b m : Nat} {cs : Array Value} {t : TypeId} (h : Blk w b cs t) (hn : b ≠ m) : ∀ (vs : List Value) (o : Nat), Blk (w.setCells m o vs) b cs t
  | [], _ => h
  | v :: vs, o => Blk.otherCells (h.other hn o v) hn vs (o + 1)
theorem Tz.belowB {w w' : World} {B : Nat} (h : Tz w) (hB : 3 < B) (hb : Below B w w') : Tz w' := fun j hj => (hb.cell (p := ⟨3, j, none⟩) hB).trans (h j hj)
theorem MK.sto {w : World} {cs : Array Value} {q : Nat} {row : Array Value} {W : World} (h : MK w cs q row W) (L : Array Value) (hL : L.size = 19) : MK w cs q row (W.setCells (w.heap.size + 1) 0 L.toList) ∧ Blk (W.setCells (w.heap.size + 1) 0 L.toList) (w.heap.size + 1) L 86 := by
  obtain ⟨z, hz, hs⟩ := h.r
  have hb : Below w.heap.size W (W.setCells (w.heap.size + 1) 0 L.toList) := setCells_below (Nat.le_succ _) _ _ _ _ (Below.refl _ _)
  have hl := hz.setAll (L := L) (by omega)
  exact ⟨⟨h.b.otherCells (by omega) _ _, ⟨L, hl, hL⟩, h.m.otherCells (by have := h.hq; omega) _ _, h.hq, h.gb, h.gz, h.bd.below h.gb hb, h.tz.belowB h.gz hb, h.bl.trans hb⟩, hl⟩
end Go.Proofs.YtpdbndkckioamaaDoor
