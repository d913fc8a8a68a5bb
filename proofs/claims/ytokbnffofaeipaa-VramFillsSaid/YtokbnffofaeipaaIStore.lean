/-
  A whole struct stored into its block: the new world as a letter, with what its blocks hold.
-/
import Derived.Test.YtokbnffofaeipaaIBlk
import Derived.Deep.MidRow
set_option linter.unusedSimpArgs false
set_option linter.unusedVariables false
namespace Go.Proofs.Ytokbnffofaeipaa
open Go.RowKit
theorem Blk.range' {w : World} {b : Nat} {cs : Array Value} {t : TypeId} (h : Blk w b cs t) : w.rangeAt b 0 cs.toList := fun j v hv => by
  rw [Nat.zero_add, h.cell j]; simpa using hv
theorem Blk.there' {w : World} {b : Nat} {cs : Array Value} {t : TypeId} (h : Blk w b cs t) (n : Nat) (hn : cs.size = n) : w.there b 0 n := fun j hj => by
  rw [Nat.zero_add, h.cell j]; exact ⟨by simp; omega, h.free j⟩
theorem setCells_below' {B b : Nat} (hB : B ≤ b) : ∀ (vs : List Value) (o : Nat) (a w : World), Below B a w → Below B a (w.setCells b o vs)
  | [], _, _, _, h => h
  | _ :: vs, o, a, _, h => setCells_below' hB vs (o + 1) a _ (h.setCell (p := ⟨b, o, none⟩) hB _)
theorem Blk.setCells {b : Nat} {t : TypeId} : ∀ (vs : List Value) (o : Nat) (w : World) (cs : Array Value), Blk w b cs t → o + vs.length ≤ cs.size →
    ∃ cs' : Array Value, Blk (w.setCells b o vs) b cs' t ∧ cs'.size = cs.size ∧ ∀ j, cs'[j]? = if o ≤ j ∧ j < o + vs.length then vs[j - o]? else cs[j]?
  | [], o, w, cs, h, _ => ⟨cs, h, rfl, fun j => by rw [if_neg (by simp only [List.length_nil]; omega)]⟩
  | v :: vs, o, w, cs, h, hl => by
    obtain ⟨cs', h1, h2, h3⟩ := Blk.setCells vs (o + 1) (w.setCell ⟨b, o, none⟩ v) (cs.setIfInBounds o v) (h.set o v) (by simp at hl ⊢; omega)
    refine ⟨cs', h1, by simpa using h2, fun j => ?_⟩
    rw [h3 j]
    simp only [List.length_cons] at hl ⊢
    by_cases hj : o + 1 ≤ j ∧ j < o + 1 + vs.length
    · rw [if_pos hj, if_pos (by omega), show j - o = (j - (o + 1)) + 1 by omega, List.getElem?_cons_succ]
    · rw [if_neg hj]
      by_cases ho : j = o
      · subst ho
        rw [if_pos (by omega), Nat.sub_self, List.getElem?_cons_zero, Array.getElem?_setIfInBounds_self_of_lt (by omega)]
      · rw [if_neg (by omega), Array.getElem?_setIfInBounds_ne (by omega)]
theorem Blk.setAll {w : World} {b : Nat} {cs L : Array Value} {t : TypeId} (h : Blk w b cs t) (hs : L.size = cs.size) : Blk (w.setCells b 0 L.toList) b L t := by
  obtain ⟨cs', h1, h2, h3⟩ := Blk.setCells L.toList 0 w cs h (by simp; omega)
  have e : cs' = L := by
    apply Array.ext_getElem?
    intro j
    rw [h3 j]
    by_cases hj : j < L.size
    · rw [if_pos (by simp; omega)]; simp
    · rw [if_neg (by simp; omega), Array.getElem?_eq_none (by omega), Array.getElem?_eq_none (by omega)]
  rwa [e] at h1
/-- At a plain region's list: a struct loaded whole. -/
theorem wpList_load_blk {P : Program} {ops : Array Oper} {rest : List Oper} {op : Oper} {a : Act} {w : World} {Q : Exit → Act → World → Prop} (hgd : op.guard = none) (ty : TypeId) (x : Operand) (ho : op.op = .load ty x)
    (b : Nat) (hx : a.eval x = .pointer (some ⟨b, 0, none⟩)) (cs : Array Value) (d : TypeDesc) (hB : Blk w b cs ty)
    (hu : P.underlying ty = some d) (hd : d.isRow = true) (hi : (P.info? ty).map (·.size) = some cs.size)
    (h : wpList P ops Q rest (a.put op.dst (.agg cs)) w) : wpList P ops Q (op :: rest) a w :=
  wpList_load_mid hgd ty x ho b 0 hx cs.toList d hB.range' hu hd (by rw [Array.length_toList]; exact hi) (by rw [Array.toArray_toList]; exact h)
/-- At a plain region's list: a struct stored whole over a block. -/
theorem wpList_store_blk {P : Program} {ops : Array Oper} {rest : List Oper} {op : Oper} {a : Act} {w : World} {Q : Exit → Act → World → Prop} (hgd : op.guard = none) (ty : TypeId) (x y : Operand) (ho : op.op = .store ty x y)
    (b : Nat) (cs L : Array Value) (t : TypeId) (hx : a.eval x = .pointer (some ⟨b, 0, none⟩)) (hy : a.eval y = .agg L) (hB : Blk w b cs t) (hs : L.size = cs.size)
    (hi : (P.info? ty).map (·.size) = some L.size) (h1 : L.all (·.oneCell') = true) (B : Nat) (w0 : World) (hBb : B ≤ b) (hb : Below B w0 w)
    (h : ∀ w', Blk w' b L t → Below B w0 w' → (∀ b' cs' t', b' ≠ b → Blk w b' cs' t' → Blk w' b' cs' t') → wpList P ops Q rest (a.put op.dst undef) w') : wpList P ops Q (op :: rest) a w :=
  wpList_store_mid hgd ty x y ho b 0 L hx hy (hB.there' _ hs.symm) hi h1 (h _ (hB.setAll hs) (setCells_below' hBb _ _ _ _ hb) (fun b' cs' t' hn hb' => by
    have : ∀ (vs : List Value) (o : Nat) (w : World), Blk w b' cs' t' → Blk (w.setCells b o vs) b' cs' t' := by
      intro vs
      induction vs with
      | nil => exact fun _ _ h => h
      | cons v vs ih => exact fun o w h => ih (o + 1) _ (h.other hn o v)
    exact this _ _ _ hb'))
end Go.Proofs.Ytokbnffofaeipaa
