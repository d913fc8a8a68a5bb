/-
  The live flags of a block: plain; what stays of rows in memory.
-/
import Derived.Test.YtfdiplgjiidnbaaDoorXlCut
set_option linter.unusedSimpArgs false
set_option linter.unusedVariables false
namespace Go.Proofs.YtfdiplgjiidnbaaDoor
open Go.RowKit Classical
/-- What is known of an instruction of a block of this code. -/
structure Pok (L : List Nat) (p : Pc) : Prop where
  k : p.k = L.getD p.off 0
  k8 : p.k < 256
  len : p.off + lnN p.k < L.length
  at' : p.at' < 65536
  num : p.num ≤ 64
  cyc : p.cyc ≤ p.num * 8
theorem cutL_ok {tag : Int} {L : List Nat} (hB : Byts L) : ∀ (f at' off num cyc : Nat), at' < 65536 → num + f ≤ 64 → cyc ≤ num * 8 → ∀ p ∈ cutL tag L f at' off num cyc, Pok L p
  | 0, _, _, _, _, _, _, _, _, h => by simp [cutL] at h
  | f + 1, at', off, num, cyc, ha, hn, hc, p, h => by
    rw [cutL] at h
    by_cases h1 : off < L.length
    · rw [if_pos h1] at h
      have h8 := hB.at off
      have hy := (cy_bd _ h8).2
      by_cases h2 : inB (L.getD off 0) at' tag (L.length - off) = true
      · rw [if_pos h2] at h
        have hl := in_len h2
        have P0 : Pok L ⟨L.getD off 0, at', off, num, cyc, 0⟩ := ⟨rfl, h8, by show off + lnN (L.getD off 0) < L.length; omega, ha, by show num ≤ 64; omega, hc⟩
        by_cases h3 : endsI (kdN (L.getD off 0) : Nat) = true
        · rw [if_pos h3] at h
          simp only [List.mem_singleton] at h
          rw [h]; exact P0
        · rw [if_neg h3] at h
          rcases List.mem_cons.1 h with h | h
          · rw [h]; exact P0
          · exact cutL_ok hB f _ _ _ _ (by omega) (by omega) (by omega) p h
      · rw [if_neg h2] at h; cases h
    · rw [if_neg h1] at h; cases h
def Pc.opd (L : List Nat) (p : Pc) : Nat := opdN (lnN p.k) (L.getD (p.off + 1) 0) (L.getD (p.off + 2) 0)
def Pc.op (p : Pc) : Int := ((opN p.k : Nat) : Int)
/-- What somebody can see behind an instruction, its live flags, and what somebody can see ahead of it. -/
def Pc.beh (p : Pc) (s : Int) : Int := if behI (kdN p.k : Nat) then 207 else s
def Pc.lvo (p : Pc) (s : Int) : Int := bits .and .u8 (st p.op) (p.beh s)
def Pc.mid (p : Pc) (s : Int) : Int := bits .or .u8 (bits .andNot .u8 (p.beh s) (st p.op)) (nd p.op)
def Pc.nxt (L : List Nat) (p : Pc) (s : Int) : Int := if aheadB (mdN p.k) (kdN p.k) (p.opd L) then 207 else p.mid s
def Pc.put (p : Pc) (x : Int) : Pc := ⟨p.k, p.at', p.off, p.num, p.cyc, x⟩
def livS (L : List Nat) : List Pc → Int
  | [] => 207
  | p :: ps => p.nxt L (livS L ps)
def livL (L : List Nat) : List Pc → List Pc
  | [] => []
  | p :: ps => p.put (p.lvo (livS L ps)) :: livL L ps
theorem livL_length (L : List Nat) : ∀ ps, (livL L ps).length = ps.length
  | [] => rfl
  | p :: ps => by rw [livL, List.length_cons, List.length_cons, livL_length L ps]
theorem Pok.put {L : List Nat} {p : Pc} (h : Pok L p) (x : Int) : Pok L (p.put x) := ⟨h.k, h.k8, h.len, h.at', h.num, h.cyc⟩
theorem livL_ok {L : List Nat} : ∀ ps, (∀ p ∈ ps, Pok L p) → ∀ p ∈ livL L ps, Pok L p
  | [], _, _, h => by cases h
  | p :: ps, H, q, h => by
    rw [livL] at h
    rcases List.mem_cons.1 h with h | h
    · rw [h]; exact (H p (List.mem_cons_self ..)).put _
    · exact livL_ok ps (fun x hx => H x (List.mem_cons_of_mem _ hx)) q h
theorem flat_len (b o cap : Nat) : ∀ ps : List Pc, (flat b o cap ps).length = ps.length * 11
  | [] => rfl
  | p :: ps => by
    have e : flat b o cap (p :: ps) = (p.cells b o cap).toList ++ flat b o cap ps := by simp [flat]
    rw [e, List.length_append, flat_len b o cap ps, List.length_cons]
    show 11 + ps.length * 11 = (ps.length + 1) * 11
    omega
theorem flat_app (b o cap : Nat) (ps qs : List Pc) : flat b o cap (ps ++ qs) = flat b o cap ps ++ flat b o cap qs := by simp [flat]
theorem flat_at {b o cap : Nat} {ps : List Pc} {j : Nat} {p : Pc} (h : ps[j]? = some p) (t : Nat) (ht : t < 11) : (flat b o cap ps)[j * 11 + t]? = (p.cells b o cap)[t]? := by
  obtain ⟨hj, rfl⟩ := List.getElem?_eq_some_iff.1 h
  have e : ps = ps.take j ++ ps[j] :: ps.drop (j + 1) := by rw [List.getElem_cons_drop, List.take_append_drop]
  have e2 : flat b o cap ps = flat b o cap (ps.take j) ++ ((ps[j].cells b o cap).toList ++ flat b o cap (ps.drop (j + 1))) := by
    have e3 : flat b o cap (ps[j] :: ps.drop (j + 1)) = (ps[j].cells b o cap).toList ++ flat b o cap (ps.drop (j + 1)) := by simp only [flat, List.flatMap_cons]
    rw [← e3, ← flat_app, ← e]
  rw [e2, List.getElem?_append_right (by rw [flat_len, List.length_take]; omega), flat_len, List.length_take, Nat.min_eq_left (by omega), Nat.add_sub_cancel_left, List.getElem?_append_left (by show t < 11; exact ht)]
  simp
theorem flat_set {b o cap : Nat} (xs ys : List Pc) (p : Pc) (x : Int) : (flat b o cap (xs ++ p :: ys)).set (xs.length * 11 + 10) (.int .u8 x) = flat b o cap (xs ++ p.put x :: ys) := by
  have e1 : ∀ q : Pc, flat b o cap (xs ++ q :: ys) = flat b o cap xs ++ ((q.cells b o cap).toList ++ flat b o cap ys) := fun q => by rw [flat_app]; simp [flat]
  rw [e1, e1, List.set_append_right _ _ (by rw [flat_len]; omega), flat_len, Nat.add_sub_cancel_left, List.set_append_left _ _ (by show 10 < 11; decide)]
  rfl
theorem orow_cell {w : World} {base s n g cap : Nat} {T : TypeId} {cells : List Value} (h : w.ownsRow base T s (.slice (some ⟨g, 0, none⟩) n cap) n cells) (q : Nat) (hq : q < n * s) : w.cell? ⟨g, q, none⟩ = cells[q]? := by
  rcases h.2 with ⟨e, _⟩ | ⟨g', cap', cur, e, _, hh, _, _, _, h6⟩
  · cases e
  · cases e
    rw [cell_of_row w g q cur _ (0, 0) hh, ← h6, List.getElem?_take, if_pos hq, Array.getElem?_toList]
theorem orow_free {w : World} {base s n g cap : Nat} {T : TypeId} {cells : List Value} (h : w.ownsRow base T s (.slice (some ⟨g, 0, none⟩) n cap) n cells) (q : Nat) : w.frozen? ⟨g, q, none⟩ = false := by
  rcases h.2 with ⟨e, _⟩ | ⟨g', cap', cur, e, _, hh, _⟩
  · cases e
  · cases e; exact frozen_of_row w g q cur _ hh
theorem orow_base {w : World} {base s n g cap : Nat} {T : TypeId} {cells : List Value} (h : w.ownsRow base T s (.slice (some ⟨g, 0, none⟩) n cap) n cells) : base ≤ g ∧ g < w.heap.size ∧ n ≤ cap := by
  rcases h.2 with ⟨e, _⟩ | ⟨g', cap', cur, e, hg, hh, hc, _⟩
  · cases e
  · cases e; exact ⟨hg, (Array.getElem?_eq_some_iff.1 hh).1, hc⟩
theorem orow_set {w : World} {base s n g cap : Nat} {T : TypeId} {cells : List Value} (h : w.ownsRow base T s (.slice (some ⟨g, 0, none⟩) n cap) n cells) (q : Nat) (hq : q < n * s) (x : Value) : (w.setCell ⟨g, q, none⟩ x).ownsRow base T s (.slice (some ⟨g, 0, none⟩) n cap) n (cells.set q x) := by
  obtain ⟨h1, h2⟩ := h
  rcases h2 with ⟨e, _⟩ | ⟨g', cap', cur, e, hg, hh, h3, h4, h5, h6⟩
  · cases e
  · cases e
    refine ⟨by rw [List.length_set]; exact h1, .inr ⟨g, cap, cur.setIfInBounds q x, rfl, hg, heap_setCell_same w g q cur T x hh, h3, h4, by rw [Array.size_setIfInBounds]; exact h5, ?_⟩⟩
    rw [Array.toList_setIfInBounds, ← h6]
    apply List.ext_getElem?
    intro i
    simp only [List.getElem?_take, List.getElem?_set]
    by_cases h1 : i < n * s
    · have hns : n * s ≤ cap * s := Nat.mul_le_mul_right s h3
      simp [h1, List.length_take]
      split
      · simp_all
        exact Nat.lt_of_lt_of_le h1 hns
      · rfl
    · simp [h1]; omega
theorem orow_nil {w : World} {base s : Nat} {T : TypeId} {v : Value} {cells : List Value} (h : w.ownsRow base T s v 0 cells) : ∃ a cap, v = .slice a 0 cap := by
  rcases h.2 with ⟨e, _⟩ | ⟨g', cap', cur, e, _⟩
  · exact ⟨none, 0, e⟩
  · exact ⟨_, _, e⟩
theorem orow_some {w : World} {base s n : Nat} {T : TypeId} {v : Value} {cells : List Value} (h : w.ownsRow base T s v n cells) (hn : 0 < n) : ∃ g cap, v = .slice (some ⟨g, 0, none⟩) n cap := by
  rcases h.2 with ⟨_, e⟩ | ⟨g', cap', cur, e, _⟩
  · omega
  · exact ⟨_, _, e⟩
theorem Code.on {w w' : World} {b o B : Nat} {L : List Nat} (h : Code w b o L) (hb : b < B) (hw : Below B w w') : Code w' b o L := fun i hi => (hw.cell (p := ⟨b, o + i, none⟩) hb).trans (h i hi)
theorem Rtab.below {w w' : World} {B : Nat} (h : Rtab w) (hB : 2 < B) (hb : Below B w w') : Rtab w' := fun i hi => (hb.cell (p := ⟨2, i, none⟩) hB).trans (h i hi)
/-- What lies below base: the code, the tables. -/
structure Gr (base : Nat) (b o : Nat) (L : List Nat) (w : World) : Prop where
  c : Code w b o L
  hb : b < base
  t : Tabs w
  r : Rtab w
  g1 : 1 < base
  g2 : 0 < base
  g3 : 2 < base
theorem Gr.on {base b o : Nat} {L : List Nat} {w w' : World} (h : Gr base b o L w) (hw : Below base w w') : Gr base b o L w' := ⟨h.c.on h.hb hw, h.hb, h.t.below h.g1 h.g2 hw, h.r.below h.g3 hw, h.g1, h.g2, h.g3⟩
end Go.Proofs.YtfdiplgjiidnbaaDoor
