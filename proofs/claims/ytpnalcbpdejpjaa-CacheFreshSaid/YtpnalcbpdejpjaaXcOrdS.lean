/-
  Plain facts on sorting keys.
-/
import Derived.Test.YtpnalcbpdejpjaaXcCmp
import Derived.Shelf.SlSortCmp.InsertionK
set_option linter.unusedSimpArgs false
set_option linter.unusedVariables false
namespace Go.Proofs.Ytpnalcbpdejpjaa
open Go.RowKit Classical
/-- A key's cells. -/
def encP (x : Int × Int) : List Value := [.int .u16 x.1, .int .i64 x.2]
def pk (l : List (Int × Int)) : List Value := l.flatMap encP
def ltP (x y : Int × Int) : Prop := x.1 < y.1 ∨ (x.1 = y.1 ∧ x.2 < y.2)
def cfP (x y : Int × Int) : Int := orI (cpI x.1 y.1) (cpI x.2 y.2)
theorem pk_len : ∀ l : List (Int × Int), (pk l).length = l.length * 2
  | [] => rfl
  | m :: l => by
    show (encP m ++ pk l).length = _
    rw [List.length_append, pk_len l, List.length_cons]
    show 2 + l.length * 2 = (l.length + 1) * 2
    omega
theorem pk_at : ∀ (l : List (Int × Int)) (t : Nat), t < l.length * 2 → (pk l)[t]? = some (encP l[t / 2]!)[t % 2]!
  | [], t, h => by simp at h
  | m :: l, 0, _ => rfl
  | m :: l, 1, _ => rfl
  | m :: l, t + 2, h => by
    have h1 : (t + 2) / 2 = t / 2 + 1 := by omega
    have h2 : (t + 2) % 2 = t % 2 := by omega
    rw [h1, h2]
    exact pk_at l t (by rw [List.length_cons] at h; omega)
theorem lt_cf (x y : Int × Int) : ltOf cfP x y = true ↔ ltP x y := by
  unfold ltOf cfP orI cpI ltP
  rw [decide_eq_true_iff]
  by_cases h1 : x.1 < y.1
  · simp [h1]
  · by_cases h2 : y.1 < x.1
    · simp [h1, h2]; omega
    · have h3 : x.1 = y.1 := by omega
      by_cases h4 : x.2 < y.2
      · simp [h1, h2, h3, h4]
      · by_cases h5 : y.2 < x.2 <;> simp [h1, h2, h4, h5]
theorem lt_no (x y : Int × Int) : ltOf cfP x y = false ↔ ¬ ltP x y := by
  rw [← lt_cf, Bool.not_eq_true]
theorem swoP : Sort.SWO (ltOf cfP) := ⟨fun x => by rw [lt_no]; unfold ltP; omega, fun x y z h1 h2 => by rw [lt_cf] at *; unfold ltP at *; omega, fun x y z h1 h2 => by rw [lt_no] at *; unfold ltP at *; omega⟩
theorem flat_at (l : List (Int × Int)) (t : Nat) (h : t < l.length * 2) : (Sort.flatK encP 2 l.toArray)[t]! = (encP l[t / 2]!)[t % 2]! := by
  rw [Sort.get_flatK _ _ _ _ (by simpa using h)]
  simp
theorem orow_holds {w : World} {base g n c : Nat} {l : List (Int × Int)} (h : w.ownsRow base 24 2 (.slice (some ⟨g, 0, none⟩) n c) n (pk l)) (hl : l.length = n) : Sort.HoldsK encP 2 w g 0 l.toArray := fun j hj => by
  have hj2 : j < l.length * 2 := by simpa using hj
  rw [Nat.zero_add]
  refine ⟨?_, orow_free h j⟩
  rw [orow_cell h j (by omega), pk_at l j hj2, flat_at l j hj2]
  rfl
theorem orow_sorted {w : World} {base g n c : Nat} {l l' : List (Int × Int)} (h : w.ownsRow base 24 2 (.slice (some ⟨g, 0, none⟩) n c) n (pk l)) (hl : l'.length = n) (q : Nat) (os : Array Obj) : (sortWorldK encP 2 w g 0 q l'.toArray os).ownsRow base 24 2 (.slice (some ⟨g, 0, none⟩) n c) n (pk l') := by
  refine ⟨by rw [pk_len, hl], .inr ?_⟩
  rcases h.2 with ⟨e, _⟩ | ⟨g', cap, cur, e, hb, hg, h1, h2, h3, h4⟩
  · exact absurd e (by simp)
  · injection e with e1 e2 e3
    injection e1 with e1
    injection e1 with e1
    subst e1 e3
    have hlt : g < w.heap.size := (Array.getElem?_eq_some_iff.1 hg).1
    refine ⟨g, c, Sort.putCells id 0 (Sort.flatK encP 2 l'.toArray) cur, rfl, hb, ?_, h1, h2, ?_, ?_⟩
    · show ((w.heap.modify g (Sort.onCells (Sort.putCells id 0 (Sort.flatK encP 2 l'.toArray)))) ++ os)[g]? = _
      rw [Array.getElem?_append_left (by simpa using hlt), Array.getElem?_modify, if_pos rfl, hg]
      rfl
    · simp [Sort.putCells, h3]
    · apply List.ext_getElem?
      intro t
      by_cases ht : t < n * 2
      · rw [List.getElem?_take_of_lt ht, pk_at l' t (by omega), Array.getElem?_toList]
        have hc : n * 2 ≤ c * 2 := Nat.mul_le_mul_right 2 h1
        have hs : t < cur.size := by omega
        unfold Sort.putCells
        rw [Array.getElem?_mapIdx, Array.getElem?_eq_getElem hs]
        show some (if 0 ≤ t ∧ t < 0 + (Sort.flatK encP 2 l'.toArray).size then id (Sort.flatK encP 2 l'.toArray)[t - 0]! else cur[t]) = _
        rw [if_pos ⟨Nat.zero_le _, by simp; omega⟩, Nat.sub_zero, flat_at l' t (by omega)]
        rfl
      · rw [List.getElem?_eq_none (by simp; omega), List.getElem?_eq_none (by rw [pk_len]; omega)]
theorem below_sorted {w0 w : World} {B g q : Nat} {d : Array (Int × Int)} {os : Array Obj} (h : Below B w0 w) (hg : B ≤ g) (hg2 : g < w.heap.size) : Below B w0 (sortWorldK encP 2 w g 0 q d os) := by
  refine ⟨h.os, h.tape, h.output, ?_, fun k hk => ?_⟩
  · have := h.size
    show _ ≤ ((w.heap.modify g _) ++ os).size
    simp
    omega
  · rw [← h.block k hk]
    show ((w.heap.modify g _) ++ os)[k]? = _
    have hkw : k < w.heap.size := by omega
    rw [Array.getElem?_append_left (by simpa using hkw), Array.getElem?_modify, if_neg (by omega)]
/-- A list in order, none twice. -/
def Rise (l : List (Int × Int)) : Prop := ∀ i x y, l[i]? = some x → l[i + 1]? = some y → ltP x y
theorem rise_of {d d' : Array (Int × Int)} {n : Nat} (hn : d.size = n) (hp : Sort.PermIn 0 n d d') (hs : Sort.SortedIn (ltOf cfP) 0 n d') : d'.toList.Perm d.toList ∧ (d.toList.Nodup → Rise d'.toList) := by
  obtain ⟨h1, -, h3⟩ := hp
  have e1 : d'.extract 0 n = d' := by rw [← hn, ← h1]; simp
  have e2 : d.extract 0 n = d := by rw [← hn]; simp
  rw [e1, e2] at h3
  refine ⟨h3, fun hd i x y hx hy => ?_⟩
  have hi := (List.getElem?_eq_some_iff.1 hy).1
  have hi2 : i + 1 < d'.size := by simpa using hi
  have hx1 : d'[i]! = x := by
    rw [Array.getElem?_toList] at hx
    rw [Array.getElem!_eq_getD, Array.getD_eq_getD_getElem?, hx]; rfl
  have hy1 : d'[i + 1]! = y := by
    rw [Array.getElem?_toList] at hy
    rw [Array.getElem!_eq_getD, Array.getD_eq_getD_getElem?, hy]; rfl
  have h4 := hs i (i + 1) (Nat.zero_le _) (by omega) (by omega)
  rw [hx1, hy1, lt_no] at h4
  have hd' : d'.toList.Nodup := h3.nodup_iff.2 hd
  have hne : x ≠ y := fun e => by
    subst e
    have := (List.getElem?_inj (i := i) (j := i + 1) (by omega) hd').1 (hx.trans hy.symm)
    omega
  obtain ⟨a, b⟩ := x
  obtain ⟨c, d⟩ := y
  have hne2 : ¬ (a = c ∧ b = d) := fun ⟨e, f⟩ => hne (by rw [e, f])
  unfold ltP at *
  simp only at *
  omega
end Go.Proofs.Ytpnalcbpdejpjaa
