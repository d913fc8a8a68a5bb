/-
  The bytes of a span; appends to a list of one's own; a list that is made, and runs that are laid into it.
-/
import Derived.Test.YtecaipakaaongaaXVU
import Derived.Test.YtecaipakaaongaaXvPad
import Derived.Test.YtecaipakaaongaaXvCopy
import Derived.Laws.CopyOwn
import Derived.Laws.MakeOwn
import Derived.Laws.OwnMore
set_option linter.unusedSimpArgs false
set_option linter.unusedVariables false
namespace Go.Proofs.Ytecaipakaaongaa
open Go.RowKit Classical
def spn (f : Nat → Nat) (b : Bd) (L : List Nat) (a n : Nat) : List Nat := (List.range n).map fun k => atF f b L ((a + k) % 16384)
def spnF (f : Nat → Nat) (b : Bd) (L : List Nat) (a : Nat) (z : Int) : List Nat := if valF f b = true ∧ 0 ≤ z ∧ z ≤ 16384 then spn f b L a z.toNat else []
theorem spn_len (f : Nat → Nat) (b : Bd) (L : List Nat) (a n : Nat) : (spn f b L a n).length = n := by simp [spn]
theorem spn_add (f : Nat → Nat) (b : Bd) (L : List Nat) (a n : Nat) : spn f b L a (n + 1) = spn f b L a n ++ [atF f b L ((a + n) % 16384)] := by
  unfold spn; rw [List.range_succ, List.map_append]; rfl
theorem spnF_len (f : Nat → Nat) (b : Bd) (L : List Nat) (a : Nat) (z : Int) : (spnF f b L a z).length ≤ 16384 := by
  unfold spnF
  split
  · rw [spn_len]; omega
  · exact Nat.zero_le _
theorem wpList_apV1 {ops : Array Oper} {rest : List Oper} {o : Oper} {a : Act} {Q : Exit → Act → World → Prop} (hgd : o.guard = none) (s x : Operand)
    (ho : o.op = .call { callee := .builtin .append, args := #[s, x], argTypes := #[29, 29] }) {l : List Nat} {v : Value} {W w0 : World} {base n : Nat} (c : Nat) (hn : l.length = n) (hown : W.ownsRow base 5 1 v n (valsV l)) (hb : Below base w0 W) (hbase : base ≤ W.heap.size)
    (hs : a.eval s = v) (hx : a.eval x = .slice (some ⟨W.heap.size, 0, none⟩) 1 1) (hlm : n ≤ 140737488350000)
    (h : ∀ v' w', w'.ownsRow base 5 1 v' (n + 1) (valsV (l ++ [c])) → Below base w0 w' → w'.heap.size ≥ base → wpList Try.prog ops Q rest (a.put o.dst v') w') : wpList Try.prog ops Q (o :: rest) a (W.alloc (.cells #[.int .u8 (c : Nat)] 5)) := by
  obtain ⟨i0, hi, hz0, hz1, hz2⟩ := info_parts Try.infoU8v
  refine wpList_append_own (W.alloc (.cells #[.int .u8 (c : Nat)] 5)) hgd s x 29 ho base 5 i0 (.int .u8 0) 1 1 Try.underlying29 hi hz0 hz1 hz2 rfl (by decide) v n (valsV l) hs (World.ownsRow.alloc hown _) ⟨W.heap.size, 0, none⟩ 1 1 (valsV [c]) hx rfl ?_ (valsV_one _) (by unfold maxLen; omega) (by omega) (by rw [World.size_alloc]; omega) ?_
  · intro j u hu
    have hj : j = 0 := by have := (List.getElem?_eq_some_iff.1 hu).1; simp [valsV] at this; omega
    subst hj
    simp [valsV] at hu
    subst hu
    rw [Addr.add_mid, (Blk.new W #[.int .u8 (c : Nat)] 5).cell 0]
    rfl
  · intro v' w' h1 h2 _
    have e : valsV (l ++ [c]) = valsV l ++ valsV [c] := by simp [valsV]
    have hbb := (hb.alloc hbase _).grown h2 (by rw [World.size_alloc]; omega) (fun k hk => (World.ownsRow.lt hown k hk).1)
    refine h v' w' (by rw [e]; exact h1) hbb ?_
    have := h2.size
    rw [World.size_alloc] at this
    omega
/-- What a list of n holds when d of its places are laid. -/
def spC (V : Nat → Nat) (n d : Nat) : List Value := (List.range n).map fun k => Value.int .u8 ((if k < d then V k else 0 : Nat) : Int)
theorem spC_len (V : Nat → Nat) (n d : Nat) : (spC V n d).length = n := by simp [spC]
theorem spC_at (V : Nat → Nat) (n d k : Nat) (h : k < n) : (spC V n d)[k]? = some (.int .u8 ((if k < d then V k else 0 : Nat) : Int)) := by
  unfold spC; rw [List.getElem?_map, List.getElem?_range h]; rfl
theorem spC_full (V : Nat → Nat) (n : Nat) : spC V n n = valsV ((List.range n).map V) := by
  unfold spC valsV
  rw [List.map_map]
  refine List.map_congr_left fun k hk => ?_
  rw [if_pos (List.mem_range.1 hk)]
  rfl
theorem spC_zero (V : Nat → Nat) (n : Nat) : (madeCells (Value.int .u8 0).cells (n * 1)).toList = spC V n 0 := by
  rw [show (Value.int .u8 0).cells = #[.int .u8 0] from rfl, toList_madeCells_one, Nat.mul_one]
  refine List.ext_getElem? fun k => ?_
  by_cases h : k < n
  · rw [spC_at V n 0 k h, List.getElem?_replicate, if_pos h]
    rfl
  · rw [List.getElem?_eq_none (by simp; omega), List.getElem?_eq_none (by rw [spC_len]; omega)]
theorem spC_splice (V : Nat → Nat) (n d c e : Nat) (hc : d + c ≤ e) (he : e ≤ n) (hz : ∀ k, d + c ≤ k → k < e → V k = 0) : splice (spC V n d) d (srcC c fun j => V (d + j)) = spC V n e := by
  refine List.ext_getElem? fun k => ?_
  have hs := srcC_len c fun j => V (d + j)
  unfold splice
  by_cases h1 : k < d
  · rw [List.getElem?_append_left (by simp [spC_len]; omega), List.getElem?_take, if_pos h1, spC_at _ _ _ _ (by omega), spC_at _ _ _ _ (by omega), if_pos h1, if_pos (by omega)]
  · have el : ((spC V n d).take d).length = d := by simp [spC_len]; omega
    rw [List.getElem?_append_right (by omega), el]
    by_cases h2 : k < d + c
    · rw [List.getElem?_append_left (by omega), srcC_at _ _ _ (by omega), spC_at _ _ _ _ (by omega), if_pos (by omega), show d + (k - d) = k by omega]
    · rw [List.getElem?_append_right (by omega), hs, List.getElem?_drop, show d + c + (k - d - c) = k by omega]
      by_cases h3 : k < n
      · rw [spC_at _ _ _ _ h3, spC_at _ _ _ _ h3, if_neg h1]
        by_cases h4 : k < e
        · rw [if_pos h4, hz k (by omega) h4]
        · rw [if_neg h4]
      · rw [List.getElem?_eq_none (by rw [spC_len]; omega), List.getElem?_eq_none (by rw [spC_len]; omega)]
theorem wpList_mkV (V : Nat → Nat) {ops : Array Oper} {rest : List Oper} {o : Oper} {a : Act} {w : World} {Q : Exit → Act → World → Prop} (hgd : o.guard = none) (x : Operand) (ho : o.op = .makeSlice 29 x x)
    (n : Nat) (hn : n ≤ 16384) (hx : a.eval x = .int .i64 (n : Nat))
    (h : ∀ w', Blk w' w.heap.size (spC V n 0).toArray 5 → Below w.heap.size w w' → wpList Try.prog ops Q rest (a.put o.dst (.slice (some ⟨w.heap.size, 0, none⟩) n n)) w') : wpList Try.prog ops Q (o :: rest) a w := by
  obtain ⟨i0, hi, hz0, hz1, hz2⟩ := info_parts Try.infoU8v
  have hr := run_makeSlice (P := Try.prog) w 29 5 i0 (.int .u8 0) Try.underlying29 hi hz0 .i64 .i64 (n : Int) (n : Int) (by omega) (Int.le_refl _) (by rw [hz1]; simp; omega) (by rw [hz2]; simp; omega) (by omega)
  simp only [Int.toNat_natCast] at hr
  refine wpList_plain hgd fun K hK => ?_
  unfold Oper.wp
  simp [execOp, ho, hx, hr, Result.andThen]
  refine hK _ _ (h _ ?_ ((Below.refl _ _).alloc (Nat.le_refl _) _))
  have e : madeCells (Value.int .u8 0).cells (n * i0.size) = (spC V n 0).toArray := by
    rw [hz1, ← spC_zero V n]
  rw [e]
  exact Blk.new w _ _
theorem own_span {w : World} {base g n : Nat} {V : Nat → Nat} (h : Blk w g (spC V n n).toArray 5) (hb : base ≤ g) (hn : n ≤ 16384) : w.ownsRow base 5 1 (.slice (some ⟨g, 0, none⟩) n n) n (valsV ((List.range n).map V)) := by
  refine ⟨by rw [valsV_len]; simp, .inr ⟨g, n, _, rfl, hb, h, Nat.le_refl _, by unfold maxLen; omega, by rw [← Array.length_toList]; simp [spC_len], ?_⟩⟩
  rw [← spC_full, Nat.mul_one]
  exact List.take_of_length_le (by rw [spC_len]; exact Nat.le_refl _)
end Go.Proofs.Ytecaipakaaongaa
