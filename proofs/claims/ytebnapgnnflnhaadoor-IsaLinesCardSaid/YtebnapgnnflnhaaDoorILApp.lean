/-
  Two bytes behind a full row of bytes.
-/
import Derived.Test.YtebnapgnnflnhaaDoorBase
import Derived.OwnWalk
import Derived.Laws.AppendOwn
set_option linter.unusedSimpArgs false
set_option linter.unusedVariables false
namespace Go.Proofs.YtebnapgnnflnhaaDoor
open Go.RowKit
theorem Own.owns {w : World} {g base : Nat} {l : List Nat} (h : Own w g l) (hg : base ≤ g) (hl : l.length ≤ 140737488355328) : w.ownsRow base 5 1 (.slice (some ⟨g, 0, none⟩) l.length l.length) l.length (vals l) :=
  ⟨by simp [vals], .inr ⟨g, l.length, (vals l).toArray, rfl, hg, h, Nat.le_refl _, by unfold maxLen; omega, by simp [vals], by rw [List.take_of_length_le (by simp [vals])]⟩⟩
theorem vals_app (l m : List Nat) : vals (l ++ m) = vals l ++ vals m := by simp [vals]
/-- The bytes of a block, whatever lies behind them. -/
def RowN (w : World) (g : Nat) (l : List Nat) : Prop := ∀ i, i < l.length → w.cell? ⟨g, i, none⟩ = some (.int .u8 (l.getD i 0 : Nat))
theorem RowN.row {w : World} {g : Nat} {l : List Nat} (h : RowN w g l) : Row w (some ⟨g, 0, none⟩) l := .inr ⟨g, 0, rfl, fun i hi => by rw [Nat.zero_add]; exact h i hi⟩
theorem RowN.below {w w' : World} {g : Nat} {l : List Nat} (h : RowN w g l) (hb : Below w.heap.size w w') : RowN w' g l := fun i hi => (hb.cell (p := ⟨g, i, none⟩) (cell_lt (h i hi))).trans (h i hi)
theorem rowN_of {w : World} {base n : Nat} {v : Value} {l : List Nat} (hn : 0 < n) (hl : l.length = n) (h : w.ownsRow base 5 1 v n (vals l)) : ∃ g cap, v = .slice (some ⟨g, 0, none⟩) n cap ∧ RowN w g l ∧ n ≤ cap := by
  obtain ⟨h1, h2⟩ := h
  rcases h2 with ⟨_, h⟩ | ⟨g, cap, cur, e, hb', hh, h3, h4, h5, h6⟩
  · omega
  · refine ⟨g, cap, e, fun i hi => ?_, h3⟩
    have hc := cell_of_row w g i cur _ (0, 0) hh
    have : (vals l)[i]? = some (.int .u8 (l.getD i 0 : Nat)) := by simp [vals, List.getD, hi]
    rw [← h6, List.getElem?_take, if_pos (by omega)] at this
    rw [← Array.getElem?_toList, this] at hc
    exact hc
theorem wpList_app2 {ops : Array Oper} {rest : List Oper} {o : Oper} {a : Act} {Q : Exit → Act → World → Prop} (hgd : o.guard = none) (s x : Operand)
    (ho : o.op = .call { callee := .builtin .append, args := #[s, x], argTypes := #[22, 22] }) {l : List Nat} {g base : Nat} {W w0 : World} (hown : Own W g l) (hg : base ≤ g) (hb : Below base w0 W) (hbase : base ≤ W.heap.size)
    (hs : a.eval s = .slice (some ⟨g, 0, none⟩) l.length l.length) (hx : a.eval x = .slice (some ⟨W.heap.size, 0, none⟩) 2 2) (hlm : l.length ≤ 140737488351232)
    (h : ∀ g' cap w', RowN w' g' (l ++ [234, 165]) → l.length + 2 ≤ cap → Below base w0 w' → base ≤ w'.heap.size → wpList Tryd.prog ops Q rest (a.put o.dst (.slice (some ⟨g', 0, none⟩) (l.length + 2) cap)) w') : wpList Tryd.prog ops Q (o :: rest) a (W.alloc (.cells #[.int .u8 234, .int .u8 165] 5)) := by
  obtain ⟨i0, hi, hz0, hz1, hz2⟩ := info_parts Tryd.infoU8
  have ow := hown.owns hg (by omega)
  refine wpList_append_own (W.alloc (.cells #[.int .u8 234, .int .u8 165] 5)) hgd s x 22 ho base 5 i0 _ 1 1 (by kernel_rfl) hi hz0 hz1 hz2 rfl (by decide) (.slice (some ⟨g, 0, none⟩) l.length l.length) l.length (vals l) hs (World.ownsRow.alloc ow _) ⟨W.heap.size, 0, none⟩ 2 2 (vals [234, 165]) hx (by simp [vals]) ?_ (by intro v hv; simp [vals] at hv; rcases hv with rfl | rfl <;> rfl) (by unfold maxLen; omega) (by omega) (by simp; omega) ?_
  · intro j u hu
    have hj : j = 0 ∨ j = 1 := by have := (List.getElem?_eq_some_iff.1 hu).1; simp [vals] at this; omega
    rcases hj with rfl | rfl
    · simp [vals] at hu
      subst hu
      simp [Addr.add]
    · simp [vals] at hu
      subst hu
      simp [Addr.add]
  · intro v' w' h1 h2 _
    rw [← vals_app] at h1
    obtain ⟨g', cap, rfl, hr, hc⟩ := rowN_of (by omega) (by simp) h1
    refine h g' cap w' hr hc ((hb.alloc hbase _).grown h2 (by simp; omega) (fun k hk => by cases hk; exact hg)) ?_
    have := h2.size
    simp at this
    omega
end Go.Proofs.YtebnapgnnflnhaaDoor
