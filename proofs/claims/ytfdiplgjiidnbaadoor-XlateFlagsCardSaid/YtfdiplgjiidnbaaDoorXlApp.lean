/-
  append of a micro-op: the list that was stays.
-/
import Derived.Test.YtfdiplgjiidnbaaDoorXlBlk
import Derived.Deep.DeepAppendRoom
import Derived.ArgAppend
set_option linter.unusedSimpArgs false
set_option linter.unusedVariables false
namespace Go.Proofs.YtfdiplgjiidnbaaDoor
open Go.RowKit Classical
theorem orow_prefix {w : World} {base s n m g cap : Nat} {T : TypeId} {xs ys : List Value} (h : w.ownsRow base T s (.slice (some ⟨g, 0, none⟩) (n + m) cap) (n + m) (xs ++ ys)) (hx : xs.length = n * s) : w.ownsRow base T s (.slice (some ⟨g, 0, none⟩) n cap) n xs := by
  rcases h.2 with ⟨e, _⟩ | ⟨g', cap', cur, e, hb, hh, h3, h4, h5, h6⟩
  · cases e
  · cases e
    refine ⟨hx, .inr ⟨g, cap, cur, rfl, hb, hh, by omega, h4, h5, ?_⟩⟩
    have : (cur.toList.take ((n + m) * s)).take (n * s) = xs := by rw [h6, ← hx, List.take_left]
    rw [List.take_take, Nat.min_eq_left (Nat.mul_le_mul_right s (by omega))] at this
    exact this
theorem orow_none {w : World} {base s n c : Nat} {T : TypeId} {cells : List Value} (h : w.ownsRow base T s (.slice none n c) n cells) : n = 0 ∧ c = 0 := by
  rcases h.2 with ⟨e, h0⟩ | ⟨g', cap', cur, e, _⟩
  · cases e; exact ⟨rfl, rfl⟩
  · cases e
theorem orow_where {w : World} {base s n c : Nat} {T : TypeId} {a : Addr} {cells : List Value} (h : w.ownsRow base T s (.slice (some a) n c) n cells) : ∃ g, a = ⟨g, 0, none⟩ := by
  rcases h.2 with ⟨e, _⟩ | ⟨g', cap', cur, e, _⟩
  · cases e
  · cases e; exact ⟨g', rfl⟩
/-- append of one micro-op that lies in a block just made; the list that was stays, and what else lies in memory. -/
theorem wpList_appMicO {ops : Array Oper} {rest : List Oper} {o : Oper} {a : Act} {Q : Exit → Act → World → Prop} (hgd : o.guard = none) (s x : Operand)
    (ho : o.op = .call { callee := .builtin .append, args := #[s, x], argTypes := #[25, 25] }) {cells : List Value} {n : Nat} {v : Value} {W : World} {base : Nat} {cs : Array Value} (hown : W.ownsRow base 35 7 v n cells) (hbase : base ≤ W.heap.size)
    (hs : a.eval s = v) (hx : a.eval x = .slice (some ⟨W.heap.size, 0, none⟩) 1 1) (hcs : cs.size = 7) (h1 : ∀ u ∈ cs.toList, u.oneCell' = true) (hlm : n ≤ 1000000)
    (h : ∀ v' w', w'.ownsRow base 35 7 v' (n + 1) (cells ++ cs.toList) → w'.ownsRow base 35 7 v n cells → (∀ k, k < W.heap.size → v.ownBlock ≠ some k → w'.heap[k]? = W.heap[k]?) → Below base W w' → wpList Tryd.prog ops Q rest (a.put o.dst v') w') : wpList Tryd.prog ops Q (o :: rest) a (W.alloc (.cells cs 35)) := by
  obtain ⟨i0, hi, hz0, hz1, hz2⟩ := info_parts Tryd.infoMicro
  have hB : Blk (W.alloc (.cells cs 35)) W.heap.size cs 35 := Blk.new W _ _
  have hN : ∀ j u, cs.toList[j]? = some u → (W.alloc (.cells cs 35)).cell? ((⟨W.heap.size, 0, none⟩ : Addr).add j) = some u := by
    intro j u hu
    have := hB.cell j
    rw [← Array.getElem?_toList, hu] at this
    by_cases hj : j = 0
    · subst hj; simpa [Addr.add] using this
    · simpa [Addr.add, hj] using this
  have hcl := hown.1
  have ha1 : Below base W (W.alloc (.cells cs 35)) := (Below.refl _ _).alloc hbase _
  obtain ⟨ad, c, rfl, hform⟩ := orow_form hown
  by_cases hroom : n + 1 ≤ c
  · cases ad with
    | none => have := (orow_none hown).2; omega
    | some ad =>
      obtain ⟨g, rfl⟩ := orow_where hown
      refine wpList_append_own_spare (W.alloc (.cells cs 35)) hgd s x 25 ho base 35 i0 7 (by kernel_rfl) hi hz1 g n c cells hs (World.ownsRow.alloc hown _) ⟨W.heap.size, 0, none⟩ 1 1 cs.toList hx (by rw [Array.length_toList, hcs]) hN h1 hroom ?_
      intro w' r1 r2
      refine h _ w' r1 (orow_prefix r1 hcl) (fun k hk hne => (r2.block k (by simp; omega) (fun e => hne e.symm)).trans (Below.heap_alloc W _ k hk)) (ha1.grown r2 (by simp; omega) (fun k hk => ?_))
      cases hk; exact (orow_base hown).1
  · refine wpList_append_grows (W.alloc (.cells cs 35)) hgd s x 25 ho 35 i0 _ 7 48 (by kernel_rfl) hi hz0 hz1 hz2 rfl (by decide) ad n c cells hs (fun e => by subst e; exact orow_none hown) hcl (fun b hb j u hu => ?_) ⟨W.heap.size, 0, none⟩ 1 1 cs.toList hx (by rw [Array.length_toList, hcs]) hN h1 (by omega) (by unfold maxLen; omega) (by omega) ?_
    · subst hb
      obtain ⟨g, rfl⟩ := orow_where hown
      have hj : j < n * 7 := by have := (List.getElem?_eq_some_iff.1 hu).1; omega
      have := orow_cell (World.ownsRow.alloc hown (.cells cs 35)) j hj
      rw [hu] at this
      rw [Addr.add_lit, Nat.zero_add]; exact this
    · intro v' w' r1 r2
      have hb2 : Below (W.alloc (.cells cs 35)).heap.size (W.alloc (.cells cs 35)) w' := (Below.refl _ _).grown r2 (Nat.le_refl _) (fun k hk => by cases hk)
      exact h v' w' (orow_lower r1 (by simp; omega)) (orow_keep (World.ownsRow.alloc hown _) hb2) (fun k hk _ => (r2.block k (by simp; omega) (by simp)).trans (Below.heap_alloc W _ k hk)) (ha1.trans (hb2.mono (by simp; omega)))
end Go.Proofs.YtfdiplgjiidnbaaDoor
