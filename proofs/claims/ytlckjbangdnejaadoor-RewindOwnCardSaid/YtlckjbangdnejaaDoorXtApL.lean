/-
  A list handed out is put behind a list of lists.
-/
import Derived.Test.YtlckjbangdnejaaDoorXtRoomS
import Derived.Deep.DeepAppendRoom
import Derived.Laws.AppendOwn
import Derived.ArgAppend
set_option linter.unusedSimpArgs false
set_option linter.unusedVariables false
namespace Go.Proofs.YtlckjbangdnejaaDoor
open Go.RowKit Classical
theorem wpList_appSl {ops : Array Oper} {rest : List Oper} {o : Oper} {a : Act} {Q : Exit → Act → World → Prop} (hgd : o.guard = none) (s x : Operand)
    (ho : o.op = .call { callee := .builtin .append, args := #[s, x], argTypes := #[22, 22] }) {cells : List Value} {n : Nat} {v : Value} {W : World} {base : Nat} {cs : Array Value} (hown : W.ownsRow base 28 1 v n cells) (hbase : base ≤ W.heap.size)
    (hs : a.eval s = v) (hx : a.eval x = .slice (some ⟨W.heap.size, 0, none⟩) 1 1) (hcs : cs.size = 1) (h1 : ∀ u ∈ cs.toList, u.oneCell' = true) (hlm : n ≤ 5864062014700)
    (h : ∀ v' w', w'.ownsRow base 28 1 v' (n + 1) (cells ++ cs.toList) → w'.ownsRow base 28 1 v n cells → (∀ k, k < W.heap.size → v.ownBlock ≠ some k → w'.heap[k]? = W.heap[k]?) → Below base W w' → (∀ k, v'.ownBlock = some k → v.ownBlock = some k ∨ W.heap.size ≤ k) → wpList Tryd.prog ops Q rest (a.put o.dst v') w') : wpList Tryd.prog ops Q (o :: rest) a (W.alloc (.cells cs 28)) := by
  obtain ⟨i0, hi, hz0, hz1, hz2⟩ := info_parts Tryd.infoRow
  have hB : Blk (W.alloc (.cells cs 28)) W.heap.size cs 28 := Blk.new W _ _
  have hN : ∀ j u, cs.toList[j]? = some u → (W.alloc (.cells cs 28)).cell? ((⟨W.heap.size, 0, none⟩ : Addr).add j) = some u := by
    intro j u hu
    have := hB.cell j
    rw [← Array.getElem?_toList, hu] at this
    by_cases hj : j = 0
    · subst hj; simpa [Addr.add] using this
    · simpa [Addr.add, hj] using this
  have hcl := hown.1
  have ha1 : Below base W (W.alloc (.cells cs 28)) := (Below.refl _ _).alloc hbase _
  obtain ⟨ad, c, rfl, hform⟩ := orow_form hown
  by_cases hroom : n + 1 ≤ c
  · cases ad with
    | none => have := (orow_none hown).2; omega
    | some ad =>
      obtain ⟨g, rfl⟩ := orow_where hown
      refine wpList_append_own_spare (W.alloc (.cells cs 28)) hgd s x 22 ho base 28 i0 1 (by kernel_rfl) hi hz1 g n c cells hs (World.ownsRow.alloc hown _) ⟨W.heap.size, 0, none⟩ 1 1 cs.toList hx (by rw [Array.length_toList, hcs]) hN h1 hroom ?_
      intro w' r1 r2
      refine h _ w' r1 (orow_prefix r1 hcl) (fun k hk hne => (r2.block k (by simp; omega) (fun e => hne e.symm)).trans (Below.heap_alloc W _ k hk)) (ha1.grown r2 (by simp; omega) (fun k hk => ?_)) (fun k hk => .inl hk)
      cases hk; exact (orow_base hown).1
  · refine wpList_append_grows (W.alloc (.cells cs 28)) hgd s x 22 ho 28 i0 _ 1 24 (by kernel_rfl) hi hz0 hz1 hz2 rfl (by decide) ad n c cells hs (fun e => by subst e; exact orow_none hown) hcl (fun b hb j u hu => ?_) ⟨W.heap.size, 0, none⟩ 1 1 cs.toList hx (by rw [Array.length_toList, hcs]) hN h1 (by omega) (by unfold maxLen; omega) (by omega) ?_
    · subst hb
      obtain ⟨g, rfl⟩ := orow_where hown
      have hj : j < n * 1 := by have := (List.getElem?_eq_some_iff.1 hu).1; omega
      have := orow_cell (World.ownsRow.alloc hown (.cells cs 28)) j hj
      rw [hu] at this
      rw [Addr.add_lit, Nat.zero_add]; exact this
    · intro v' w' r1 r2
      have hb2 : Below (W.alloc (.cells cs 28)).heap.size (W.alloc (.cells cs 28)) w' := (Below.refl _ _).grown r2 (Nat.le_refl _) (fun k hk => by cases hk)
      exact h v' w' (orow_lower r1 (by simp; omega)) (orow_keep (World.ownsRow.alloc hown _) hb2) (fun k hk _ => (r2.block k (by simp; omega) (by simp)).trans (Below.heap_alloc W _ k hk)) (ha1.trans (hb2.mono (by simp; omega))) (fun k hk => by
        have hk2 := (World.ownsRow.lt r1 k hk).1
        simp at hk2
        exact .inr (by omega))
end Go.Proofs.YtlckjbangdnejaaDoor
