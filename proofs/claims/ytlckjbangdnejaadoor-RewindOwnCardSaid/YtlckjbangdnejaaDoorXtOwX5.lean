/-
  One byte is put behind a list of the call's own: the old list stays readable; the new one lies in its block, with its room, or in a new one.
-/
import Derived.Test.YtlckjbangdnejaaDoorXtOwX2
import Derived.Deep.DeepAppendRoom
set_option linter.unusedSimpArgs false
set_option linter.unusedVariables false
namespace Go.Proofs.YtlckjbangdnejaaDoor
open Go.RowKit Classical
theorem wpList_ap8 {ops : Array Oper} {rest : List Oper} {o : Oper} {a : Act} {Q : Exit → Act → World → Prop} (hgd : o.guard = none) (s x : Operand)
    (ho : o.op = .call { callee := .builtin .append, args := #[s, x], argTypes := #[28, 28] }) {l : List Nat} {v : Value} {W : World} {base y : Nat} (hown : Tx W base v l) (hbase : base ≤ W.heap.size)
    (hs : a.eval s = v) (hx : a.eval x = .slice (some ⟨W.heap.size, 0, none⟩) 1 1) (hlm : l.length ≤ 1000000)
    (h : ∀ v' w', Tx w' base v' (l ++ [y]) → (∀ k, k < W.heap.size → v.ownBlock ≠ some k → w'.heap[k]? = W.heap[k]?) → Below base W w' → W.heap.size ≤ w'.heap.size → ((∃ g c, v = .slice (some ⟨g, 0, none⟩) l.length c ∧ v' = .slice (some ⟨g, 0, none⟩) (l.length + 1) c) ∨ ∃ g c, v' = .slice (some ⟨g, 0, none⟩) (l.length + 1) c ∧ W.heap.size ≤ g ∧ ∀ k, k < W.heap.size → w'.heap[k]? = W.heap[k]?) → wpList Tryd.prog ops Q rest (a.put o.dst v') w') : wpList Tryd.prog ops Q (o :: rest) a (W.alloc (.cells #[.int .u8 (y : Nat)] 5)) := by
  obtain ⟨i0, hi, hz0, hz1, hz2⟩ := info_parts Tryd.infoU8
  have hB : Blk (W.alloc (.cells #[.int .u8 (y : Nat)] 5)) W.heap.size #[.int .u8 (y : Nat)] 5 := Blk.new W _ _
  have hN : ∀ j u, ([.int .u8 (y : Nat)] : List Value)[j]? = some u → (W.alloc (.cells #[.int .u8 (y : Nat)] 5)).cell? ((⟨W.heap.size, 0, none⟩ : Addr).add j) = some u := by
    intro j u hu
    obtain rfl : j = 0 := by
      have := (List.getElem?_eq_some_iff.1 hu).1
      simpa using this
    rw [Addr.add_lit, Nat.add_zero, hB.cell 0]
    simpa using hu
  have h1 : ∀ u ∈ ([.int .u8 (y : Nat)] : List Value), u.oneCell' = true := fun u hu => by rw [List.mem_singleton.1 hu]; rfl
  have hcl := hown.1
  have ha1 : Below base W (W.alloc (.cells #[.int .u8 (y : Nat)] 5)) := (Below.refl _ _).alloc hbase _
  have hvl : vals (l ++ [y]) = vals l ++ [.int .u8 (y : Nat)] := by simp [vals]
  have hown2 := World.ownsRow.alloc hown (.cells #[.int .u8 (y : Nat)] 5)
  obtain ⟨ad, c, rfl, hform⟩ := orow_form hown
  by_cases hroom : l.length + 1 ≤ c
  · cases ad with
    | none => have := (orow_none hown).2; omega
    | some ad =>
      obtain ⟨g, rfl⟩ := orow_where hown
      refine wpList_append_own_spare (W.alloc (.cells #[.int .u8 (y : Nat)] 5)) hgd s x 28 ho base 5 i0 1 (by kernel_rfl) hi hz1 g l.length c (vals l) hs hown2 ⟨W.heap.size, 0, none⟩ 1 1 [.int .u8 (y : Nat)] hx rfl hN h1 hroom ?_
      intro w' r1 r2
      refine h _ w' (by unfold Tx; rw [List.length_append, hvl]; exact r1) (fun k hk hne => (r2.block k (by simp; omega) (fun e => hne e.symm)).trans (Below.heap_alloc W _ k hk)) (ha1.grown r2 (by simp; omega) (fun k hk => ?_)) (Nat.le_trans (by simp) r2.size) (.inl ⟨g, c, rfl, rfl⟩)
      cases hk; exact (orow_base hown).1
  · refine wpList_append_grows (W.alloc (.cells #[.int .u8 (y : Nat)] 5)) hgd s x 28 ho 5 i0 _ 1 1 (by kernel_rfl) hi hz0 hz1 hz2 rfl (by decide) ad l.length c (vals l) hs (fun e => by subst e; exact orow_none hown) hcl (fun b hb j u hu => by
      subst hb
      obtain ⟨g, rfl⟩ := orow_where hown
      have hj : j < l.length * 1 := by have := (List.getElem?_eq_some_iff.1 hu).1; rw [vals_len] at this; omega
      have := orow_cell hown2 j hj
      rw [hu] at this
      rw [Addr.add_lit, Nat.zero_add]; exact this) ⟨W.heap.size, 0, none⟩ 1 1 [.int .u8 (y : Nat)] hx rfl hN h1 (by omega) (by unfold maxLen; omega) (by omega) ?_
    intro v' w' r1 r2
    have hb2 : Below (W.alloc (.cells #[.int .u8 (y : Nat)] 5)).heap.size (W.alloc (.cells #[.int .u8 (y : Nat)] 5)) w' := (Below.refl _ _).grown r2 (Nat.le_refl _) (fun k hk => by cases hk)
    have r3 : w'.ownsRow base 5 1 v' (l.length + 1) (vals l ++ [.int .u8 (y : Nat)]) := orow_lower r1 (by simp; omega)
    obtain ⟨g, c2, rfl⟩ := orow_some r3 (by omega)
    have hfr : ∀ k, k < W.heap.size → w'.heap[k]? = W.heap[k]? := fun k hk => (r2.block k (by simp; omega) (by simp)).trans (Below.heap_alloc W _ k hk)
    have hg := (orow_base r1).1
    refine h _ w' (by unfold Tx; rw [List.length_append, hvl]; exact r3) (fun k hk _ => hfr k hk) (ha1.trans (hb2.mono (by simp; omega))) (Nat.le_trans (by simp) r2.size) (.inr ⟨g, c2, rfl, ?_, hfr⟩)
    simp at hg
    omega
/-- A list with its tail. -/
def exl (j : Nat) (L : List Nat) : List Nat := L ++ List.replicate 64 ((j + 100) % 256)
/-- The blocks of the lists. -/
def Sf (fs : List Value) : Nat → Prop := fun k => ∃ j, j < fs.length ∧ (fs.getD j undef).ownBlock = some k
/-- While a list of the family grows (m, of list i, X put behind it). -/
structure Iz (V wo W : World) (zb : Nat) (vv : Value) (fs ms : List Value) (Ms : List (List Nat)) (i : Nat) (m : Value) (X : List Nat) : Prop where
  f : Fm W zb fs Ms
  o : Ow W V.heap.size vv ms
  mo : ∀ j, j < ms.length → Tx W zb (ms.getD j undef) (exl j (Ms.getD j [])) ∧ ∀ k, (ms.getD j undef).ownBlock = some k → ((fs.getD j undef).ownBlock = some k ∨ V.heap.size ≤ k) ∧ k < wo.heap.size
  kp : Kp (Sf fs) V W
  tx : Tx W zb m (Ms.getD i [] ++ X)
  om : ∀ k, m.ownBlock = some k → (fs.getD i undef).ownBlock = some k ∨ wo.heap.size ≤ k
  pf : (∃ g kf, fs.getD i undef = .slice (some ⟨g, 0, none⟩) (Ms.getD i []).length kf ∧ m = .slice (some ⟨g, 0, none⟩) (Ms.getD i [] ++ X).length kf) ∨ ∀ k, m.ownBlock = some k → wo.heap.size ≤ k
theorem Iz.step {V wo W w' : World} {zb y : Nat} {vv m m' : Value} {fs ms : List Value} {Ms : List (List Nat)} {i : Nat} {X : List Nat} (h : Iz V wo W zb vv fs ms Ms i m X) (hi : i < fs.length) (hms : ms.length = i) (hfs : ∀ j, j < fs.length → ∀ k, (fs.getD j undef).ownBlock = some k → k < V.heap.size) (hwo : V.heap.size ≤ wo.heap.size) (hW : wo.heap.size ≤ W.heap.size)
    (T8 : Tx w' zb m' (Ms.getD i [] ++ X ++ [y])) (fr : ∀ k, k < W.heap.size → m.ownBlock ≠ some k → w'.heap[k]? = W.heap[k]?) (b8 : Below zb W w') (hs : W.heap.size ≤ w'.heap.size)
    (alt : (∃ g c, m = .slice (some ⟨g, 0, none⟩) (Ms.getD i [] ++ X).length c ∧ m' = .slice (some ⟨g, 0, none⟩) ((Ms.getD i [] ++ X).length + 1) c) ∨ ∃ g c, m' = .slice (some ⟨g, 0, none⟩) ((Ms.getD i [] ++ X).length + 1) c ∧ W.heap.size ≤ g ∧ ∀ k, k < W.heap.size → w'.heap[k]? = W.heap[k]?) : Iz V wo w' zb vv fs ms Ms i m' (X ++ [y]) := by
  have hlen : (Ms.getD i [] ++ (X ++ [y])).length = (Ms.getD i [] ++ X).length + 1 := by simp [List.length_append]; omega
  have hT : Tx w' zb m' (Ms.getD i [] ++ (X ++ [y])) := by rw [← List.append_assoc]; exact T8
  have hne : ∀ j, j < fs.length → j ≠ i → ∀ k, (fs.getD j undef).ownBlock = some k → m.ownBlock ≠ some k := fun j hj hji k hk hm => by
    rcases h.om k hm with h1 | h1
    · exact h.f.ap j i hj hi hji k hk h1
    · have := hfs j hj k hk; omega
  refine ⟨⟨h.f.len, fun j hj => ?_, h.f.ap⟩, h.o.on fun k hk => fr k (h.o.lt k hk).2 fun hm => h.o.ne h.tx k hm hk, fun j hj => ?_, ?_, hT, fun k hk => ?_, ?_⟩
  · by_cases hji : j = i
    · subst hji
      rcases alt with ⟨g, c, hm, hm'⟩ | ⟨g, c, hm', hg, hall⟩
      · rcases h.pf with ⟨g2, kf, h1, h2⟩ | h1
        · rw [hm] at h2
          simp only [Value.slice.injEq, Option.some.injEq, Addr.mk.injEq] at h2
          obtain ⟨⟨hg, -, -⟩, -, hc⟩ := h2
          subst hg
          subst hc
          rw [h1]
          have h3 := hT
          have e2 : (Ms.getD j [] ++ X).length + 1 = (Ms.getD j []).length + (X ++ [y]).length := by simp [List.length_append]; omega
          have e3 : (Ms.getD j [] ++ (X ++ [y])).length = (Ms.getD j []).length + (X ++ [y]).length := List.length_append
          rw [hm', e2] at h3
          unfold Tx at h3 ⊢
          rw [e3, show vals (Ms.getD j [] ++ (X ++ [y])) = vals (Ms.getD j []) ++ vals (X ++ [y]) by simp [vals]] at h3
          exact orow_prefix h3 (by rw [vals_len, Nat.mul_one])
        · refine (h.f.tx j hj).keep fun k hk => fr k ((h.f.tx j hj).block k hk).2 fun hmk => ?_
          have := h1 k hmk
          have := hfs j hj k hk
          omega
      · exact (h.f.tx j hj).keep fun k hk => hall k ((h.f.tx j hj).block k hk).2
    · exact (h.f.tx j hj).keep fun k hk => fr k ((h.f.tx j hj).block k hk).2 (hne j hj hji k hk)
  · obtain ⟨h1, h2⟩ := h.mo j hj
    refine ⟨h1.keep fun k hk => fr k (h1.block k hk).2 fun hmk => ?_, h2⟩
    have h3 := h2 k hk
    rcases h.om k hmk with h4 | h4
    · rcases h3.1 with h5 | h5
      · exact h.f.ap j i (by omega) hi (by omega) k h5 h4
      · have := hfs i hi k h4; omega
    · omega
  · refine ⟨b8.os.trans h.kp.os, b8.tape.trans h.kp.tape, b8.output.trans h.kp.output, Nat.le_trans h.kp.size hs, fun k hk hn => ?_⟩
    refine (fr k (Nat.lt_of_lt_of_le hk h.kp.size) fun hmk => ?_).trans (h.kp.block k hk hn)
    rcases h.om k hmk with h4 | h4
    · exact hn ⟨i, hi, h4⟩
    · omega
  · rcases alt with ⟨g, c, hm, hm'⟩ | ⟨g, c, hm', hg, -⟩
    · refine h.om k ?_
      rw [hm]
      rw [hm'] at hk
      exact hk
    · rw [hm'] at hk
      obtain rfl : g = k := by simpa [Value.ownBlock] using hk
      exact .inr (by omega)
  · rcases alt with ⟨g, c, hm, hm'⟩ | ⟨g, c, hm', hg, -⟩
    · rcases h.pf with ⟨g2, kf, h1, h2⟩ | h1
      · rw [hm] at h2
        simp only [Value.slice.injEq, Option.some.injEq, Addr.mk.injEq] at h2
        obtain ⟨⟨hg, -, -⟩, -, hc⟩ := h2
        subst hg
        subst hc
        exact .inl ⟨g, c, h1, by rw [hm', hlen]⟩
      · refine .inr fun k hk => h1 k ?_
        rw [hm]
        rw [hm'] at hk
        exact hk
    · refine .inr fun k hk => ?_
      rw [hm'] at hk
      obtain rfl : g = k := by simpa [Value.ownBlock] using hk
      omega
/-- Between the lists. -/
structure Io (V W : World) (zb : Nat) (vv : Value) (fs ms : List Value) (Ms : List (List Nat)) : Prop where
  f : Fm W zb fs Ms
  o : Ow W V.heap.size vv ms
  mo : ∀ j, j < ms.length → Tx W zb (ms.getD j undef) (exl j (Ms.getD j [])) ∧ ∀ k, (ms.getD j undef).ownBlock = some k → (fs.getD j undef).ownBlock = some k ∨ V.heap.size ≤ k
  kp : Kp (Sf fs) V W
theorem Io.start {V W : World} {zb : Nat} {vv : Value} {fs ms : List Value} {Ms : List (List Nat)} (h : Io V W zb vv fs ms Ms) (i : Nat) (hi : i < fs.length) : Iz V W W zb vv fs ms Ms i (fs.getD i undef) [] := by
  have hx := h.f.tx i hi
  refine ⟨h.f, h.o, fun j hj => ⟨(h.mo j hj).1, fun k hk => ⟨(h.mo j hj).2 k hk, ((h.mo j hj).1.block k hk).2⟩⟩, h.kp, by rw [List.append_nil]; exact hx, fun k hk => .inl hk, ?_⟩
  obtain ⟨ad, c, e, -⟩ := orow_form hx
  cases ad with
  | none => exact .inr fun k hk => by rw [e] at hk; cases hk
  | some ad =>
    have hx2 := hx
    unfold Tx at hx2
    rw [e] at hx2
    obtain ⟨g, rfl⟩ := orow_where hx2
    exact .inl ⟨g, c, e, by rw [List.append_nil]; exact e⟩
theorem Iz.below {V wo W W' : World} {zb : Nat} {vv m : Value} {fs ms : List Value} {Ms : List (List Nat)} {i : Nat} {X : List Nat} (h : Iz V wo W zb vv fs ms Ms i m X) (hb : Below W.heap.size W W') : Iz V wo W' zb vv fs ms Ms i m X :=
  ⟨h.f.below hb, h.o.on fun k hk => hb.block k (h.o.lt k hk).2, fun j hj => ⟨(h.mo j hj).1.on hb, (h.mo j hj).2⟩, h.kp.on hb, h.tx.on hb, h.om, h.pf⟩
theorem Iz.finish {V wo W w' : World} {zb : Nat} {vv vv' m : Value} {fs ms : List Value} {Ms : List (List Nat)} {i : Nat} (h : Iz V wo W zb vv fs ms Ms i m (List.replicate 64 ((i + 100) % 256))) (hms : ms.length = i) (hwo : V.heap.size ≤ wo.heap.size)
    (r1 : w'.ownsRow V.heap.size 28 1 vv' (ms.length + 1) (ms ++ [m])) (r3 : ∀ k, k < W.heap.size → vv.ownBlock ≠ some k → w'.heap[k]? = W.heap[k]?) (r4 : Below V.heap.size W w') : Io V w' zb vv' fs (ms ++ [m]) Ms := by
  have hs := r4.size
  refine ⟨h.f.on fun j hj k hk => r3 k ((h.f.tx j hj).block k hk).2 (h.o.ne (h.f.tx j hj) k hk), by unfold Ow; rw [List.length_append]; exact r1, fun j hj => ?_, ?_⟩
  · rw [List.length_append] at hj
    by_cases hl : j = ms.length
    · subst hl
      rw [snoc_last]
      subst hms
      refine ⟨h.tx.keep fun k hk => r3 k (h.tx.block k hk).2 (h.o.ne h.tx k hk), fun k hk => ?_⟩
      rcases h.om k hk with h1 | h1
      · exact .inl h1
      · exact .inr (by omega)
    · have hj2 : j < ms.length := by simp at hj; omega
      rw [snoc_init _ _ _ _ hj2]
      obtain ⟨h1, h2⟩ := h.mo j hj2
      exact ⟨h1.keep fun k hk => r3 k (h1.block k hk).2 (h.o.ne h1 k hk), fun k hk => (h2 k hk).1⟩
  · refine ⟨r4.os.trans h.kp.os, r4.tape.trans h.kp.tape, r4.output.trans h.kp.output, Nat.le_trans h.kp.size hs, fun k hk hn => ?_⟩
    refine (r3 k (Nat.lt_of_lt_of_le hk h.kp.size) fun hv => ?_).trans (h.kp.block k hk hn)
    have := (h.o.lt k hv).1
    omega
end Go.Proofs.YtlckjbangdnejaaDoor
