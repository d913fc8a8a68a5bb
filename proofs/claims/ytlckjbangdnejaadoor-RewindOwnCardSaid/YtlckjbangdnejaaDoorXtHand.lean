/-
  Drawn regions by hand: two that may come first, one that writes; append of lists to a list of the call's own.
-/
import Derived.Test.YtlckjbangdnejaaDoorXtTurnS
import Derived.Deep.DeepAppendWide
set_option linter.unusedSimpArgs false
set_option linter.unusedVariables false
namespace Go.Proofs.YtlckjbangdnejaaDoor
open Go.RowKit Classical
theorem worldHX {P : Program} {ops : Array Oper} {Q : Exit → Act → World → Prop} {md : Region.Mode} {S : World → Prop} {i : Nat} {fuel : Nat} {listed : Array Bool} {a : Act} {w w1 : World} {o : Oper} {v : Value} (a' : Act)
    (hr : Region.ready md ops listed = [i]) (hi : ops[i]? = some o) (hw : Region.wanted o (yielded ops a.tmps) = true) (he : (execOp a.eval o).run P w = .ok (.value v) w1) (ha : a.put o.dst v = a') (h : S w1 ∧ wpAnyH P md ops Q S fuel (listed.setIfInBounds i true) a' w1) : wpAnyH P md ops Q S (fuel + 1) listed a w :=
  wpAnyH_all hr (List.cons_ne_nil _ _) fun j hj => by
    obtain rfl := List.mem_singleton.1 hj
    subst ha
    unfold wpOp
    rw [hi]
    simp only [hw, if_true]
    left
    unfold Oper.wp
    rw [he]
    exact h
theorem pickHX {P : Program} {ops : Array Oper} {Q : Exit → Act → World → Prop} {md : Region.Mode} {S : World → Prop} {i j : Nat} {fuel : Nat} {listed : Array Bool} {a : Act} {w : World} (hr : Region.ready md ops listed = [i, j])
    (h1 : wpOp P ops Q i (fun a' w' => S w' ∧ wpAnyH P md ops Q S fuel (listed.setIfInBounds i true) a' w') a w) (h2 : wpOp P ops Q j (fun a' w' => S w' ∧ wpAnyH P md ops Q S fuel (listed.setIfInBounds j true) a' w') a w) : wpAnyH P md ops Q S (fuel + 1) listed a w :=
  wpAnyH_all hr (List.cons_ne_nil _ _) fun k hk => by
    rcases List.mem_cons.1 hk with rfl | hk
    · exact h1
    · obtain rfl := List.mem_singleton.1 hk
      exact h2
theorem worldOX {P : Program} {ops : Array Oper} {Q : Exit → Act → World → Prop} {K : Act → World → Prop} {i : Nat} {a : Act} {w w1 : World} {o : Oper} {v : Value} (hi : ops[i]? = some o) (hw : Region.wanted o (yielded ops a.tmps) = true) (he : (execOp a.eval o).run P w = .ok (.value v) w1) (a' : Act) (ha : a.put o.dst v = a') (h : K a' w1) : wpOp P ops Q i K a w := by
  subst ha
  unfold wpOp
  rw [hi]
  simp only [hw, if_true]
  left
  unfold Oper.wp
  rw [he]
  exact h
theorem exec_appX {P : Program} {ρ : Operand → Value} {o : Oper} {s x : Operand} {t : TypeId} {v y u : Value} {w w' : World} (ho : o.op = .call { callee := .builtin .append, args := #[s, x], argTypes := #[t, t] }) (hs : ρ s = v) (hx : ρ x = y) (hr : (Builtin.append_ #[t, t] o.type #[v, y]).run P w = .ok u w') : (execOp ρ o).run P w = .ok (.value u) w' := by
  unfold execOp
  simp only [ho, resolve, invoke, builtin, Sem.run_bind, Sem.run_pure, Result.andThen_ok, List.map_toArray, List.map_cons, List.map_nil, hs, hx, hr]
theorem kv_len (E : Nat → Option Addr) (C : Nat → Nat) (L : Nat → List Nat) (ks : List Nat) : (kv E C L ks).length = ks.length := by simp [kv]
theorem kv_at (E : Nat → Option Addr) (C : Nat → Nat) (L : Nat → List Nat) (ks : List Nat) (j : Nat) (u : Value) (h : (kv E C L ks)[j]? = some u) : j < ks.length ∧ u = .slice (E (ks.getD j 0)) (L (ks.getD j 0)).length (C (ks.getD j 0)) := by
  have hj : j < ks.length := by have := (List.getElem?_eq_some_iff.1 h).1; rwa [kv_len] at this
  refine ⟨hj, ?_⟩
  simp [kv, List.getElem?_eq_getElem hj] at h
  simp [List.getD, List.getElem?_eq_getElem hj, h]
theorem kv_one (E : Nat → Option Addr) (C : Nat → Nat) (L : Nat → List Nat) (ks : List Nat) : ∀ u ∈ kv E C L ks, u.oneCell' = true := by
  intro u hu
  simp only [kv, List.mem_map] at hu
  obtain ⟨i, -, rfl⟩ := hu
  rfl
theorem Kt.new (W : World) (base : Nat) (hb : base ≤ W.heap.size) (E : Nat → Option Addr) (C : Nat → Nat) (L : Nat → List Nat) : Kt (W.alloc (.cells #[] 28)) base E C L (.slice (some ⟨W.heap.size, 0, none⟩) 0 0) [] :=
  ⟨rfl, .inr ⟨_, 0, _, rfl, hb, heap_alloc_new W _, Nat.le_refl _, by decide, rfl, rfl⟩⟩
/-- Lists somewhere are put behind those of a list of the call's own. -/
theorem app_all (ty : TypeId) (E : Nat → Option Addr) (C : Nat → Nat) (L : Nat → List Nat) (W : World) (base : Nat) (v u : Value) (ks js : List Nat) (h : Kt W base E C L v ks) (hr : Rl W E C L u js) (hl : ks.length + js.length ≤ 1000) (hb : base ≤ W.heap.size) :
    ∃ v' w', (Builtin.append_ #[22, 22] ty #[v, u]).run Tryd.prog W = .ok v' w' ∧ Kt w' base E C L v' (ks ++ js) ∧ Below base W w' := by
  obtain ⟨i0, hi, hz0, hz1, hz2⟩ := info_parts Tryd.infoRow
  have hbel : ∀ k, v.ownBlock = some k → base ≤ k := fun k hk => (h.lt k hk).1
  obtain ⟨a, c, rfl, hc, hx⟩ := hr
  cases a with
  | none =>
    have hj : js = [] := by
      cases js with
      | nil => rfl
      | cons x r => obtain ⟨g, o, e, -⟩ := hx 0 (by simp); cases e
    subst hj
    refine ⟨v, W, run_app_nil base 22 ty 28 i0 1 c (by kernel_rfl) hi v ks.length (kv E C L ks) h, by rw [List.append_nil]; exact h, Below.refl _ _⟩
  | some a =>
    obtain ⟨g, o, s⟩ := a
    obtain ⟨v', w', hrun, h1, h2, _⟩ := run_append_own_wide (P := Tryd.prog) W base 22 ty 28 i0 _ 1 24 (by kernel_rfl) hi hz0 hz1 hz2 rfl (by decide) v ks.length (kv E C L ks) h ⟨g, o, s⟩ js.length c (kv E C L js) (by rw [kv_len, Nat.mul_one]) (fun j u hu => by
      obtain ⟨hj, rfl⟩ := kv_at E C L js j u hu
      obtain ⟨g', o', e, hcell⟩ := hx j hj
      cases e
      rw [Addr.add_lit]
      exact hcell) (kv_one E C L js) (by unfold maxLen; omega) (by omega) hb
    refine ⟨v', w', hrun, ?_, (Below.refl base W).grown h2 hb hbel⟩
    unfold Kt
    rw [List.length_append, show kv E C L (ks ++ js) = kv E C L ks ++ kv E C L js by simp [kv]]
    exact h1
/-- The same, and a block that is none of it stays. -/
theorem app_all2 (ty : TypeId) (E : Nat → Option Addr) (C : Nat → Nat) (L : Nat → List Nat) (W : World) (base : Nat) (v u : Value) (ks js : List Nat) (h : Kt W base E C L v ks) (hr : Rl W E C L u js) (hl : ks.length + js.length ≤ 1000) (hb : base ≤ W.heap.size) (p : Nat) (cs : Array Value) (T : TypeId) (hp : Blk W p cs T) (hne : v.ownBlock ≠ some p) :
    ∃ v' w', (Builtin.append_ #[22, 22] ty #[v, u]).run Tryd.prog W = .ok v' w' ∧ Kt w' base E C L v' (ks ++ js) ∧ Below base W w' ∧ Blk w' p cs T := by
  obtain ⟨i0, hi, hz0, hz1, hz2⟩ := info_parts Tryd.infoRow
  have hbel : ∀ k, v.ownBlock = some k → base ≤ k := fun k hk => (h.lt k hk).1
  obtain ⟨a, c, rfl, hc, hx⟩ := hr
  cases a with
  | none =>
    have hj : js = [] := by
      cases js with
      | nil => rfl
      | cons x r => obtain ⟨g, o, e, -⟩ := hx 0 (by simp); cases e
    subst hj
    refine ⟨v, W, run_app_nil base 22 ty 28 i0 1 c (by kernel_rfl) hi v ks.length (kv E C L ks) h, by rw [List.append_nil]; exact h, Below.refl _ _, hp⟩
  | some a =>
    obtain ⟨g, o, s⟩ := a
    obtain ⟨v', w', hrun, h1, h2, _⟩ := run_append_own_wide (P := Tryd.prog) W base 22 ty 28 i0 _ 1 24 (by kernel_rfl) hi hz0 hz1 hz2 rfl (by decide) v ks.length (kv E C L ks) h ⟨g, o, s⟩ js.length c (kv E C L js) (by rw [kv_len, Nat.mul_one]) (fun j u hu => by
      obtain ⟨hj, rfl⟩ := kv_at E C L js j u hu
      obtain ⟨g', o', e, hcell⟩ := hx j hj
      cases e
      rw [Addr.add_lit]
      exact hcell) (kv_one E C L js) (by unfold maxLen; omega) (by omega) hb
    refine ⟨v', w', hrun, ?_, (Below.refl base W).grown h2 hb hbel, (h2.block p hp.lt (fun e => hne e.symm)).trans hp⟩
    unfold Kt
    rw [List.length_append, show kv E C L (ks ++ js) = kv E C L ks ++ kv E C L js by simp [kv]]
    exact h1
/-- A list alone in a block, as the list of one list. -/
theorem Rl.one (E : Nat → Option Addr) (C : Nat → Nat) (L : Nat → List Nat) (W : World) (g i : Nat) (h : Blk W g #[.slice (E i) (L i).length (C i)] 28) : Rl W E C L (.slice (some ⟨g, 0, none⟩) 1 1) [i] :=
  ⟨_, 1, rfl, Nat.le_refl _, fun j hj => by
    obtain rfl : j = 0 := by simpa using hj
    exact ⟨g, 0, rfl, h.cell 0⟩⟩
/-- A list of the call's own is one somewhere. -/
theorem Kt.read {W : World} {base : Nat} {E : Nat → Option Addr} {C : Nat → Nat} {L : Nat → List Nat} {v : Value} {ks : List Nat} (h : Kt W base E C L v ks) : Rl W E C L v ks := by
  obtain ⟨a, c, e, hx⟩ := h.form
  refine ⟨a, c, e, ?_, fun i hi => ?_⟩
  · rcases h.2 with ⟨e2, e3⟩ | ⟨g, cap, cur, e2, -, -, h4, -⟩
    · rw [e2, Value.slice.injEq] at e; omega
    · rw [e2, Value.slice.injEq] at e; omega
  · obtain ⟨g, e2, hc⟩ := hx i hi
    exact ⟨g, 0, e2, by rw [Nat.zero_add]; exact hc⟩
end Go.Proofs.YtlckjbangdnejaaDoor
