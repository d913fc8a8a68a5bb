/-
  The document's tape in memory: every snapshot is kept whole.
-/
import Derived.Test.YtlckjbangdnejaaDoorXtHand
set_option linter.unusedSimpArgs false
set_option linter.unusedVariables false
namespace Go.Proofs.YtlckjbangdnejaaDoor
open Go.RowKit Classical
/-- A list of it: nil, or in memory of the tape's own. -/
def Eo (FU : Nat → Prop) (W : World) (e : Value) (S : List Nat) : Prop := Tx W 0 e S ∧ ∀ k, e.ownBlock = some k → FU k
theorem Eo.on {FU : Nat → Prop} {W W' : World} {e : Value} {S : List Nat} (h : Eo FU W e S) (hk : ∀ k, FU k → W'.heap[k]? = W.heap[k]?) : Eo FU W' e S := ⟨h.1.keep fun k hb => hk k (h.2 k hb), h.2⟩
theorem Eo.mono {FU FQ : Nat → Prop} {W : World} {e : Value} {S : List Nat} (h : Eo FU W e S) (hs : ∀ k, FU k → FQ k) : Eo FQ W e S := ⟨h.1, fun k hk => hs k (h.2 k hk)⟩
/-- The list of its lists. -/
def Dv (FU : Nat → Prop) (W : World) (v : Value) (es : List Value) : Prop :=
  ∃ a c, v = .slice a es.length c ∧ (a = none → es = [] ∧ c = 0) ∧ ∀ p, a = some p → ∃ g o cur, p = ⟨g, o, none⟩ ∧ FU g ∧ Blk W g cur 28 ∧ o + c ≤ cur.size ∧ es.length ≤ c ∧ ∀ i, i < es.length → cur[o + i]? = es[i]?
theorem Dv.on {FU : Nat → Prop} {W W' : World} {v : Value} {es : List Value} (h : Dv FU W v es) (hk : ∀ k, FU k → W'.heap[k]? = W.heap[k]?) : Dv FU W' v es := by
  obtain ⟨a, c, rfl, hn, hx⟩ := h
  refine ⟨a, c, rfl, hn, fun p hp => ?_⟩
  obtain ⟨g, o, cur, e, hg, hB, h3⟩ := hx p hp
  exact ⟨g, o, cur, e, hg, (hk g hg).trans hB, h3⟩
theorem Dv.mono {FU FQ : Nat → Prop} {W : World} {v : Value} {es : List Value} (h : Dv FU W v es) (hs : ∀ k, FU k → FQ k) : Dv FQ W v es := by
  obtain ⟨a, c, rfl, hn, hx⟩ := h
  refine ⟨a, c, rfl, hn, fun p hp => ?_⟩
  obtain ⟨g, o, cur, e, hg, h3⟩ := hx p hp
  exact ⟨g, o, cur, e, hs g hg, h3⟩
def Ev (FU : Nat → Prop) (W : World) (es : List Value) (Os : List (List Nat)) : Prop := es.length = Os.length ∧ ∀ i, i < es.length → Eo FU W (es.getD i undef) (Os.getD i [])
/-- The document's tape: its lists, the oldest first. -/
def Dt (FU : Nat → Prop) (u lim : Nat) (Os : List (List Nat)) (W : World) : Prop :=
  ∃ v es, FU u ∧ Blk W u #[.int .i64 lim, v] 68 ∧ Dv FU W v es ∧ Ev FU W es Os ∧ Os.length ≤ lim ∧ ∀ S ∈ Os, Good S
theorem Dt.on {FU : Nat → Prop} {u lim : Nat} {Os : List (List Nat)} {W W' : World} (h : Dt FU u lim Os W) (hk : ∀ k, FU k → W'.heap[k]? = W.heap[k]?) : Dt FU u lim Os W' := by
  obtain ⟨v, es, hu, hB, hD, hE, h2⟩ := h
  exact ⟨v, es, hu, (hk u hu).trans hB, hD.on hk, ⟨hE.1, fun i hi => (hE.2 i hi).on hk⟩, h2⟩
theorem Dt.below {FU : Nat → Prop} {u lim : Nat} {Os : List (List Nat)} {W W' : World} (h : Dt FU u lim Os W) (hf : ∀ k, FU k → k < W.heap.size) (hb : Below W.heap.size W W') : Dt FU u lim Os W' := h.on fun k hk => hb.block k (hf k hk)
theorem Dt.mono {FU FQ : Nat → Prop} {u lim : Nat} {Os : List (List Nat)} {W : World} (h : Dt FU u lim Os W) (hs : ∀ k, FU k → FQ k) : Dt FQ u lim Os W := by
  obtain ⟨v, es, hu, hB, hD, hE, h2⟩ := h
  exact ⟨v, es, hs u hu, hB, hD.mono hs, ⟨hE.1, fun i hi => (hE.2 i hi).mono hs⟩, h2⟩
theorem Kp.set {S : Nat → Prop} (W : World) (g i : Nat) (v : Value) (hg : S g) : Kp S W (W.setCell ⟨g, i, none⟩ v) := Kp.of_grown (grown_set W g i v) hg
theorem getD_lt {α : Type} (l : List α) (i : Nat) (d : α) (h : i < l.length) : l[i]? = some (l.getD i d) := by simp [List.getD, List.getElem?_eq_getElem h]
/-- One more is put behind it. -/
theorem dapp (ty : TypeId) (FU : Nat → Prop) (W : World) (v : Value) (es : List Value) (h : Dv FU W v es) (p : Nat) (e : Value) (he : e.oneCell' = true) (hp : Blk W p #[e] 28) (hl : es.length ≤ 5000) :
    ∃ v' w', (Builtin.append_ #[22, 22] ty #[v, .slice (some ⟨p, 0, none⟩) 1 1]).run Tryd.prog W = .ok v' w' ∧ Dv (fun k => FU k ∨ (W.heap.size ≤ k ∧ k < w'.heap.size)) w' v' (es ++ [e]) ∧ Kp (fun k => FU k ∧ ∃ cur, Blk W k cur 28) W w' := by
  obtain ⟨i0, hi, hz0, hz1, hz2⟩ := info_parts Tryd.infoRow
  have hnews : ∀ j u, ([e] : List Value)[j]? = some u → W.cell? ((⟨p, 0, none⟩ : Addr).add j) = some u := fun j u hu => by
    obtain rfl : j = 0 := by
      have := (List.getElem?_eq_some_iff.1 hu).1
      simpa using this
    rw [Addr.add_lit, Nat.add_zero, hp.cell 0]
    simpa using hu
  have fresh : ∀ v' w', w'.ownsRow W.heap.size 28 1 v' (es.length + 1) (es ++ [e]) → W.grownBy w' none → Dv (fun k => FU k ∨ (W.heap.size ≤ k ∧ k < w'.heap.size)) w' v' (es ++ [e]) ∧ Kp (fun k => FU k ∧ ∃ cur, Blk W k cur 28) W w' := fun v' w' h1 h2 => by
    refine ⟨?_, ⟨h2.os, h2.tape, h2.output, h2.size, fun m hm _ => h2.block m hm (by simp)⟩⟩
    rcases h1.2 with ⟨-, h3⟩ | ⟨g, cap, cur, rfl, hg, hc, hcap, -, hcs, ht⟩
    · omega
    · refine ⟨_, cap, by rw [List.length_append]; rfl, fun h => (by cases h), fun q hq => ?_⟩
      cases hq
      refine ⟨g, 0, cur, rfl, .inr ⟨hg, (Array.getElem?_eq_some_iff.1 hc).1⟩, hc, by omega, by rw [List.length_append]; exact hcap, fun i hi => ?_⟩
      rw [← ht, Nat.zero_add, List.getElem?_take_of_lt (by rw [List.length_append] at hi; simpa using hi), Array.getElem?_toList]
  obtain ⟨a, c, rfl, hn, hx⟩ := h
  cases a with
  | none =>
    obtain ⟨rfl, rfl⟩ := hn rfl
    obtain ⟨v', w', hrun, h1, h2, _⟩ := run_append_own_wide (P := Tryd.prog) W W.heap.size 22 ty 28 i0 _ 1 24 (by kernel_rfl) hi hz0 hz1 hz2 rfl (by decide) (.slice none 0 0) 0 [] (World.ownsRow_nil W _ _ _) ⟨p, 0, none⟩ 1 1 [e] rfl hnews (fun u hu => by rw [List.mem_singleton.1 hu]; exact he) (by decide) (by decide) (Nat.le_refl _)
    exact ⟨v', w', hrun, fresh v' w' h1 h2⟩
  | some q =>
    obtain ⟨g, o, cur, rfl, hg, hB, hoc, hnc, hcells⟩ := hx q rfl
    by_cases hroom : es.length + 1 ≤ c
    · have hsz : i0.size = 1 := hz1
      have hr := run_append_room_cells (P := Tryd.prog) W 22 ty 28 i0 (by kernel_rfl) hi g o es.length c ⟨p, 0, none⟩ 1 1 [e] (by rw [hsz]; rfl) hnews (fun u hu => by rw [List.mem_singleton.1 hu]; exact he) hroom (fun j hj => by
        obtain rfl : j = 0 := by simpa using hj
        rw [hsz, hB.cell]
        simp
        omega) (fun j hj => by exact hB.free _)
      rw [hsz] at hr
      refine ⟨_, _, hr, ?_, Kp.set W g _ e ⟨hg, cur, hB⟩⟩
      refine ⟨some ⟨g, o, none⟩, c, by rw [List.length_append]; rfl, fun h => (by cases h), fun q hq => ?_⟩
      cases hq
      refine ⟨g, o, _, rfl, .inl hg, hB.set _ e, by rw [Array.size_setIfInBounds]; exact hoc, by rw [List.length_append]; exact hroom, fun i hi => ?_⟩
      rw [List.length_append] at hi
      by_cases hlast : i = es.length
      · subst hlast
        rw [Nat.mul_one, Array.getElem?_setIfInBounds_self_of_lt (by omega)]
        simp
      · have hi2 : i < es.length := by simp at hi; omega
        rw [Nat.mul_one, Array.getElem?_setIfInBounds_ne (by omega), hcells i hi2, List.getElem?_append_left hi2]
    · obtain ⟨v', w', hrun, h1, h2⟩ := run_append_arg_grows (P := Tryd.prog) W 22 ty 28 i0 _ 1 24 (by kernel_rfl) hi hz0 hz1 hz2 rfl (by decide) ⟨g, o, none⟩ es.length c es (by simp) (fun j u hu => by
        have hj : j < es.length := (List.getElem?_eq_some_iff.1 hu).1
        rw [Addr.add_lit, hB.cell, hcells j hj]
        exact hu) ⟨p, 0, none⟩ 1 1 [e] rfl hnews (by omega) (by unfold maxLen; omega) (by omega)
      exact ⟨v', w', hrun, fresh v' w' h1 h2⟩
theorem worldMX {P : Program} {ops : Array Oper} {Q : Exit → Act → World → Prop} {S : World → Prop} {m i : Nat} {fuel : Nat} {l : Array Bool} {a : Act} {w w1 : World} {o : Oper} {v : Value} (a' : Act)
    (hr : Region.ready .any ops l = [i]) (hi : ops[i]? = some o) (hw : Region.wanted o (yielded ops a.tmps) = true) (he : (execOp a.eval o).run P w = .ok (.value v) w1) (ha : a.put o.dst v = a') (h : S w1 ∧ AnyM P ops Q S m fuel (l.setIfInBounds i true) a' w1) : AnyM P ops Q S m (fuel + 1) l a w :=
  ⟨fun h0 => absurd (hr.symm.trans h0) (by simp), fun j hj => by
    obtain rfl : j = i := by rw [hr] at hj; simpa using hj
    subst ha
    unfold wpOp
    rw [hi]
    simp only [hw, if_true]
    left
    unfold Oper.wp
    rw [he]
    exact ⟨fun _ => h.1, h.2⟩⟩
theorem callME {P : Program} {ops : Array Oper} {Q : Exit → Act → World → Prop} {S : World → Prop} {m i : Nat} {fuel : Nat} {l : Array Bool} {a : Act} {w : World} {o : Oper} {f : FuncId} {args : Array Value} {R : Value → World → Prop}
    (hr : Region.ready .any ops l = [i]) (hi : ops[i]? = some o) (hw : Region.wanted o (yielded ops a.tmps) = true) (he : (execOp a.eval o).run P w = .ok (.enter f args) w)
    (hc : Calls P f args w fun e w' => ∃ v, e = .returned v ∧ R v w') (h : ∀ v w', R v w' → S w' ∧ AnyM P ops Q S m fuel (l.setIfInBounds i true) (a.put o.dst v) w') : AnyM P ops Q S m (fuel + 1) l a w :=
  ⟨fun h0 => absurd (hr.symm.trans h0) (by simp), fun j hj => by
    obtain rfl : j = i := by rw [hr] at hj; simpa using hj
    unfold wpOp
    rw [hi]
    simp only [hw, if_true]
    left
    unfold Oper.wp
    rw [he, Oper.upon_enter]
    refine hc.mono ?_
    rintro e w' ⟨v, rfl, hR⟩
    exact ⟨fun _ => (h v w' hR).1, (h v w' hR).2⟩⟩
end Go.Proofs.YtlckjbangdnejaaDoor
