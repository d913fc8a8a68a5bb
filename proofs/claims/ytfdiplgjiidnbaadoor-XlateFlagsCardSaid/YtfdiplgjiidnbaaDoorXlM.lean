/-
  A region that draws its order and whose last operation writes over what the others read.
-/
import Derived.Test.YtfdiplgjiidnbaaDoorXlHand
set_option linter.unusedSimpArgs false
set_option linter.unusedVariables false
namespace Go.Proofs.YtfdiplgjiidnbaaDoor
open Go.RowKit Classical
/-- Whatever order is picked, S holds behind every operation but m. -/
def AnyM (P : Program) (ops : Array Oper) (Q : Exit → Act → World → Prop) (S : World → Prop) (m : Nat) : Nat → Array Bool → Act → World → Prop
  | 0, l, a, w => Region.ready .any ops l = [] ∧ Q .normal a w
  | fuel + 1, l, a, w => (Region.ready .any ops l = [] → Q .normal a w) ∧ ∀ i ∈ Region.ready .any ops l, wpOp P ops Q i (fun a' w' => (i ≠ m → S w') ∧ AnyM P ops Q S m fuel (l.setIfInBounds i true) a' w') a w
theorem AnyM.any {P : Program} {ops : Array Oper} {Q : Exit → Act → World → Prop} {S : World → Prop} {m : Nat} : ∀ (fuel : Nat) (l : Array Bool) (a : Act) (w : World), AnyM P ops Q S m fuel l a w → wpAny P .any ops Q fuel l a w
  | 0, _, _, _, h => h
  | fuel + 1, _, _, _, h => ⟨h.1, fun i hi => wpOp_mono (fun a' w' h' => AnyM.any fuel _ a' w' h'.2) (h.2 i hi)⟩
/-- Does m wait for i? -/
def waitsB (ops : Array Oper) (m i : Nat) : Bool := match ops[m]? with
  | some o => o.after.any fun e => Region.binds .any e && e.on == i
  | none => true
theorem waits_ready {ops : Array Oper} {m i : Nat} {l : Array Bool} (hw : waitsB ops m i = true) (hi : i ∈ Region.ready .any ops l) : m ∉ Region.ready .any ops l := by
  intro hm
  obtain ⟨_, om, hom, hall⟩ := mem_ready.1 hm
  unfold waitsB at hw
  rw [hom] at hw
  obtain ⟨e, he, hb⟩ := Array.any_eq_true'.1 hw
  simp only [Bool.and_eq_true, beq_iff_eq] at hb
  have h1 := hall e he hb.1
  have h0 := (mem_ready.1 hi).1
  rw [hb.2] at h1
  rcases Nat.lt_or_ge i l.size with h' | h'
  · simp [h'] at h0 h1; rw [h0] at h1; cases h1
  · simp [Array.getElem?_eq_none h'] at h1
theorem AnyM.first {P : Program} {ops : Array Oper} {Q : Exit → Act → World → Prop} {S : World → Prop} {m i : Nat} {oi : Oper} {v : Value} (hi : ops[i]? = some oi) (hsel : ∀ (j : Nat) (o : Oper) cs b, ops[j]? = some o → o.op ≠ .select cs b) (hm : waitsB ops m i = true)
    (hQ : ∀ c a w, Q (.panic c) (a.put oi.dst v) w → Q (.panic c) a w) : ∀ (fuel : Nat) (l : Array Bool) (a : Act) (w : World),
      (∀ j oj, ops[j]? = some oj → j ≠ i → l.getD j true = false → (∀ e ∈ oj.after, Region.binds .any e = true → e.on ≠ i) → oi.apart ops oj = true) →
      i ∈ Region.ready .any ops l → YieldsIf P ops S oi v a → S w → AnyM P ops Q S m fuel (l.setIfInBounds i true) (a.put oi.dst v) w → AnyM P ops Q S m (fuel + 1) l a w := by
  intro fuel
  induction fuel with
  | zero =>
    intro l a w _ hr hy hS H
    refine ⟨fun h => absurd hr (by rw [h]; simp), fun j hj => ?_⟩
    by_cases hji : j = i
    · subst hji; exact hy.wpOp hi hS ⟨fun _ => hS, H⟩
    · exact absurd (ready_mono hj hji) (by rw [H.1]; simp)
  | succ fuel ih =>
    intro l a w hfree hr hy hS H
    refine ⟨fun h => absurd hr (by rw [h]; simp), fun j hj => ?_⟩
    by_cases hji : j = i
    · subst hji; exact hy.wpOp hi hS ⟨fun _ => hS, H⟩
    · have hjm : j ≠ m := fun h => waits_ready hm hr (h ▸ hj)
      have h1 := H.2 j (ready_mono hj hji)
      obtain ⟨hjun, oj, hoj, hall⟩ := mem_ready.1 hj
      have hnot : ∀ e ∈ oj.after, Region.binds .any e = true → e.on ≠ i := by
        intro e he hb heq
        have g1 := hall e he hb
        have g0 := (mem_ready.1 hr).1
        rw [heq] at g1
        rcases Nat.lt_or_ge i l.size with h' | h'
        · simp [h'] at g0 g1; rw [g0] at g1; cases g1
        · simp [Array.getElem?_eq_none h'] at g1
      have h2 := wpOp_putIf hoj (hfree j oj hoj hji hjun hnot) (fun cs b => hsel i oi cs b hi) (fun cs b => hsel j oj cs b hoj) hQ hy h1
      refine wpOp_mono (fun a' w' h3 => ⟨h3.2.1, ih (l.setIfInBounds j true) a' w' ?_ (ready_mono hr (Ne.symm hji)) h3.1 (h3.2.1 hjm) ?_⟩) h2
      · intro k ok hk hki hun hno
        refine hfree k ok hk hki ?_ hno
        by_cases hjk : j = k
        · subst hjk; exact hjun
        · rw [getD_set_ne true hjk] at hun; exact hun
      · rw [Array.setIfInBounds_comm _ _ hji]
        exact h3.2.2
theorem takeM {P : Program} {ops : Array Oper} {Q : Exit → Act → World → Prop} {S : World → Prop} {m i : Nat} {oi : Oper} {v : Value} {fuel : Nat} {l : Array Bool} {a : Act} {w : World} (a' : Act) (hi : ops[i]? = some oi)
    (hs : Region.noSelect ops = true) (hm : waitsB ops m i = true) (hf : Region.free .any ops l i = true) (hr : (Region.ready .any ops l).contains i = true)
    (hQ : ∀ c a w, Q (.panic c) (a.put oi.dst v) w → Q (.panic c) a w) (hy : YieldsIf P ops S oi v a) (hS : S w) (ha : a.put oi.dst v = a')
    (h : AnyM P ops Q S m fuel (l.setIfInBounds i true) a' w) : AnyM P ops Q S m (fuel + 1) l a w :=
  AnyM.first hi (Region.noSelect_spec hs) hm hQ fuel l a w (Region.free_spec hi hf) (by simpa using hr) hy hS (by rw [ha]; exact h)
theorem callM {P : Program} {ops : Array Oper} {Q : Exit → Act → World → Prop} {S : World → Prop} {m i : Nat} {fuel : Nat} {l : Array Bool} {a : Act} {w : World} {o : Oper} {f : FuncId} {args : Array Value} {v : Value} {R : World → Prop} (a' : Act)
    (hr : Region.ready .any ops l = [i]) (hi : ops[i]? = some o) (hw : Region.wanted o (yielded ops a.tmps) = true) (he : (execOp a.eval o).run P w = .ok (.enter f args) w)
    (hc : Calls P f args w fun e w' => e = .returned v ∧ R w') (ha : a.put o.dst v = a') (h : ∀ w', R w' → S w' ∧ AnyM P ops Q S m fuel (l.setIfInBounds i true) a' w') : AnyM P ops Q S m (fuel + 1) l a w :=
  ⟨fun h0 => absurd (hr.symm.trans h0) (by simp), fun j hj => by
    obtain rfl : j = i := by rw [hr] at hj; simpa using hj
    exact wpOp_contract hi hw he hc a' ha fun w' hR => ⟨fun _ => (h w' hR).1, (h w' hR).2⟩⟩
theorem storeM {P : Program} {ops : Array Oper} {Q : Exit → Act → World → Prop} {S : World → Prop} {m : Nat} {fuel : Nat} {l : Array Bool} {a : Act} {w : World} (hr : Region.ready .any ops l = [m]) (hd : Region.ready .any ops (l.setIfInBounds m true) = [])
    (h : wpOp P ops Q m (fun a' w' => Q .normal a' w') a w) : AnyM P ops Q S m (fuel + 1) l a w :=
  ⟨fun h0 => absurd (hr.symm.trans h0) (by simp), fun j hj => by
    obtain rfl : j = m := by rw [hr] at hj; simpa using hj
    refine wpOp_mono (fun a' w' h' => ⟨fun hn => absurd rfl hn, ?_⟩) h
    cases fuel with
    | zero => exact ⟨hd, h'⟩
    | succ f => exact ⟨fun _ => h', by rw [hd]; simp⟩⟩
theorem regionM {P : Program} {ops : Array Oper} {Q : Exit → Act → World → Prop} {S : World → Prop} (m : Nat) {id : Nat} {a : Act} {w : World} (hm : P.follows .mixedOrders = true)
    (h : AnyM P ops Q S m ops.size (Array.replicate ops.size false) a { w with drawn := w.drawn + 1 }) : (Code.region id ops true).wp P Q a w :=
  wp_region_any hm (AnyM.any _ _ _ _ h)
end Go.Proofs.YtfdiplgjiidnbaaDoor
