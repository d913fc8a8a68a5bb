/-
  Blocks, rows of one's own, drawn regions by hand, results: general laws, over the mapper's texts.
-/
import Derived.Test.YtecaipakaaongaaMValid
import Derived.Test.YtecaipakaaongaaMValidR
import Derived.Deep.MidRow
import Derived.OrdersHeld
import Derived.WalkKit
import Derived.WalkSpells
import Derived.WalkLawsBesides
import Derived.Deep.RegionHeld3
import Derived.BigQuiet
import Derived.OwnWalk
import Derived.Laws.AppendOwn
import Derived.Laws.IdiomStrings
import Derived.Deep.QuietTactic
import Derived.Deep.DeepAppendRoom
import Derived.ArgAppend
import Derived.Deep.DeepCutAuto
import Derived.Deep.CutBlock
set_option linter.unusedSimpArgs false
set_option linter.unusedVariables false
namespace Go.Proofs.Ytecaipakaaongaa
open Go.RowKit Classical
theorem Blk.range' {w : World} {b : Nat} {cs : Array Value} {t : TypeId} (h : Blk w b cs t) : w.rangeAt b 0 cs.toList := fun j v hv => by
  rw [Nat.zero_add, h.cell j]; simpa using hv
theorem Blk.there' {w : World} {b : Nat} {cs : Array Value} {t : TypeId} (h : Blk w b cs t) (n : Nat) (hn : cs.size = n) : w.there b 0 n := fun j hj => by
  rw [Nat.zero_add, h.cell j]; exact ⟨by simp; omega, h.free j⟩
theorem setCells_below' {B b : Nat} (hB : B ≤ b) : ∀ (vs : List Value) (o : Nat) (a w : World), Below B a w → Below B a (w.setCells b o vs)
  | [], _, _, _, h => h
  | _ :: vs, o, a, _, h => setCells_below' hB vs (o + 1) a _ (h.setCell (p := ⟨b, o, none⟩) hB _)
/-- At a plain region's list: a struct loaded whole. -/
theorem wpList_load_blk {P : Program} {ops : Array Oper} {rest : List Oper} {op : Oper} {a : Act} {w : World} {Q : Exit → Act → World → Prop} (hgd : op.guard = none) (ty : TypeId) (x : Operand) (ho : op.op = .load ty x)
    (b : Nat) (hx : a.eval x = .pointer (some ⟨b, 0, none⟩)) (cs : Array Value) (d : TypeDesc) (hB : Blk w b cs ty)
    (hu : P.underlying ty = some d) (hd : d.isRow = true) (hi : (P.info? ty).map (·.size) = some cs.size)
    (h : wpList P ops Q rest (a.put op.dst (.agg cs)) w) : wpList P ops Q (op :: rest) a w :=
  wpList_load_mid hgd ty x ho b 0 hx cs.toList d hB.range' hu hd (by rw [Array.length_toList]; exact hi) (by rw [Array.toArray_toList]; exact h)
/-- At a plain region's list: a struct stored whole over a block. -/
theorem wpList_store_blk {P : Program} {ops : Array Oper} {rest : List Oper} {op : Oper} {a : Act} {w : World} {Q : Exit → Act → World → Prop} (hgd : op.guard = none) (ty : TypeId) (x y : Operand) (ho : op.op = .store ty x y)
    (b : Nat) (cs L : Array Value) (t : TypeId) (hx : a.eval x = .pointer (some ⟨b, 0, none⟩)) (hy : a.eval y = .agg L) (hB : Blk w b cs t) (hs : L.size = cs.size)
    (hi : (P.info? ty).map (·.size) = some L.size) (h1 : L.all (·.oneCell') = true) (B : Nat) (w0 : World) (hBb : B ≤ b) (hb : Below B w0 w)
    (h : ∀ w', Blk w' b L t → Below B w0 w' → (∀ b' cs' t', b' ≠ b → Blk w b' cs' t' → Blk w' b' cs' t') → wpList P ops Q rest (a.put op.dst undef) w') : wpList P ops Q (op :: rest) a w :=
  wpList_store_mid hgd ty x y ho b 0 L hx hy (hB.there' _ hs.symm) hi h1 (h _ (hB.setAll _ hs) (setCells_below' hBb _ _ _ _ hb) (fun b' cs' t' hn hb' => by
    have : ∀ (vs : List Value) (o : Nat) (w : World), Blk w b' cs' t' → Blk (w.setCells b o vs) b' cs' t' := by
      intro vs
      induction vs with
      | nil => exact fun _ _ h => h
      | cons v vs ih => exact fun o w h => ih (o + 1) _ (h.other hn o v)
    exact this _ _ _ hb'))
theorem callH {P : Program} {ops : Array Oper} {Q : Exit → Act → World → Prop} {md : Region.Mode} {S : World → Prop} {i : Nat} {fuel : Nat} {listed : Array Bool} {a : Act} {w : World} {o : Oper} {f : FuncId} {args : Array Value} {v : Value} {R : World → Prop} (a' : Act)
    (hr : Region.ready md ops listed = [i]) (hi : ops[i]? = some o) (hw : Region.wanted o (yielded ops a.tmps) = true) (he : (execOp a.eval o).run P w = .ok (.enter f args) w)
    (hc : Calls P f args w fun e w' => e = .returned v ∧ R w') (ha : a.put o.dst v = a') (h : ∀ w', R w' → S w' ∧ wpAnyH P md ops Q S fuel (listed.setIfInBounds i true) a' w') : wpAnyH P md ops Q S (fuel + 1) listed a w :=
  wpAnyH_all hr (List.cons_ne_nil _ _) fun j hj => by
    obtain rfl := List.mem_singleton.1 hj
    exact wpOp_contract hi hw he hc a' ha h
/-- Whatever order is picked, S holds behind every operation but m. -/
def AnyM (P : Program) (ops : Array Oper) (Q : Exit → Act → World → Prop) (S : World → Prop) (m : Nat) : Nat → Array Bool → Act → World → Prop
  | 0, l, a, w => Region.ready .any ops l = [] ∧ Q .normal a w
  | fuel + 1, l, a, w => (Region.ready .any ops l = [] → Q .normal a w) ∧ ∀ i ∈ Region.ready .any ops l, wpOp P ops Q i (fun a' w' => (i ≠ m → S w') ∧ AnyM P ops Q S m fuel (l.setIfInBounds i true) a' w') a w
theorem AnyM.any {P : Program} {ops : Array Oper} {Q : Exit → Act → World → Prop} {S : World → Prop} {m : Nat} : ∀ (fuel : Nat) (l : Array Bool) (a : Act) (w : World), AnyM P ops Q S m fuel l a w → wpAny P .any ops Q fuel l a w
  | 0, _, _, _, h => h
  | fuel + 1, _, _, _, h => ⟨h.1, fun i hi => wpOp_mono (fun a' w' h' => AnyM.any fuel _ a' w' h'.2) (h.2 i hi)⟩
/-- Does m wait for i? -/
def waitsB (ops : Array Oper) (m i : Nat) : Bool := match ops[m]? with
  | some o => o.after.any fun e => Region.binds .any e && e.on == i
  | none => true
theorem waits_ready {ops : Array Oper} {m i : Nat} {l : Array Bool} (hw : waitsB ops m i = true) (hi : i ∈ Region.ready .any ops l) : m ∉ Region.ready .any ops l := by
  intro hm
  obtain ⟨_, om, hom, hall⟩ := mem_ready.1 hm
  unfold waitsB at hw
  rw [hom] at hw
  obtain ⟨e, he, hb⟩ := Array.any_eq_true'.1 hw
  simp only [Bool.and_eq_true, beq_iff_eq] at hb
  have h1 := hall e he hb.1
  have h0 := (mem_ready.1 hi).1
  rw [hb.2] at h1
  rcases Nat.lt_or_ge i l.size with h' | h'
  · simp [h'] at h0 h1; rw [h0] at h1; cases h1
  · simp [Array.getElem?_eq_none h'] at h1
theorem AnyM.first {P : Program} {ops : Array Oper} {Q : Exit → Act → World → Prop} {S : World → Prop} {m i : Nat} {oi : Oper} {v : Value} (hi : ops[i]? = some oi) (hsel : ∀ (j : Nat) (o : Oper) cs b, ops[j]? = some o → o.op ≠ .select cs b) (hm : waitsB ops m i = true)
    (hQ : ∀ c a w, Q (.panic c) (a.put oi.dst v) w → Q (.panic c) a w) : ∀ (fuel : Nat) (l : Array Bool) (a : Act) (w : World),
      (∀ j oj, ops[j]? = some oj → j ≠ i → l.getD j true = false → (∀ e ∈ oj.after, Region.binds .any e = true → e.on ≠ i) → oi.apart ops oj = true) →
      i ∈ Region.ready .any ops l → YieldsIf P ops S oi v a → S w → AnyM P ops Q S m fuel (l.setIfInBounds i true) (a.put oi.dst v) w → AnyM P ops Q S m (fuel + 1) l a w := by
  intro fuel
  induction fuel with
  | zero =>
    intro l a w _ hr hy hS H
    refine ⟨fun h => absurd hr (by rw [h]; simp), fun j hj => ?_⟩
    by_cases hji : j = i
    · subst hji; exact hy.wpOp hi hS ⟨fun _ => hS, H⟩
    · exact absurd (ready_mono hj hji) (by rw [H.1]; simp)
  | succ fuel ih =>
    intro l a w hfree hr hy hS H
    refine ⟨fun h => absurd hr (by rw [h]; simp), fun j hj => ?_⟩
    by_cases hji : j = i
    · subst hji; exact hy.wpOp hi hS ⟨fun _ => hS, H⟩
    · have hjm : j ≠ m := fun h => waits_ready hm hr (h ▸ hj)
      have h1 := H.2 j (ready_mono hj hji)
      obtain ⟨hjun, oj, hoj, hall⟩ := mem_ready.1 hj
      have hnot : ∀ e ∈ oj.after, Region.binds .any e = true → e.on ≠ i := by
        intro e he hb heq
        have g1 := hall e he hb
        have g0 := (mem_ready.1 hr).1
        rw [heq] at g1
        rcases Nat.lt_or_ge i l.size with h' | h'
        · simp [h'] at g0 g1; rw [g0] at g1; cases g1
        · simp [Array.getElem?_eq_none h'] at g1
      have h2 := wpOp_putIf hoj (hfree j oj hoj hji hjun hnot) (fun cs b => hsel i oi cs b hi) (fun cs b => hsel j oj cs b hoj) hQ hy h1
      refine wpOp_mono (fun a' w' h3 => ⟨h3.2.1, ih (l.setIfInBounds j true) a' w' ?_ (ready_mono hr (Ne.symm hji)) h3.1 (h3.2.1 hjm) ?_⟩) h2
      · intro k ok hk hki hun hno
        refine hfree k ok hk hki ?_ hno
        by_cases hjk : j = k
        · subst hjk; exact hjun
        · rw [getD_set_ne true hjk] at hun; exact hun
      · rw [Array.setIfInBounds_comm _ _ hji]
        exact h3.2.2
theorem takeM {P : Program} {ops : Array Oper} {Q : Exit → Act → World → Prop} {S : World → Prop} {m i : Nat} {oi : Oper} {v : Value} {fuel : Nat} {l : Array Bool} {a : Act} {w : World} (a' : Act) (hi : ops[i]? = some oi)
    (hs : Region.noSelect ops = true) (hm : waitsB ops m i = true) (hf : Region.free .any ops l i = true) (hr : (Region.ready .any ops l).contains i = true)
    (hQ : ∀ c a w, Q (.panic c) (a.put oi.dst v) w → Q (.panic c) a w) (hy : YieldsIf P ops S oi v a) (hS : S w) (ha : a.put oi.dst v = a')
    (h : AnyM P ops Q S m fuel (l.setIfInBounds i true) a' w) : AnyM P ops Q S m (fuel + 1) l a w :=
  AnyM.first hi (Region.noSelect_spec hs) hm hQ fuel l a w (Region.free_spec hi hf) (by simpa using hr) hy hS (by rw [ha]; exact h)
theorem callM {P : Program} {ops : Array Oper} {Q : Exit → Act → World → Prop} {S : World → Prop} {m i : Nat} {fuel : Nat} {l : Array Bool} {a : Act} {w : World} {o : Oper} {f : FuncId} {args : Array Value} {v : Value} {R : World → Prop} (a' : Act)
    (hr : Region.ready .any ops l = [i]) (hi : ops[i]? = some o) (hw : Region.wanted o (yielded ops a.tmps) = true) (he : (execOp a.eval o).run P w = .ok (.enter f args) w)
    (hc : Calls P f args w fun e w' => e = .returned v ∧ R w') (ha : a.put o.dst v = a') (h : ∀ w', R w' → S w' ∧ AnyM P ops Q S m fuel (l.setIfInBounds i true) a' w') : AnyM P ops Q S m (fuel + 1) l a w :=
  ⟨fun h0 => absurd (hr.symm.trans h0) (by simp), fun j hj => by
    obtain rfl : j = i := by rw [hr] at hj; simpa using hj
    exact wpOp_contract hi hw he hc a' ha fun w' hR => ⟨fun _ => (h w' hR).1, (h w' hR).2⟩⟩
theorem storeM {P : Program} {ops : Array Oper} {Q : Exit → Act → World → Prop} {S : World → Prop} {m : Nat} {fuel : Nat} {l : Array Bool} {a : Act} {w : World} (hr : Region.ready .any ops l = [m]) (hd : Region.ready .any ops (l.setIfInBounds m true) = [])
    (h : wpOp P ops Q m (fun a' w' => Q .normal a' w') a w) : AnyM P ops Q S m (fuel + 1) l a w :=
  ⟨fun h0 => absurd (hr.symm.trans h0) (by simp), fun j hj => by
    obtain rfl : j = m := by rw [hr] at hj; simpa using hj
    refine wpOp_mono (fun a' w' h' => ⟨fun hn => absurd rfl hn, ?_⟩) h
    cases fuel with
    | zero => exact ⟨hd, h'⟩
    | succ f => exact ⟨fun _ => h', by rw [hd]; simp⟩⟩
theorem regionM {P : Program} {ops : Array Oper} {Q : Exit → Act → World → Prop} {S : World → Prop} (m : Nat) {id : Nat} {a : Act} {w : World} (hm : P.follows .mixedOrders = true)
    (h : AnyM P ops Q S m ops.size (Array.replicate ops.size false) a { w with drawn := w.drawn + 1 }) : (Code.region id ops true).wp P Q a w :=
  wp_region_any hm (AnyM.any _ _ _ _ h)
theorem wpList_load_want {P : Program} {ops : Array Oper} {rest : List Oper} {op : Oper} {a : Act} {w : World} {Q : Exit → Act → World → Prop} (hw : Region.wanted op (yielded ops a.tmps) = true) (ty : TypeId) (x : Operand) (ho : op.op = .load ty x)
    (b o : Nat) (hx : a.eval x = .pointer (some ⟨b, o, none⟩)) (cs : List Value) (d : TypeDesc) (hc : w.rangeAt b o cs)
    (hu : P.underlying ty = some d) (hd : d.isRow = true) (hi : (P.info? ty).map (·.size) = some cs.length)
    (h : wpList P ops Q rest (a.put op.dst (.agg cs.toArray)) w) : wpList P ops Q (op :: rest) a w :=
  BigFrame.wpList_want hw fun _ hK => wp_load_mid ty x ho b o hx cs d hc hu hd hi (hK _ _ h)
theorem orow_keep {w w' : World} {base s n : Nat} {T : TypeId} {v : Value} {cells : List Value} (h : w.ownsRow base T s v n cells) (hb : Below w.heap.size w w') : w'.ownsRow base T s v n cells := by
  obtain ⟨h1, h2⟩ := h
  refine ⟨h1, ?_⟩
  rcases h2 with h | ⟨g, cap, cur, e, hb', hh, hr⟩
  · exact .inl h
  · exact .inr ⟨g, cap, cur, e, hb', (hb.block g (Array.getElem?_eq_some_iff.1 hh).1).trans hh, hr⟩
theorem orow_lower {w : World} {base base' s n : Nat} {T : TypeId} {v : Value} {cells : List Value} (h : w.ownsRow base T s v n cells) (hb : base' ≤ base) : w.ownsRow base' T s v n cells := by
  obtain ⟨h1, h2⟩ := h
  refine ⟨h1, ?_⟩
  rcases h2 with h | ⟨g, cap, cur, e, hb', hr⟩
  · exact .inl h
  · exact .inr ⟨g, cap, cur, e, Nat.le_trans hb hb', hr⟩
theorem orow_other {w : World} {base s n m i : Nat} {T : TypeId} {v x : Value} {cells : List Value} (h : w.ownsRow base T s v n cells) (hm : m < base) : (w.setCell ⟨m, i, none⟩ x).ownsRow base T s v n cells := by
  obtain ⟨h1, h2⟩ := h
  refine ⟨h1, ?_⟩
  rcases h2 with h | ⟨g, cap, cur, e, hb', hh, hr⟩
  · exact .inl h
  · exact .inr ⟨g, cap, cur, e, hb', (Below.heap_setCell w ⟨m, i, none⟩ x g (show g ≠ m by omega)).trans hh, hr⟩
theorem orow_others {base s n m : Nat} {T : TypeId} {v : Value} {cells : List Value} (hm : m < base) : ∀ (vs : List Value) (i : Nat) (w : World), w.ownsRow base T s v n cells → (w.setCells m i vs).ownsRow base T s v n cells
  | [], _, _, h => h
  | _ :: vs, i, _, h => orow_others hm vs (i + 1) _ (orow_other h hm)
theorem orow_cell {w : World} {base s n g cap : Nat} {T : TypeId} {cells : List Value} (h : w.ownsRow base T s (.slice (some ⟨g, 0, none⟩) n cap) n cells) (q : Nat) (hq : q < n * s) : w.cell? ⟨g, q, none⟩ = cells[q]? := by
  rcases h.2 with ⟨e, _⟩ | ⟨g', cap', cur, e, _, hh, _, _, _, h6⟩
  · cases e
  · cases e
    rw [cell_of_row w g q cur _ (0, 0) hh, ← h6, List.getElem?_take, if_pos hq, Array.getElem?_toList]
theorem orow_free {w : World} {base s n g cap : Nat} {T : TypeId} {cells : List Value} (h : w.ownsRow base T s (.slice (some ⟨g, 0, none⟩) n cap) n cells) (q : Nat) : w.frozen? ⟨g, q, none⟩ = false := by
  rcases h.2 with ⟨e, _⟩ | ⟨g', cap', cur, e, _, hh, _⟩
  · cases e
  · cases e; exact frozen_of_row w g q cur _ hh
theorem orow_base {w : World} {base s n g cap : Nat} {T : TypeId} {cells : List Value} (h : w.ownsRow base T s (.slice (some ⟨g, 0, none⟩) n cap) n cells) : base ≤ g ∧ g < w.heap.size ∧ n ≤ cap := by
  rcases h.2 with ⟨e, _⟩ | ⟨g', cap', cur, e, hg, hh, hc, _⟩
  · cases e
  · cases e; exact ⟨hg, (Array.getElem?_eq_some_iff.1 hh).1, hc⟩
theorem orow_set {w : World} {base s n g cap : Nat} {T : TypeId} {cells : List Value} (h : w.ownsRow base T s (.slice (some ⟨g, 0, none⟩) n cap) n cells) (q : Nat) (hq : q < n * s) (x : Value) : (w.setCell ⟨g, q, none⟩ x).ownsRow base T s (.slice (some ⟨g, 0, none⟩) n cap) n (cells.set q x) := by
  obtain ⟨h1, h2⟩ := h
  rcases h2 with ⟨e, _⟩ | ⟨g', cap', cur, e, hg, hh, h3, h4, h5, h6⟩
  · cases e
  · cases e
    refine ⟨by rw [List.length_set]; exact h1, .inr ⟨g, cap, cur.setIfInBounds q x, rfl, hg, heap_setCell_same w g q cur T x hh, h3, h4, by rw [Array.size_setIfInBounds]; exact h5, ?_⟩⟩
    rw [Array.toList_setIfInBounds, ← h6]
    apply List.ext_getElem?
    intro i
    simp only [List.getElem?_take, List.getElem?_set]
    by_cases h1 : i < n * s
    · have hns : n * s ≤ cap * s := Nat.mul_le_mul_right s h3
      simp [h1, List.length_take]
      split
      · simp_all
        exact Nat.lt_of_lt_of_le h1 hns
      · rfl
    · simp [h1]; omega
theorem orow_nil {w : World} {base s : Nat} {T : TypeId} {v : Value} {cells : List Value} (h : w.ownsRow base T s v 0 cells) : ∃ a cap, v = .slice a 0 cap := by
  rcases h.2 with ⟨e, _⟩ | ⟨g', cap', cur, e, _⟩
  · exact ⟨none, 0, e⟩
  · exact ⟨_, _, e⟩
theorem orow_some {w : World} {base s n : Nat} {T : TypeId} {v : Value} {cells : List Value} (h : w.ownsRow base T s v n cells) (hn : 0 < n) : ∃ g cap, v = .slice (some ⟨g, 0, none⟩) n cap := by
  rcases h.2 with ⟨_, e⟩ | ⟨g', cap', cur, e, _⟩
  · omega
  · exact ⟨_, _, e⟩
theorem orow_form {w : World} {base s n : Nat} {T : TypeId} {v : Value} {cells : List Value} (h : w.ownsRow base T s v n cells) : ∃ a c, v = .slice a n c ∧ (0 < n → ∃ g, a = some ⟨g, 0, none⟩) := by
  rcases h.2 with ⟨e, h0⟩ | ⟨g', cap', cur, e, _⟩
  · subst h0; exact ⟨none, 0, e, fun h => absurd h (by omega)⟩
  · exact ⟨_, _, e, fun _ => ⟨_, rfl⟩⟩
theorem orow_type {w : World} {base s n q : Nat} {T T' : TypeId} {v : Value} {cells : List Value} {PC : Array Value} (h : w.ownsRow base T s v n cells) (P : Blk w q PC T') (hT : T ≠ T') : v.ownBlock ≠ some q := by
  intro e
  rcases h.2 with ⟨e', _⟩ | ⟨g', cap, cur, e', hb', hh, hr⟩
  · rw [e'] at e; cases e
  · rw [e'] at e
    cases e
    unfold Blk at P
    rw [hh] at P
    cases P
    exact hT rfl
theorem orow_ne {w : World} {base s n m i : Nat} {T : TypeId} {v x : Value} {cells : List Value} (h : w.ownsRow base T s v n cells) (hm : ∀ g k, v = .slice (some ⟨g, 0, none⟩) n k → g ≠ m) : (w.setCell ⟨m, i, none⟩ x).ownsRow base T s v n cells := by
  obtain ⟨h1, h2⟩ := h
  refine ⟨h1, ?_⟩
  rcases h2 with h | ⟨g, cap, cur, e, hb', hh, hr⟩
  · exact .inl h
  · exact .inr ⟨g, cap, cur, e, hb', (Below.heap_setCell w ⟨m, i, none⟩ x g (hm g cap e)).trans hh, hr⟩
theorem orow_lt {w : World} {base s n m : Nat} {T : TypeId} {v : Value} {cells : List Value} (h : w.ownsRow base T s v n cells) (hm : w.heap.size ≤ m) : ∀ g k, v = .slice (some ⟨g, 0, none⟩) n k → g ≠ m := by
  intro g k e
  rcases h.2 with ⟨e', _⟩ | ⟨g', cap, cur, e', hb', hh, hr⟩
  · rw [e'] at e; cases e
  · rw [e'] at e; cases e
    have := (Array.getElem?_eq_some_iff.1 hh).1; omega
theorem heldMono {P : Program} {ops : Array Oper} {Q : Exit → Act → World → Prop} {md : Region.Mode} {S S' : World → Prop} (hS : ∀ w, S' w → S w) : ∀ (fuel : Nat) (l : Array Bool) (a : Act) (w : World), wpAnyH P md ops Q S' fuel l a w → wpAnyH P md ops Q S fuel l a w
  | 0, _, _, _, h => h
  | fuel + 1, _, _, _, h => ⟨h.1, fun i hi => wpOp_mono (fun a' w' h' => ⟨hS _ h'.1, heldMono hS fuel _ a' w' h'.2⟩) (h.2 i hi)⟩
theorem callHE {P : Program} {ops : Array Oper} {Q : Exit → Act → World → Prop} {md : Region.Mode} {S : World → Prop} {i : Nat} {fuel : Nat} {listed : Array Bool} {a : Act} {w : World} {o : Oper} {f : FuncId} {args : Array Value} {R : Value → World → Prop}
    (hr : Region.ready md ops listed = [i]) (hi : ops[i]? = some o) (hw : Region.wanted o (yielded ops a.tmps) = true) (he : (execOp a.eval o).run P w = .ok (.enter f args) w)
    (hc : Calls P f args w fun e w' => ∃ v, e = .returned v ∧ R v w') (h : ∀ v w', R v w' → S w' ∧ wpAnyH P md ops Q S fuel (listed.setIfInBounds i true) (a.put o.dst v) w') : wpAnyH P md ops Q S (fuel + 1) listed a w :=
  wpAnyH_all hr (List.cons_ne_nil _ _) fun j hj => by
    obtain rfl := List.mem_singleton.1 hj
    unfold wpOp
    rw [hi]
    simp only [hw, if_true]
    left
    unfold Oper.wp
    rw [he, Oper.upon_enter]
    refine hc.mono ?_
    rintro e w' ⟨v, rfl, hR⟩
    exact h v w' hR
theorem exec_conv {P : Program} {ρ : Operand → Value} {o : Oper} {x : Operand} {s t : TypeId} {v u : Value} {w : World} (ho : o.op = .convert s t x) (hx : ρ x = v) (hc : (convert s t v).run P w = .ok u w) : (execOp ρ o).run P w = .ok (.value u) w := by
  obtain ⟨dst, o, ty, pos, after, guard⟩ := o
  simp only at ho
  subst ho
  unfold execOp
  simp only [hx, Sem.run_bind, hc, Result.andThen, Sem.run_pure]
theorem results_cell_one {fn : Func} {p q : Tmp} {ty : TypeId} (h : fn.results = #[.cell p ty, .tmp q]) (tmps : Array Value) (P : Program) (w : World) :
    (results fn tmps).run P w = ((asAddr (tmps.getD p undef)).run P w).andThen fun a w₁ => ((loadVar ty a).run P w₁).andThen fun v w₂ => .ok (.tuple #[v, tmps.getD q undef]) w₂ := by
  simp only [results, h]
  simp [Sem.run_bind, Result.andThen]
theorem ret_agg2 {P : Program} {fn : Func} {R : Ending → World → Prop} {ac : Act} {w : World} {p q : Tmp} {ty : TypeId} {m : Nat} {L : Array Value} {d : TypeDesc} {t : TypeId} {x : Value} (h : fn.results = #[.cell p ty, .tmp q]) (hp : ac.tmps.getD p undef = .pointer (some ⟨m, 0, none⟩)) (hq : ac.tmps.getD q undef = x) (hdf : ac.defers = [])
    (hb : Blk w m L t) (hu : P.underlying ty = some d) (hd : d.isRow = true) (hi : (P.info? ty).map (·.size) = some L.size) (hR : R (.returned (.tuple #[.agg L, x])) w) : bodyPost P fn R .ret ac w := by
  refine bodyPost_ret (v := .tuple #[.agg L, x]) ?_ hdf hR
  rw [results_cell_one h]
  show ((asAddr (ac.tmps.getD p undef)).run P w).andThen _ = _
  rw [hp, hq]
  have hr := run_loadVar_mid (P := P) w m 0 ty L.toList d hb.range' hu hd (by rw [Array.length_toList]; exact hi)
  simp only [asAddr, Sem.run_pure, Result.andThen_ok]
  rw [hr]
  rfl
theorem orow_types {base s n m : Nat} {T T' : TypeId} {v : Value} {cells : List Value} {cs : Array Value} {w : World} (h : w.ownsRow base T s v n cells) (P : Blk w m cs T') (hT : T ≠ T') (i : Nat) (vs : List Value) : (w.setCells m i vs).ownsRow base T s v n cells := by
  have hne : ∀ g k, v = .slice (some ⟨g, 0, none⟩) n k → g ≠ m := fun g k e he => orow_type h P hT (by rw [e, he]; rfl)
  have : ∀ (vs : List Value) (i : Nat) (w : World), w.ownsRow base T s v n cells → (w.setCells m i vs).ownsRow base T s v n cells := by
    intro vs
    induction vs with
    | nil => exact fun _ _ h => h
    | cons x vs ih => exact fun i w h => ih (i + 1) _ (orow_ne h hne)
  exact this vs i w h
theorem below_drawsX {B : Nat} {a w : World} (h : Below B a w) (n : Nat) : Below B a (w.drewN n) := ⟨h.os, h.tape, h.output, h.size, h.block⟩
theorem orow_prefix {w : World} {base s n m g cap : Nat} {T : TypeId} {xs ys : List Value} (h : w.ownsRow base T s (.slice (some ⟨g, 0, none⟩) (n + m) cap) (n + m) (xs ++ ys)) (hx : xs.length = n * s) : w.ownsRow base T s (.slice (some ⟨g, 0, none⟩) n cap) n xs := by
  rcases h.2 with ⟨e, _⟩ | ⟨g', cap', cur, e, hb, hh, h3, h4, h5, h6⟩
  · cases e
  · cases e
    refine ⟨hx, .inr ⟨g, cap, cur, rfl, hb, hh, by omega, h4, h5, ?_⟩⟩
    have : (cur.toList.take ((n + m) * s)).take (n * s) = xs := by rw [h6, ← hx, List.take_left]
    rw [List.take_take, Nat.min_eq_left (Nat.mul_le_mul_right s (by omega))] at this
    exact this
theorem orow_none {w : World} {base s n c : Nat} {T : TypeId} {cells : List Value} (h : w.ownsRow base T s (.slice none n c) n cells) : n = 0 ∧ c = 0 := by
  rcases h.2 with ⟨e, h0⟩ | ⟨g', cap', cur, e, _⟩
  · cases e; exact ⟨rfl, rfl⟩
  · cases e
theorem orow_where {w : World} {base s n c : Nat} {T : TypeId} {a : Addr} {cells : List Value} (h : w.ownsRow base T s (.slice (some a) n c) n cells) : ∃ g, a = ⟨g, 0, none⟩ := by
  rcases h.2 with ⟨e, _⟩ | ⟨g', cap', cur, e, _⟩
  · cases e
  · cases e; exact ⟨g', rfl⟩
end Go.Proofs.Ytecaipakaaongaa
