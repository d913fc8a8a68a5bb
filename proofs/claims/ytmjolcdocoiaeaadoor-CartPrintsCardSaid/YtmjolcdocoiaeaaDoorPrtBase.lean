/-
  Lists of bytes that a call makes, and appends to them; conditions: what is named.
-/
import Derived.Test.YtmjolcdocoiaeaaDoorPrtSpec
import Derived.Test.YtmjolcdocoiaeaaDoorChkCart
import Derived.OwnWalk
import Derived.Laws.AppendOwn
import Derived.WalkKit
import Derived.WalkSpells
import Derived.WalkLawsBesides
import Derived.Lib.LazyBuf
namespace Go.Proofs.YtmjolcdocoiaeaaDoor
open Go.RowKit
/-- A load whose guard says yes. -/
theorem wpList_load_want {P : Program} {ops : Array Oper} {rest : List Oper} {op : Oper} {a : Act} {w : World} {Q : Exit → Act → World → Prop} (hw : Region.wanted op (yielded ops a.tmps) = true) (ty : TypeId) (x : Operand) (ho : op.op = .load ty x)
    (b o : Nat) (hx : a.eval x = .pointer (some ⟨b, o, none⟩)) (cs : List Value) (d : TypeDesc) (hc : w.rangeAt b o cs)
    (hu : P.underlying ty = some d) (hd : d.isRow = true) (hi : (P.info? ty).map (·.size) = some cs.length)
    (h : wpList P ops Q rest (a.put op.dst (.agg cs.toArray)) w) : wpList P ops Q (op :: rest) a w :=
  BigFrame.wpList_want hw fun _ hK => wp_load_mid ty x ho b o hx cs d hc hu hd hi (hK _ _ h)
/-- The four lists of a cartridge, and what lies where. -/
structure CartAt (w : World) (cs : Array Value) (T P Q R : List Nat) (at' ap aq ar : Option Addr) (nt np nq nr kt kp kq kr : Nat) : Prop where
  size : cs.size = 19
  one : cs.all (·.oneCell') = true
  lt : T.length = nt
  lp : P.length = np
  lq : Q.length = nq
  lr : R.length = nr
  bt : Bytes T
  bp : Bytes P
  bq : Bytes Q
  br : Bytes R
  mt : nt ≤ 140737488351232
  mp : np ≤ 140737488351232
  mq : nq ≤ 140737488351232
  mr : nr ≤ 140737488351232
  h15 : cs[15]? = some (.slice at' nt kt)
  h16 : cs[16]? = some (.slice ap np kp)
  h17 : cs[17]? = some (.slice aq nq kq)
  h18 : cs[18]? = some (.slice ar nr kr)
  rt : Row w at' T
  rp : Row w ap P
  rq : Row w aq Q
  rr : Row w ar R
theorem marked_take (l : List Nat) : (marked l).take l.length = l := by simp [marked]
theorem Own.front {w : World} {g : Nat} {l : List Nat} (h : Own w g (marked l)) : Row w (some ⟨g, 0, none⟩) l := by
  have := h.row.take l.length
  rwa [marked_take] at this

theorem lists4_low (cs : Array Value) (t p q r : Value) (i : Nat) (hi : i < 15) : (lists4 cs t p q r)[i]? = cs[i]? := by
  unfold lists4
  rw [Array.getElem?_setIfInBounds_ne (by omega), Array.getElem?_setIfInBounds_ne (by omega), Array.getElem?_setIfInBounds_ne (by omega), Array.getElem?_setIfInBounds_ne (by omega)]
theorem IsC.lists {cs : Array Value} {c : CF} (C : IsC cs c) (gt gp gq gr : Option Addr) (kt kp kq kr : Nat) : IsC (lists4 cs (.slice gt c.nt kt) (.slice gp c.np kp) (.slice gq c.nq kq) (.slice gr c.nr kr)) c := by
  have hs := C.size
  exact ⟨by rw [lists4_size]; exact C.size, lists4_one C.one rfl rfl rfl rfl,
    (lists4_low _ _ _ _ _ 0 (by decide)).trans C.h0, (lists4_low _ _ _ _ _ 1 (by decide)).trans C.h1, (lists4_low _ _ _ _ _ 2 (by decide)).trans C.h2, (lists4_low _ _ _ _ _ 3 (by decide)).trans C.h3, (lists4_low _ _ _ _ _ 4 (by decide)).trans C.h4,
    (lists4_low _ _ _ _ _ 5 (by decide)).trans C.h5, (lists4_low _ _ _ _ _ 6 (by decide)).trans C.h6, (lists4_low _ _ _ _ _ 7 (by decide)).trans C.h7, (lists4_low _ _ _ _ _ 8 (by decide)).trans C.h8, (lists4_low _ _ _ _ _ 9 (by decide)).trans C.h9,
    (lists4_low _ _ _ _ _ 10 (by decide)).trans C.h10, (lists4_low _ _ _ _ _ 11 (by decide)).trans C.h11, (lists4_low _ _ _ _ _ 12 (by decide)).trans C.h12, (lists4_low _ _ _ _ _ 13 (by decide)).trans C.h13, (lists4_low _ _ _ _ _ 14 (by decide)).trans C.h14,
    ⟨gt, kt, by simp [lists4, hs]⟩, ⟨gp, kp, by simp [lists4, hs]⟩, ⟨gq, kq, by simp [lists4, hs]⟩, ⟨gr, kr, by simp [lists4, hs]⟩, C.mt, C.mp, C.mq, C.mr⟩

theorem vals_one (l : List Nat) : ∀ u ∈ vals l, u.oneCell' = true := by
  intro u hu
  simp only [vals, List.mem_map] at hu
  obtain ⟨n, _, rfl⟩ := hu
  rfl
theorem row_of {w : World} {base n : Nat} {v : Value} {xs : List Value} (l : List Nat) (hx : xs = vals l) (h : w.ownsRow base 5 1 v n xs) : ∃ a cap, v = .slice a n cap ∧ Row w a l := by
  obtain ⟨hlen, h⟩ := h
  rcases h with ⟨rfl, rfl⟩ | ⟨g, cap, cur, rfl, _, hh, hn, _, hs, ht⟩
  · refine ⟨none, 0, rfl, .inl ?_⟩
    rw [hx] at hlen
    simpa [vals] using hlen
  · refine ⟨_, cap, rfl, .inr ⟨g, 0, rfl, fun i hi => ?_⟩⟩
    rw [Nat.zero_add, cell_of_row w g i cur _ (0, 0) hh]
    have hl : l.length = n := by rw [hx] at hlen; simpa [vals] using hlen
    have e : cur.toList.take n = vals l := by rw [← hx, ← ht, Nat.mul_one]
    have e2 : (cur.toList.take n)[i]? = some (.int .u8 (l.getD i 0 : Nat)) := by rw [e]; simp [vals, hi]
    rw [List.getElem?_take, if_pos (by omega)] at e2
    simpa using e2
theorem vals_len (l : List Nat) : (vals l).length = l.length := by simp [vals]
/-- The bytes lie in the slice, in a block from B on. -/
def RowF (B : Nat) (w : World) (a : Option Addr) (l : List Nat) : Prop := l = [] ∨ ∃ b off, a = some ⟨b, off, none⟩ ∧ B ≤ b ∧ ∀ i, i < l.length → w.cell? ⟨b, off + i, none⟩ = some (.int .u8 (l.getD i 0 : Nat))
theorem RowF.row {B : Nat} {w : World} {a : Option Addr} {l : List Nat} (h : RowF B w a l) : Row w a l := by
  rcases h with h | ⟨b, off, e, _, hc⟩
  · exact .inl h
  · exact .inr ⟨b, off, e, hc⟩
theorem RowF.of_own {B g : Nat} {w : World} {l : List Nat} (h : Own w g l) (hg : B ≤ g) : RowF B w (some ⟨g, 0, none⟩) l := .inr ⟨g, 0, rfl, hg, fun i hi => by rw [Nat.zero_add]; exact h.cell i hi⟩
theorem RowF.mono {B B' : Nat} {w : World} {a : Option Addr} {l : List Nat} (h : RowF B w a l) (hB : B' ≤ B) : RowF B' w a l := by
  rcases h with h | ⟨b, off, e, hb, hc⟩
  · exact .inl h
  · exact .inr ⟨b, off, e, Nat.le_trans hB hb, hc⟩
theorem RowF.below {B : Nat} {w w' : World} {a : Option Addr} {l : List Nat} (h : RowF B w a l) (hb : Below w.heap.size w w') : RowF B w' a l := by
  rcases h with h | ⟨b, off, e, h2, hc⟩
  · exact .inl h
  · exact .inr ⟨b, off, e, h2, fun j hj => (hb.cell (p := ⟨b, off + j, none⟩) (cell_lt (p := ⟨b, off + j, none⟩) (hc j hj))).trans (hc j hj)⟩
theorem RowF.put {B m : Nat} {w : World} {a : Option Addr} {l : List Nat} (h : RowF B w a l) (hm : m < B) (i : Nat) (v : Value) : RowF B (w.setCell ⟨m, i, none⟩ v) a l := by
  rcases h with h | ⟨b, off, e, h2, hc⟩
  · exact .inl h
  · refine .inr ⟨b, off, e, h2, fun t ht => ?_⟩
    rw [World.cell?_setCell_far w ⟨m, i, none⟩ ⟨b, off + t, none⟩ v (by show m ≠ b; omega)]
    exact hc t ht
theorem RowF.puts {B m : Nat} {a : Option Addr} {l : List Nat} (hm : m < B) : ∀ (vs : List Value) (o : Nat) {w : World}, RowF B w a l → RowF B (w.setCells m o vs) a l
  | [], _, _, h => h
  | v :: vs, o, _, h => RowF.puts hm vs (o + 1) (h.put hm o v)
/-- A list of bytes that the call made. -/
def Tx (w : World) (base : Nat) (v : Value) (l : List Nat) : Prop := w.ownsRow base 5 1 v l.length (vals l)
theorem Tx.rowF {w : World} {base : Nat} {v : Value} {l : List Nat} (h : Tx w base v l) : ∃ a k, v = .slice a l.length k ∧ RowF base w a l := by
  obtain ⟨a, k, e, hr⟩ := row_of l rfl h
  refine ⟨a, k, e, ?_⟩
  rcases hr with hr | ⟨b, off, ea, hc⟩
  · exact .inl hr
  · refine .inr ⟨b, off, ea, ?_, hc⟩
    exact (World.ownsRow.lt h b (by rw [e, ea]; rfl)).1
/-- A cartridge's cells hold these numbers and these lists. -/
structure Cl (W : World) (xs : Array Value) (d : CF) (T P Q R : List Nat) : Prop where
  c : IsC xs d
  lt : T.length = d.nt
  lp : P.length = d.np
  lq : Q.length = d.nq
  lr : R.length = d.nr
  rt : ∃ a k, xs[15]? = some (.slice a d.nt k) ∧ Row W a T
  rp : ∃ a k, xs[16]? = some (.slice a d.np k) ∧ Row W a P
  rq : ∃ a k, xs[17]? = some (.slice a d.nq k) ∧ Row W a Q
  rr : ∃ a k, xs[18]? = some (.slice a d.nr k) ∧ Row W a R
theorem Cl.below {W W' : World} {xs : Array Value} {d : CF} {T P Q R : List Nat} (h : Cl W xs d T P Q R) (hb : Below W.heap.size W W') : Cl W' xs d T P Q R :=
  ⟨h.c, h.lt, h.lp, h.lq, h.lr, h.rt.imp fun _ ⟨k, e, r⟩ => ⟨k, e, r.below hb⟩, h.rp.imp fun _ ⟨k, e, r⟩ => ⟨k, e, r.below hb⟩, h.rq.imp fun _ ⟨k, e, r⟩ => ⟨k, e, r.below hb⟩, h.rr.imp fun _ ⟨k, e, r⟩ => ⟨k, e, r.below hb⟩⟩
theorem drewN_two (W : World) (a b : Nat) : (W.drewN a).drewN b = W.drewN (a + b) := by
  induction b with
  | zero => rfl
  | succ b ih => first | (show ((W.drewN a).drewN b).drew = _; rw [ih]; rfl) | (simp [World.drewN] at *; try rw [ih])
theorem cl_lists {W : World} {ds : Array Value} {d : CF} (D : IsC ds d) {T P Q R : List Nat} (lt : T.length = d.nt) (lp : P.length = d.np) (lq : Q.length = d.nq) (lr : R.length = d.nr) (a1 a2 a3 a4 : Option Addr) (k1 k2 k3 k4 : Nat)
    (r1 : Row W a1 T) (r2 : Row W a2 P) (r3 : Row W a3 Q) (r4 : Row W a4 R) : Cl W (lists4 ds (.slice a1 d.nt k1) (.slice a2 d.np k2) (.slice a3 d.nq k3) (.slice a4 d.nr k4)) d T P Q R := by
  have hs := D.size
  exact ⟨D.lists _ _ _ _ _ _ _ _, lt, lp, lq, lr, ⟨a1, k1, by simp [lists4, hs], r1⟩, ⟨a2, k2, by simp [lists4, hs], r2⟩, ⟨a3, k3, by simp [lists4, hs], r3⟩, ⟨a4, k4, by simp [lists4, hs], r4⟩⟩

theorem results_cell1 {fn : Func} {p : Tmp} {ty : TypeId} (h : fn.results = #[.cell p ty]) (tmps : Array Value) (P : Program) (w : World) :
    (results fn tmps).run P w = ((asAddr (tmps.getD p undef)).run P w).andThen fun a w₁ => (loadVar ty a).run P w₁ := by
  simp only [results, h]
  simp [Sem.run_bind, Result.andThen]
theorem ret_agg1 {P : Program} {fn : Func} {R : Ending → World → Prop} {tmps : Array Value} {w : World} {p : Tmp} {ty : TypeId} {m : Nat} {L : Array Value} {d : TypeDesc} {t : TypeId} (h : fn.results = #[.cell p ty]) (hp : tmps.getD p undef = .pointer (some ⟨m, 0, none⟩))
    (hb : Blk w m L t) (hu : P.underlying ty = some d) (hd : d.isRow = true) (hi : (P.info? ty).map (·.size) = some L.size) (hR : R (.returned (.agg L)) w) : bodyPost P fn R .ret ⟨tmps, []⟩ w := by
  refine bodyPost_ret (v := .agg L) ?_ rfl hR
  rw [results_cell1 h]
  show ((asAddr (tmps.getD p undef)).run P w).andThen _ = _
  rw [hp]
  have hr := run_loadVar_mid (P := P) w m 0 ty L.toList d hb.range hu hd (by rw [Array.length_toList]; exact hi)
  simp only [asAddr, Sem.run_pure, Result.andThen_ok]
  rw [hr]

theorem run_app_nil {P : Program} {w : World} (base : Nat) (t ty e : TypeId) (i : TypeInfo) (size k : Nat) (ht : P.underlying t = some (.slice e)) (hi : P.info? e = some i)
    (v : Value) (n : Nat) (xs : List Value) (hown : w.ownsRow base e size v n xs) : (Builtin.append_ #[t, t] ty #[v, .slice none 0 k]).run P w = .ok v w := by
  rcases hown.2 with ⟨rfl, rfl⟩ | ⟨g, cap, cur, rfl, _, _, hnc, _⟩
  · simp [Builtin.append_, run_underlying ht, sizeOf, typeInfo, hi, Builtin.lenOf, Builtin.firstCells]
  · simp [Builtin.append_, run_underlying ht, sizeOf, typeInfo, hi, Builtin.lenOf, Builtin.firstCells, hnc, storeCells]
theorem wpList_app_nil {P : Program} {w : World} {ops : Array Oper} {rest : List Oper} {o : Oper} {a : Act} {Q : Exit → Act → World → Prop} (hgd : o.guard = none) (s x : Operand) (t : TypeId)
    (ho : o.op = .call { callee := .builtin .append, args := #[s, x], argTypes := #[t, t] }) (base : Nat) (e : TypeId) (i : TypeInfo) (size k : Nat) (ht : P.underlying t = some (.slice e)) (hi : P.info? e = some i)
    (v : Value) (n : Nat) (xs : List Value) (hs : a.eval s = v) (hown : w.ownsRow base e size v n xs) (hx : a.eval x = .slice none 0 k)
    (h : wpList P ops Q rest (a.put o.dst v) w) : wpList P ops Q (o :: rest) a w := by
  refine wpList_plain hgd fun K hK => ?_
  have hrun := run_app_nil (P := P) (w := w) base t o.type e i size k ht hi v n xs hown
  unfold Oper.wp
  simp [execOp, ho, resolve, invoke, builtin, hs, hx, hrun, Result.andThen]
  exact hK _ _ h
/-- append of a list that lies in memory to one that the call made. -/
theorem wpList_appR {ops : Array Oper} {rest : List Oper} {o : Oper} {a : Act} {Q : Exit → Act → World → Prop} (hgd : o.guard = none) (s x : Operand)
    (ho : o.op = .call { callee := .builtin .append, args := #[s, x], argTypes := #[22, 22] }) {l r : List Nat} {v : Value} {W w0 : World} {base : Nat} {ad : Option Addr} {n k : Nat} (hown : Tx W base v l) (hb : Below base w0 W) (hbase : base ≤ W.heap.size)
    (hs : a.eval s = v) (hx : a.eval x = .slice ad n k) (hn : r.length = n) (hr : Row W ad r) (hlm : l.length + r.length ≤ 140737488355328)
    (h : ∀ v' w', Tx w' base v' (l ++ r) → Below base w0 w' → base ≤ w'.heap.size → wpList Tryd.prog ops Q rest (a.put o.dst v') w') : wpList Tryd.prog ops Q (o :: rest) a W := by
  obtain ⟨i0, hi, hz0, hz1, hz2⟩ := info_parts Tryd.infoU8
  cases ad with
  | none =>
    have hr0 : r = [] := by
      rcases hr with e | ⟨b, off, e, _⟩
      · exact e
      · cases e
    subst hr0
    obtain rfl : n = 0 := by simpa using hn.symm
    refine wpList_app_nil hgd s x 22 ho base 5 i0 1 k (by kernel_rfl) hi v l.length (vals l) hs hown hx (h v W ?_ hb hbase)
    rw [List.append_nil]
    exact hown
  | some ad =>
    refine wpList_append_own W hgd s x 22 ho base 5 i0 _ 1 1 (by kernel_rfl) hi hz0 hz1 hz2 rfl (by decide) v l.length (vals l) hs hown ad n k (vals r) hx (by rw [vals_len, hn, Nat.mul_one]) ?_ (vals_one _) (by unfold maxLen; omega) (by omega) hbase ?_
    · intro j u hu
      have hj : j < r.length := by have := (List.getElem?_eq_some_iff.1 hu).1; rwa [vals_len] at this
      rcases hr with e | ⟨b, off, e, hc⟩
      · rw [e] at hj; cases hj
      · obtain rfl := Option.some.inj e
        rw [Addr.add_lit, hc j hj]
        simp [vals, hj] at hu
        rw [← hu]
        simp [hj]
    · intro v' w' h1 h2 _
      refine h v' w' ?_ (hb.grown h2 hbase (fun k hk => (World.ownsRow.lt hown k hk).1)) ?_
      · unfold Tx; rw [List.length_append, show vals (l ++ r) = vals l ++ vals r by simp [vals], hn]; exact h1
      · have := h2.size; omega
theorem wpList_copyS {P : Program} {ops : Array Oper} {rest : List Oper} {o : Oper} {a : Act} {w : World} {Q : Exit → Act → World → Prop} (hgd : o.guard = none) (d x : Operand) (dT sT : TypeId)
    (ho : o.op = Op.call { callee := Callee.builtin Builtin.copy, args := #[d, x], argTypes := #[dT, sT] }) (elem : TypeId) (hu : P.underlying dT = some (.slice elem)) (hz : ∀ w, (Go.sizeOf elem).run P w = .ok 1 w)
    (b off dLen dCap : Nat) (hd : a.eval d = .slice (some ⟨b, off, none⟩) dLen dCap) (t : ByteArray) (hx : a.eval x = .string t) (hle : t.size ≤ dLen)
    (hc : ∀ j, j < t.size → (w.cell? ⟨b, off + j, none⟩).isSome = true) (hf : ∀ j, j < t.size → w.frozen? ⟨b, off + j, none⟩ = false)
    (h : wpList P ops Q rest (a.put o.dst (goInt t.size)) (w.setCells b off (t.data.toList.map fun x => Value.int .u8 (x.toNat : Int)))) : wpList P ops Q (o :: rest) a w := by
  have hw : Region.wanted o (yielded ops a.tmps) = true := by simp [Region.wanted, hgd]
  refine BigFrame.wpList_want hw fun K hK => ?_
  have s := step_copy_string (P := P) (ops := ops) (Q := Q) (E := True) hgd d x dT sT ho elem hu hz b off dLen dCap hd t hx hle hc hf (K := K) (hK _ _ h)
  rwa [if_pos hw] at s
end Go.Proofs.YtmjolcdocoiaeaaDoor
