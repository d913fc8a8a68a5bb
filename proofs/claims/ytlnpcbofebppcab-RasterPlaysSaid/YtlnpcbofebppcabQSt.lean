/-
  The rasters of a law, or of a function, in memory, while its calls go on.
-/
import Derived.Test.YtlnpcbofebppcabQLaw0
import Derived.ChangeKeysEq
set_option linter.unusedSimpArgs false
set_option linter.unusedVariables false
namespace Go.Proofs.Ytlnpcbofebppcab
open Go.RowKit Classical
/-- The blocks of the list hold their rasters; all that lay in w is as it was. -/
def St (w : World) (l : List (Nat × Rs)) (v : World) : Prop := (∀ p ∈ l, Blk v p.1 p.2.cells 23) ∧ Below w.heap.size w v
theorem St.on {w v v' : World} {l : List (Nat × Rs)} (h : St w l v) (hb : Below v.heap.size v v') : St w l v' :=
  ⟨fun p hp => (h.1 p hp).below (h.1 p hp).lt hb, h.2.trans (hb.mono h.2.size)⟩
theorem St.drew {w v : World} {l : List (Nat × Rs)} (h : St w l v) : St w l v.drew := ⟨fun p hp => h.1 p hp, h.2.drew⟩
theorem St.blk {w v : World} {l : List (Nat × Rs)} (h : St w l v) (b : Nat) (c : Rs) (hm : (b, c) ∈ l) : Blk v b c.cells 23 := h.1 (b, c) hm
theorem St.start (w : World) (c : Rs) : St w [(w.heap.size, c)] (w.alloc (.cells c.cells 23)) :=
  ⟨fun p hp => by simp only [List.mem_singleton] at hp; subst hp; exact Blk.new w _ _, (Below.refl _ _).alloc (Nat.le_refl _) _⟩
theorem eql_yes (w : World) {b d : Rs} (h : b = d) : (binOp .eql 23 (.agg b.cells) (.agg d.cells)).run Try.prog w = .ok (.bool true) w := by
  rw [eqlR, decide_eq_true h]
theorem eql_not (w : World) {b d : Rs} (h : b ≠ d) : (binOp .eql 23 (.agg b.cells) (.agg d.cells)).run Try.prog w = .ok (.bool false) w := by
  rw [eqlR, decide_eq_false h]
theorem neq_yes (w : World) {b d : Rs} (h : b = d) : (binOp .neq 23 (.agg b.cells) (.agg d.cells)).run Try.prog w = .ok (.bool false) w := by
  rw [neqR, decide_eq_true h]; rfl
theorem run_exec_binOp (P : Program) (w : World) (ρ : Operand → Value) (dst : Option Tmp) (ty : TypeId) (pos : String) (after : Array Edge) (guard : Option (Nat × Bool)) (op : BinOp) (t z : TypeId) (x y : Operand) :
    (execOp ρ { dst, op := .binOp op t x y z, type := ty, pos, after, guard }).run P w = ((eqGuard op t x y (ρ x) (ρ y)).run P w).andThen fun _ v' => ((binOp op t (ρ x) (ρ y)).run P v').andThen fun r v'' => .ok (.value r) v'' := by
  unfold execOp
  simp only [Sem.run_bind, Sem.run_pure]
  cases (eqGuard op t x y (ρ x) (ρ y)).run P w <;> rfl
theorem exec_bin {ρ : Operand → Value} {o : Oper} {op : BinOp} {x y : Operand} {z : TypeId} {b d : Rs} {r : Bool} {w : World} (ho : o.op = .binOp op 23 x y z) (hx : ρ x = .agg b.cells) (hy : ρ y = .agg d.cells)
    (h : (binOp op 23 (.agg b.cells) (.agg d.cells)).run Try.prog w = .ok (.bool r) w) : (execOp ρ o).run Try.prog w = .ok (.value (.bool r)) w := by
  obtain ⟨dst, o, ty, pos, after, guard⟩ := o
  simp only at ho
  subst ho
  rw [run_exec_binOp, hx, hy, run_eqGuard_agg w op 23 _ _ _ _ (by kernel_rfl), Result.andThen_ok, h]
  rfl
theorem wpOp_run {P : Program} {ops : Array Oper} {Q : Exit → Act → World → Prop} {i : Nat} {K : Act → World → Prop} {a : Act} {w : World} {o : Oper} {v : Value}
    (hi : ops[i]? = some o) (hw : Region.wanted o (yielded ops a.tmps) = true) (he : (execOp a.eval o).run P w = .ok (.value v) w) (a' : Act) (ha : a.put o.dst v = a') (h : K a' w) : wpOp P ops Q i K a w := by
  subst ha
  unfold wpOp
  rw [hi]
  simp only [hw, if_true]
  left
  unfold Oper.wp
  rw [he]
  exact h
/-- The block b, made since w0, holds the raster c, the block behind it some raster; all that lay in w0 is as it was. -/
structure At (w0 w : World) (b : Nat) (c : Rs) : Prop where
  blk : Blk w b c.cells 23
  le : w0.heap.size ≤ b
  bel : Below w0.heap.size w0 w
  res : ∃ rc : Rs, Blk w (b + 1) rc.cells 23
theorem At.set {w0 w : World} {b : Nat} {c c' : Rs} (h : At w0 w b c) (i : Nat) (v : Value) (hc : c.cells.setIfInBounds i v = c'.cells) : At w0 (w.setCell ⟨b, i, none⟩ v) b c' :=
  ⟨hc ▸ h.blk.set i v, h.le, h.bel.setCell (p := ⟨b, i, none⟩) h.le _, h.res.elim fun rc hr => ⟨rc, hr.other (by omega) i v⟩⟩
theorem At.drew {w0 w : World} {b : Nat} {c : Rs} (h : At w0 w b c) : At w0 w.drew b c := ⟨h.blk, h.le, h.bel.drew, h.res⟩
theorem At.on {w0 w w' : World} {b : Nat} {c : Rs} (h : At w0 w b c) (hb : Below w.heap.size w w') : At w0 w' b c :=
  ⟨h.blk.below h.blk.lt hb, h.le, h.bel.trans (hb.mono h.bel.size), h.res.elim fun rc hr => ⟨rc, hr.below hr.lt hb⟩⟩
theorem At.facts {w0 w : World} {b : Nat} {c : Rs} (h : At w0 w b c) :
    w.cell? ⟨b, 0, none⟩ = some (.int .i64 c.line) ∧ w.cell? ⟨b, 1, none⟩ = some (.int .i64 c.dot) ∧ w.cell? ⟨b, 2, none⟩ = some (.bool c.odd) ∧ w.cell? ⟨b, 3, none⟩ = some (.bool c.vbl) ∧ w.cell? ⟨b, 4, none⟩ = some (.bool c.nmi) ∧ w.cell? ⟨b, 5, none⟩ = some (.bool c.draw) ∧ w.cell? ⟨b, 6, none⟩ = some (.bool c.hold) ∧ ∀ i, w.frozen? ⟨b, i, none⟩ = false :=
  ⟨h.blk.cell 0, h.blk.cell 1, h.blk.cell 2, h.blk.cell 3, h.blk.cell 4, h.blk.cell 5, h.blk.cell 6, h.blk.free⟩
def zeroR : Rs := ⟨0, 0, false, false, false, false, false⟩
/-- A raster that was handed in, boxed, and the cell of the result behind it. -/
theorem At.start (w : World) (c : Rs) : At w ((w.alloc (.cells c.cells 23)).alloc (.cells zeroR.cells 23)) w.heap.size c :=
  ⟨(Blk.new w _ _).old _, Nat.le_refl _, ((Below.refl _ _).alloc (Nat.le_refl _) _).alloc (by simp) _, zeroR, by have := Blk.new (w.alloc (.cells c.cells 23)) zeroR.cells 23; rwa [World.size_alloc] at this⟩
theorem At.sto {w0 w w' : World} {b : Nat} {c d : Rs} (h : At w0 w b c) (h1 : Blk w' b d.cells 23) (h2 : Below w0.heap.size w0 w') (h3 : ∀ b' cs' t', b' ≠ b → Blk w b' cs' t' → Blk w' b' cs' t') : At w0 w' b d :=
  ⟨h1, h.le, h2, h.res.elim fun rc hr => ⟨rc, h3 _ _ _ (by omega) hr⟩⟩
theorem At.more {w0 w w' : World} {b : Nat} {c : Rs} {z : Obj} (h : At w0 w b c) (h2 : Below w0.heap.size w0 w') (ho : ∀ b' cs' t', b' ≠ w.heap.size → Blk (w.alloc z) b' cs' t' → Blk w' b' cs' t') : At w0 w' b c :=
  ⟨ho _ _ _ (Nat.ne_of_lt h.blk.lt) (h.blk.old z), h.le, h2, h.res.elim fun rc hr => ⟨rc, ho _ _ _ (Nat.ne_of_lt hr.lt) (hr.old z)⟩⟩
theorem exec_rem {ρ : Operand → Value} {o : Oper} {x y : Operand} {t z : TypeId} {a b : Int} {w : World} (ho : o.op = .binOp .rem t x y z) (hx : ρ x = .int .i64 a) (hy : ρ y = .int .i64 b) (ht : Try.prog.underlying t = some (.int .i64))
    (a0 : 0 ≤ a) (a1 : a ≤ 9223372036854775807) (b0 : 0 < b) (b1 : b ≤ 9223372036854775807) : (execOp ρ o).run Try.prog w = .ok (.value (.int .i64 (a % b))) w := by
  obtain ⟨dst, o, ty, pos, after, guard⟩ := o
  simp only at ho
  subst ho
  rw [run_exec_binOp, hx, hy]
  have e : a.tmod b = a % b := Int.tmod_eq_emod_of_nonneg a0
  have hz : (b == 0) = false := by simpa using (show ¬ b = 0 by omega)
  have h0 := Int.emod_nonneg a (b := b) (by omega)
  have h1 := Int.emod_lt_of_pos a b0
  have hw := i64_in (a % b) (by omega)
  go_simp
  omega
theorem exec_eb {ρ : Operand → Value} {o : Oper} {x y : Operand} {t z : TypeId} {a : Bool} {w : World} (ho : o.op = .binOp .eql t x y z) (hx : ρ x = .bool a) (hy : ρ y = .bool a) (ht : Try.prog.underlying t = some .bool) : (execOp ρ o).run Try.prog w = .ok (.value (.bool true)) w := by
  obtain ⟨dst, o, ty, pos, after, guard⟩ := o
  simp only at ho
  subst ho
  rw [run_exec_binOp, hx, hy]
  cases a <;> go_simp
theorem exec_ei {ρ : Operand → Value} {o : Oper} {x y : Operand} {t z : TypeId} {a : Int} {w : World} (ho : o.op = .binOp .eql t x y z) (hx : ρ x = .int .i64 a) (hy : ρ y = .int .i64 a) (ht : Try.prog.underlying t = some (.int .i64)) : (execOp ρ o).run Try.prog w = .ok (.value (.bool true)) w := by
  obtain ⟨dst, o, ty, pos, after, guard⟩ := o
  simp only at ho
  subst ho
  rw [run_exec_binOp, hx, hy]
  go_simp
end Go.Proofs.Ytlnpcbofebppcab
