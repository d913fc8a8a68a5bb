/-
  The pads of a law in memory, while its calls go on; regions taken by hand.
-/
import Derived.Test.YtkebkbiabdlomaaXLaw0
import Derived.ChangeKeysEq
set_option linter.unusedSimpArgs false
set_option linter.unusedVariables false
namespace Go.Proofs.Ytkebkbiabdlomaa
open Go.RowKit Classical
def zeroP : Pd := ⟨false, 0, 0, 0, 0⟩
theorem i64_in (n : Int) (h : -9223372036854775808 ≤ n ∧ n ≤ 9223372036854775807) : IntKind.i64.wrap n = n := by rw [IntKind.wrap_i64]; omega
/-- The blocks of the list hold their pads; all that lay in w is as it was. -/
def St (w : World) (l : List (Nat × Pd)) (v : World) : Prop := (∀ p ∈ l, Blk v p.1 p.2.cells 25) ∧ Below w.heap.size w v
theorem St.on {w v v' : World} {l : List (Nat × Pd)} (h : St w l v) (hb : Below v.heap.size v v') : St w l v' :=
  ⟨fun p hp => (h.1 p hp).below (h.1 p hp).lt hb, h.2.trans (hb.mono h.2.size)⟩
theorem St.drew {w v : World} {l : List (Nat × Pd)} (h : St w l v) : St w l v.drew := ⟨fun p hp => h.1 p hp, h.2.drew⟩
theorem St.blk {w v : World} {l : List (Nat × Pd)} (h : St w l v) (b : Nat) (c : Pd) (hm : (b, c) ∈ l) : Blk v b c.cells 25 := h.1 (b, c) hm
theorem St.start (w : World) (c : Pd) : St w [(w.heap.size, c)] (w.alloc (.cells c.cells 25)) :=
  ⟨fun p hp => by simp only [List.mem_singleton] at hp; subst hp; exact Blk.new w _ _, (Below.refl _ _).alloc (Nat.le_refl _) _⟩
theorem eql_yes (w : World) {b d : Pd} (h : b = d) : (binOp .eql 25 (.agg b.cells) (.agg d.cells)).run Try.prog w = .ok (.bool true) w := by
  rw [eqlP, decide_eq_true h]
theorem eql_not (w : World) {b d : Pd} (h : b ≠ d) : (binOp .eql 25 (.agg b.cells) (.agg d.cells)).run Try.prog w = .ok (.bool false) w := by
  rw [eqlP, decide_eq_false h]
theorem neq_yes (w : World) {b d : Pd} (h : b = d) : (binOp .neq 25 (.agg b.cells) (.agg d.cells)).run Try.prog w = .ok (.bool false) w := by
  rw [neqP, decide_eq_true h]; rfl
theorem run_exec_binOp (P : Program) (w : World) (ρ : Operand → Value) (dst : Option Tmp) (ty : TypeId) (pos : String) (after : Array Edge) (guard : Option (Nat × Bool)) (op : BinOp) (t z : TypeId) (x y : Operand) :
    (execOp ρ { dst, op := .binOp op t x y z, type := ty, pos, after, guard }).run P w = ((eqGuard op t x y (ρ x) (ρ y)).run P w).andThen fun _ v' => ((binOp op t (ρ x) (ρ y)).run P v').andThen fun r v'' => .ok (.value r) v'' := by
  unfold execOp
  simp only [Sem.run_bind, Sem.run_pure]
  cases (eqGuard op t x y (ρ x) (ρ y)).run P w <;> rfl
theorem exec_bin {ρ : Operand → Value} {o : Oper} {op : BinOp} {x y : Operand} {z : TypeId} {b d : Pd} {r : Bool} {w : World} (ho : o.op = .binOp op 25 x y z) (hx : ρ x = .agg b.cells) (hy : ρ y = .agg d.cells)
    (h : (binOp op 25 (.agg b.cells) (.agg d.cells)).run Try.prog w = .ok (.bool r) w) : (execOp ρ o).run Try.prog w = .ok (.value (.bool r)) w := by
  obtain ⟨dst, o, ty, pos, after, guard⟩ := o
  simp only at ho
  subst ho
  rw [run_exec_binOp, hx, hy, run_eqGuard_agg w op 25 _ _ _ _ (by kernel_rfl), Result.andThen_ok, h]
  rfl
theorem wpOp_run {P : Program} {ops : Array Oper} {Q : Exit → Act → World → Prop} {i : Nat} {K : Act → World → Prop} {a : Act} {w : World} {o : Oper} {v : Value}
    (hi : ops[i]? = some o) (hw : Region.wanted o (yielded ops a.tmps) = true) (he : (execOp a.eval o).run P w = .ok (.value v) w) (a' : Act) (ha : a.put o.dst v = a') (h : K a' w) : wpOp P ops Q i K a w := by
  subst ha
  unfold wpOp
  rw [hi]
  simp only [hw, if_true]
  left
  unfold Oper.wp
  rw [he]
  exact h
theorem exec_rem {ρ : Operand → Value} {o : Oper} {x y : Operand} {t z : TypeId} {a b : Int} {w : World} (ho : o.op = .binOp .rem t x y z) (hx : ρ x = .int .i64 a) (hy : ρ y = .int .i64 b) (ht : Try.prog.underlying t = some (.int .i64))
    (a0 : 0 ≤ a) (a1 : a ≤ 9223372036854775807) (b0 : 0 < b) (b1 : b ≤ 9223372036854775807) : (execOp ρ o).run Try.prog w = .ok (.value (.int .i64 (a % b))) w := by
  obtain ⟨dst, o, ty, pos, after, guard⟩ := o
  simp only at ho
  subst ho
  rw [run_exec_binOp, hx, hy]
  have e : a.tmod b = a % b := Int.tmod_eq_emod_of_nonneg a0
  have hz : (b == 0) = false := by simpa using (show ¬ b = 0 by omega)
  have h0 := Int.emod_nonneg a (b := b) (by omega)
  have h1 := Int.emod_lt_of_pos a b0
  have hw := i64_in (a % b) (by omega)
  go_simp
  omega
theorem exec_eb {ρ : Operand → Value} {o : Oper} {x y : Operand} {t z : TypeId} {a : Bool} {w : World} (ho : o.op = .binOp .eql t x y z) (hx : ρ x = .bool a) (hy : ρ y = .bool a) (ht : Try.prog.underlying t = some .bool) : (execOp ρ o).run Try.prog w = .ok (.value (.bool true)) w := by
  obtain ⟨dst, o, ty, pos, after, guard⟩ := o
  simp only at ho
  subst ho
  rw [run_exec_binOp, hx, hy]
  cases a <;> go_simp
theorem exec_ei {ρ : Operand → Value} {o : Oper} {x y : Operand} {t z : TypeId} {a : Int} {w : World} (ho : o.op = .binOp .eql t x y z) (hx : ρ x = .int .i64 a) (hy : ρ y = .int .i64 a) (ht : Try.prog.underlying t = some (.int .i64)) : (execOp ρ o).run Try.prog w = .ok (.value (.bool true)) w := by
  obtain ⟨dst, o, ty, pos, after, guard⟩ := o
  simp only at ho
  subst ho
  rw [run_exec_binOp, hx, hy]
  go_simp
theorem St.more {w v v' : World} {l : List (Nat × Pd)} {z : Obj} {d : Pd} (h : St w l v) (h1 : Blk v' v.heap.size d.cells 25) (h2 : Below w.heap.size w v') (ho : ∀ b' cs' t', b' ≠ v.heap.size → Blk (v.alloc z) b' cs' t' → Blk v' b' cs' t') : St w ((v.heap.size, d) :: l) v' :=
  ⟨fun p hp => by
    rcases List.mem_cons.1 hp with rfl | hp
    · exact h1
    · exact ho _ _ _ (Nat.ne_of_lt (h.1 p hp).lt) ((h.1 p hp).old z), h2⟩
theorem St.sub {w v : World} {l l' : List (Nat × Pd)} (h : St w l v) (hs : ∀ p ∈ l', p ∈ l) : St w l' v := ⟨fun p hp => h.1 p (hs p hp), h.2⟩
theorem St.sto {w v v' : World} {b : Nat} {c d : Pd} {l : List (Nat × Pd)} (h : St w ((b, c) :: l) v) (hn : ∀ p ∈ l, p.1 ≠ b) (h1 : Blk v' b d.cells 25) (h2 : Below w.heap.size w v') (h3 : ∀ b' cs' t', b' ≠ b → Blk v b' cs' t' → Blk v' b' cs' t') : St w ((b, d) :: l) v' :=
  ⟨fun p hp => by
    rcases List.mem_cons.1 hp with rfl | hp
    · exact h1
    · exact h3 _ _ _ (hn p hp) (h.1 p (List.mem_cons_of_mem _ hp)), h2⟩
theorem St.fld {w v : World} {b : Nat} {c d : Pd} {l : List (Nat × Pd)} (h : St w ((b, c) :: l) v) (hn : ∀ p ∈ l, p.1 ≠ b) (hB : w.heap.size ≤ b) (i : Nat) (x : Value) (hc : c.cells.setIfInBounds i x = d.cells) : St w ((b, d) :: l) (v.setCell ⟨b, i, none⟩ x) :=
  ⟨fun p hp => by
    rcases List.mem_cons.1 hp with rfl | hp
    · exact hc ▸ (h.1 (b, c) (List.mem_cons_self ..)).set i x
    · exact (h.1 p (List.mem_cons_of_mem _ hp)).other (hn p hp) i x, h.2.setCell (p := ⟨b, i, none⟩) hB _⟩
theorem pl_val {P : Program} {ops : Array Oper} {Q : Exit → Act → World → Prop} {a : Act} {w : World} {rest : List Oper} {o : Oper} {v : Value} (hw : Region.wanted o (yielded ops a.tmps) = true) (he : (execOp a.eval o).run P w = .ok (.value v) w) (a' : Act) (ha : a.put o.dst v = a')
    (h : wpList P ops Q rest a' w) : wpList P ops Q (o :: rest) a w :=
  BigFrame.wpList_want hw fun _ hK => by
    subst ha
    unfold Oper.wp
    rw [he]
    exact hK _ _ h
theorem pl_skip {P : Program} {ops : Array Oper} {Q : Exit → Act → World → Prop} {a : Act} {w : World} {rest : List Oper} {o : Oper} (hw : Region.wanted o (yielded ops a.tmps) = false) (a' : Act) (ha : a.put o.dst undef = a')
    (h : wpList P ops Q rest a' w) : wpList P ops Q (o :: rest) a w :=
  wpList_step fun K hK => by
    subst ha
    rw [hw]
    exact hK _ _ h
theorem pl_call {P : Program} {ops : Array Oper} {Q : Exit → Act → World → Prop} {a : Act} {w : World} {rest : List Oper} {o : Oper} {f : FuncId} {args : Array Value} {v : Value} {R : World → Prop} (hw : Region.wanted o (yielded ops a.tmps) = true) (he : (execOp a.eval o).run P w = .ok (.enter f args) w)
    (hc : Calls P f args w fun e w' => e = .returned v ∧ R w') (a' : Act) (ha : a.put o.dst v = a') (h : ∀ w', R w' → wpList P ops Q rest a' w') : wpList P ops Q (o :: rest) a w :=
  BigFrame.wpList_want hw fun _ hK => by
    subst ha
    unfold Oper.wp
    rw [he, Oper.upon_enter]
    refine hc.mono ?_
    rintro e w' ⟨rfl, hR⟩
    exact hK _ _ (h w' hR)
theorem pl_load {ops : Array Oper} {Q : Exit → Act → World → Prop} {a : Act} {w : World} {rest : List Oper} {o : Oper} (hw : Region.wanted o (yielded ops a.tmps) = true) (x : Operand) (ho : o.op = .load 25 x)
    (b : Nat) (hx : a.eval x = .pointer (some ⟨b, 0, none⟩)) (c : Pd) (hB : Blk w b c.cells 25) (a' : Act) (ha : a.put o.dst (.agg c.cells) = a')
    (h : wpList Try.prog ops Q rest a' w) : wpList Try.prog ops Q (o :: rest) a w := by
  subst ha
  exact wpList_load_want hw 25 x ho b hx c.cells _ hB Try.underlying25 rfl (infoP' c) h
theorem pl_fld {P : Program} {ops : Array Oper} {Q : Exit → Act → World → Prop} {a : Act} {w : World} {rest : List Oper} {o : Oper} (hw : Region.wanted o (yielded ops a.tmps) = true) (b i : Nat) (v : Value)
    (he : ∀ w : World, w.cell? ⟨b, i, none⟩ = some v → (execOp a.eval o).run P w = .ok (.value v) w) (hc : w.cell? ⟨b, i, none⟩ = some v) (a' : Act) (ha : a.put o.dst v = a')
    (h : wpList P ops Q rest a' w) : wpList P ops Q (o :: rest) a w := pl_val hw (he w hc) a' ha h
theorem pl_end {P : Program} {ops : Array Oper} {Q : Exit → Act → World → Prop} {a a' : Act} {w : World} (ha : a = a') (h : Q .normal a' w) : wpList P ops Q [] a w := by
  subst ha
  exact h
theorem exec_eql {ρ : Operand → Value} {o : Oper} {x y : Operand} {t z : TypeId} {a b : Int} {r : Bool} {w : World} (ho : o.op = .binOp .eql t x y z) (hx : ρ x = .int .i64 a) (hy : ρ y = .int .i64 b) (ht : Try.prog.underlying t = some (.int .i64)) (hr : (a == b) = r) : (execOp ρ o).run Try.prog w = .ok (.value (.bool r)) w := by
  obtain ⟨dst, o, ty, pos, after, guard⟩ := o
  simp only at ho
  subst ho
  rw [run_exec_binOp, hx, hy]
  go_simp
theorem exec_neq {ρ : Operand → Value} {o : Oper} {x y : Operand} {t z : TypeId} {a b : Int} {r : Bool} {w : World} (ho : o.op = .binOp .neq t x y z) (hx : ρ x = .int .i64 a) (hy : ρ y = .int .i64 b) (ht : Try.prog.underlying t = some (.int .i64)) (hr : (a != b) = r) : (execOp ρ o).run Try.prog w = .ok (.value (.bool r)) w := by
  obtain ⟨dst, o, ty, pos, after, guard⟩ := o
  simp only at ho
  subst ho
  rw [run_exec_binOp, hx, hy]
  go_simp
theorem exec_add {ρ : Operand → Value} {o : Oper} {x y : Operand} {t z : TypeId} {a b : Int} {w : World} (ho : o.op = .binOp .add t x y z) (hx : ρ x = .int .i64 a) (hy : ρ y = .int .i64 b) (ht : Try.prog.underlying t = some (.int .i64)) (h0 : -9223372036854775808 ≤ a + b) (h1 : a + b ≤ 9223372036854775807) : (execOp ρ o).run Try.prog w = .ok (.value (.int .i64 (a + b))) w := by
  obtain ⟨dst, o, ty, pos, after, guard⟩ := o
  simp only at ho
  subst ho
  rw [run_exec_binOp, hx, hy]
  have hw := i64_in (a + b) ⟨h0, h1⟩
  go_simp
end Go.Proofs.Ytkebkbiabdlomaa
