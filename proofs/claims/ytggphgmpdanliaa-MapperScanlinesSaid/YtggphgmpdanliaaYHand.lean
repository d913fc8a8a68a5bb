/-
  The boards of a law in memory, while its calls go on.
-/
import Derived.Test.YtggphgmpdanliaaYSpec
set_option linter.unusedSimpArgs false
set_option linter.unusedVariables false
namespace Go.Proofs.Ytggphgmpdanliaa
open Go.RowKit Classical
/-- The blocks of the list hold their boards; all that lay in w is as it was. -/
def St (w : World) (l : List (Nat × Bd)) (v : World) : Prop := (∀ p ∈ l, Blk v p.1 p.2.cells 28 ∧ p.2.r.length = 8) ∧ Below w.heap.size w v
theorem St.on {w v v' : World} {l : List (Nat × Bd)} (h : St w l v) (hb : Below v.heap.size v v') : St w l v' :=
  ⟨fun p hp => ⟨(h.1 p hp).1.below (h.1 p hp).1.lt hb, (h.1 p hp).2⟩, h.2.trans (hb.mono h.2.size)⟩
theorem St.drew {w v : World} {l : List (Nat × Bd)} (h : St w l v) : St w l v.drew := ⟨fun p hp => h.1 p hp, h.2.drew⟩
theorem St.blk {w v : World} {l : List (Nat × Bd)} (h : St w l v) (b : Nat) (c : Bd) (hm : (b, c) ∈ l) : Blk v b c.cells 28 := (h.1 (b, c) hm).1
theorem St.len {w v : World} {l : List (Nat × Bd)} (h : St w l v) (b : Nat) (c : Bd) (hm : (b, c) ∈ l) : c.r.length = 8 := (h.1 (b, c) hm).2
theorem St.start (w : World) (c : Bd) (hr : c.r.length = 8) : St w [(w.heap.size, c)] (w.alloc (.cells c.cells 28)) :=
  ⟨fun p hp => by simp only [List.mem_singleton] at hp; subst hp; exact ⟨Blk.new w _ _, hr⟩, (Below.refl _ _).alloc (Nat.le_refl _) _⟩
theorem St.sub {w v : World} {l l' : List (Nat × Bd)} (h : St w l v) (hs : ∀ p ∈ l', p ∈ l) : St w l' v := ⟨fun p hp => h.1 p (hs p hp), h.2⟩
/-- A new block with a board. -/
theorem St.more {w v v' : World} {l : List (Nat × Bd)} {z : Obj} {d : Bd} (h : St w l v) (hd : d.r.length = 8) (h1 : Blk v' v.heap.size d.cells 28) (h2 : Below w.heap.size w v') (ho : ∀ b' cs' t', b' ≠ v.heap.size → Blk (v.alloc z) b' cs' t' → Blk v' b' cs' t') : St w ((v.heap.size, d) :: l) v' :=
  ⟨fun p hp => by
    rcases List.mem_cons.1 hp with rfl | hp
    · exact ⟨h1, hd⟩
    · exact ⟨ho _ _ _ (Nat.ne_of_lt (h.1 p hp).1.lt) ((h.1 p hp).1.old z), (h.1 p hp).2⟩, h2⟩
/-- The first block is written anew. -/
theorem St.put {w v v' : World} {l : List (Nat × Bd)} {b : Nat} {c d : Bd} (h : St w ((b, c) :: l) v) (hd : d.r.length = 8) (hn : ∀ p ∈ l, p.1 ≠ b) (h1 : Blk v' b d.cells 28) (h2 : Below w.heap.size w v') (ho : ∀ b' cs' t', b' ≠ b → Blk v b' cs' t' → Blk v' b' cs' t') : St w ((b, d) :: l) v' :=
  ⟨fun p hp => by
    rcases List.mem_cons.1 hp with rfl | hp
    · exact ⟨h1, hd⟩
    · have := h.1 p (List.mem_cons_of_mem _ hp)
      exact ⟨ho _ _ _ (hn p hp) this.1, this.2⟩, h2⟩
theorem infoB' (b : Bd) (hr : b.r.length = 8) : (Try.prog.info? 28).map (·.size) = some b.cells.size := by rw [(isB b hr).size]; exact Try.infoBoard
theorem exec_neqI {ρ : Operand → Value} {o : Oper} {x y : Operand} {t z : TypeId} {k : IntKind} {a b : Int} {r : Bool} {w : World} (ho : o.op = .binOp .neq t x y z) (hx : ρ x = .int k a) (hy : ρ y = .int k b) (ht : Try.prog.underlying t = some (.int k)) (hr : (a != b) = r) : (execOp ρ o).run Try.prog w = .ok (.value (.bool r)) w := by
  obtain ⟨dst, o, ty, pos, after, guard⟩ := o
  simp only at ho
  subst ho
  rw [run_exec_binOp, hx, hy]
  go_simp
theorem exec_eqlI {ρ : Operand → Value} {o : Oper} {x y : Operand} {t z : TypeId} {k : IntKind} {a b : Int} {r : Bool} {w : World} (ho : o.op = .binOp .eql t x y z) (hx : ρ x = .int k a) (hy : ρ y = .int k b) (ht : Try.prog.underlying t = some (.int k)) (hr : (a == b) = r) : (execOp ρ o).run Try.prog w = .ok (.value (.bool r)) w := by
  obtain ⟨dst, o, ty, pos, after, guard⟩ := o
  simp only at ho
  subst ho
  rw [run_exec_binOp, hx, hy]
  go_simp
theorem exec_rem16 {ρ : Operand → Value} {o : Oper} {x y : Operand} {t z : TypeId} {a : Int} {w : World} (ho : o.op = .binOp .rem t x y z) (hx : ρ x = .int .u16 a) (hy : ρ y = .int .u16 8192) (ht : Try.prog.underlying t = some (.int .u16)) (a0 : 0 ≤ a) (a1 : a ≤ 65535) : (execOp ρ o).run Try.prog w = .ok (.value (.int .u16 (a % 8192))) w := by
  obtain ⟨dst, o, ty, pos, after, guard⟩ := o
  simp only at ho
  subst ho
  rw [run_exec_binOp, hx, hy]
  have e : a.tmod 8192 = a % 8192 := Int.tmod_eq_emod_of_nonneg a0
  have h0 : 0 ≤ a % 8192 := by omega
  have h1 : a % 8192 ≤ 8191 := by omega
  generalize a % 8192 = r at *
  go_simp
  try omega
end Go.Proofs.Ytggphgmpdanliaa
