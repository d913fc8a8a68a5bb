/-
  The blocks of a law in memory; steps.
-/
import Derived.Test.YtggphgmpdanliaaYHand
set_option linter.unusedSimpArgs false
set_option linter.unusedVariables false
namespace Go.Proofs.Ytggphgmpdanliaa
open Go.RowKit Classical
/-- The blocks of the list hold their cells; all that lay in w is as it was. -/
def G (w : World) (l : List (Nat × Array Value × TypeId)) (v : World) : Prop := (∀ p ∈ l, Blk v p.1 p.2.1 p.2.2) ∧ Below w.heap.size w v
theorem G.on {w v v' : World} {l : List (Nat × Array Value × TypeId)} (h : G w l v) (hb : Below v.heap.size v v') : G w l v' :=
  ⟨fun p hp => (h.1 p hp).below (h.1 p hp).lt hb, h.2.trans (hb.mono h.2.size)⟩
theorem G.drew {w v : World} {l : List (Nat × Array Value × TypeId)} (h : G w l v) : G w l v.drew := ⟨fun p hp => h.1 p hp, h.2.drew⟩
theorem G.blk {w v : World} {l : List (Nat × Array Value × TypeId)} (h : G w l v) (b : Nat) (cs : Array Value) (t : TypeId) (hm : (b, cs, t) ∈ l) : Blk v b cs t := h.1 (b, cs, t) hm
theorem G.sub {w v : World} {l l' : List (Nat × Array Value × TypeId)} (h : G w l v) (hs : ∀ p ∈ l', p ∈ l) : G w l' v := ⟨fun p hp => h.1 p (hs p hp), h.2⟩
/-- One more block, with cells written into it. -/
theorem G.more {w v v' : World} {l : List (Nat × Array Value × TypeId)} {z : Obj} {cs : Array Value} {t : TypeId} (h : G w l v) (h1 : Blk v' v.heap.size cs t) (h2 : Below w.heap.size w v') (ho : ∀ b' cs' t', b' ≠ v.heap.size → Blk (v.alloc z) b' cs' t' → Blk v' b' cs' t') : G w ((v.heap.size, cs, t) :: l) v' :=
  ⟨fun p hp => by
    rcases List.mem_cons.1 hp with rfl | hp
    · exact h1
    · exact ho _ _ _ (Nat.ne_of_lt (h.1 p hp).lt) ((h.1 p hp).old z), h2⟩
/-- One more block, as it was made. -/
theorem G.new {w v : World} {l : List (Nat × Array Value × TypeId)} (h : G w l v) (cs : Array Value) (t : TypeId) : G w ((v.heap.size, cs, t) :: l) (v.alloc (.cells cs t)) :=
  ⟨fun p hp => by
    rcases List.mem_cons.1 hp with rfl | hp
    · exact Blk.new v _ _
    · exact (h.1 p hp).old _, h.2.alloc h.2.size _⟩
/-- The first block is written anew. -/
theorem G.put {w v v' : World} {l : List (Nat × Array Value × TypeId)} {b : Nat} {cs ds : Array Value} {t : TypeId} (h : G w ((b, cs, t) :: l) v) (hn : ∀ p ∈ l, p.1 ≠ b) (h1 : Blk v' b ds t) (h2 : Below w.heap.size w v') (ho : ∀ b' cs' t', b' ≠ b → Blk v b' cs' t' → Blk v' b' cs' t') : G w ((b, ds, t) :: l) v' :=
  ⟨fun p hp => by
    rcases List.mem_cons.1 hp with rfl | hp
    · exact h1
    · exact ho _ _ _ (hn p hp) (h.1 p (List.mem_cons_of_mem _ hp)), h2⟩
theorem G.start (w : World) (cs : Array Value) (t : TypeId) : G w [(w.heap.size, cs, t)] (w.alloc (.cells cs t)) :=
  ⟨fun p hp => by simp only [List.mem_singleton] at hp; subst hp; exact Blk.new w _ _, (Below.refl _ _).alloc (Nat.le_refl _) _⟩
theorem G.start2 (w : World) (cs ds : Array Value) (t u : TypeId) : G w [(w.heap.size, cs, t), (w.heap.size + 1, ds, u)] ((w.alloc (.cells cs t)).alloc (.cells ds u)) :=
  ⟨fun p hp => by
    simp only [List.mem_cons, List.not_mem_nil, or_false] at hp
    rcases hp with rfl | rfl
    · exact (Blk.new w _ _).old _
    · have := Blk.new (w.alloc (.cells cs t)) ds u; rwa [World.size_alloc] at this, ((Below.refl _ _).alloc (Nat.le_refl _) _).alloc (by simp) _⟩
/-- A step. -/
structure Sp where
  k : Int
  a : Int
  v : Int
  u : Int
  c : Int
  n : Int
def Sp.cells (s : Sp) : Array Value := #[.int .i64 s.k, .int .u16 s.a, .int .u8 s.v, .int .u8 s.u, .int .i64 s.c, .int .i64 s.n]
structure Sp.Ok (s : Sp) : Prop where
  k : -9223372036854775808 ≤ s.k ∧ s.k ≤ 9223372036854775807
  a : 0 ≤ s.a ∧ s.a ≤ 65535
  v : 0 ≤ s.v ∧ s.v ≤ 255
  u : 0 ≤ s.u ∧ s.u ≤ 255
  c : -9223372036854775808 ≤ s.c ∧ s.c ≤ 9223372036854775807
  n : -9223372036854775808 ≤ s.n ∧ s.n ≤ 9223372036854775807
theorem infoSp : (Try.prog.info? 34).map (·.size) = some 6 := by kernel_rfl
theorem exec_eqlB {ρ : Operand → Value} {o : Oper} {x y : Operand} {z : TypeId} {b d : Bd} {r : Bool} {w : World} (ho : o.op = .binOp .eql 28 x y z) (hx : ρ x = .agg b.cells) (hy : ρ y = .agg d.cells) (hb : b.r.length = 8) (hd : d.r.length = 8) (hr : decide (b = d) = r) : (execOp ρ o).run Try.prog w = .ok (.value (.bool r)) w := by
  obtain ⟨dst, o, ty, pos, after, guard⟩ := o
  simp only at ho
  subst ho
  rw [run_exec_binOp, hx, hy, run_eqGuard_agg w .eql 28 _ _ _ _ (by kernel_rfl), Result.andThen_ok, Try.eqlB w b d hb hd, hr]
  rfl
theorem exec_neqB {ρ : Operand → Value} {o : Oper} {x y : Operand} {z : TypeId} {b d : Bd} {r : Bool} {w : World} (ho : o.op = .binOp .neq 28 x y z) (hx : ρ x = .agg b.cells) (hy : ρ y = .agg d.cells) (hb : b.r.length = 8) (hd : d.r.length = 8) (hr : (!decide (b = d)) = r) : (execOp ρ o).run Try.prog w = .ok (.value (.bool r)) w := by
  obtain ⟨dst, o, ty, pos, after, guard⟩ := o
  simp only at ho
  subst ho
  rw [run_exec_binOp, hx, hy, run_eqGuard_agg w .neq 28 _ _ _ _ (by kernel_rfl), Result.andThen_ok, Try.neqB w b d hb hd, hr]
  rfl
end Go.Proofs.Ytggphgmpdanliaa
