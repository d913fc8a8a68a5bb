/-
  Facts that the laws of the timer lean on: a number cut to 62 bits, a clock that moves, the new clock.
  Facts that the laws of the timer lean on: what a cycle keeps.
  A region that keeps its order, taken by hand: an operation at a time.
-/
import Derived.Test.YtobiiogoofkmaaaDoorTSt
set_option linter.unusedSimpArgs false
set_option linter.unusedVariables false
namespace Go.Proofs.YtobiiogoofkmaaaDoor
open Go.RowKit Classical
theorem i64_in (n : Int) (h : -9223372036854775808 ≤ n ∧ n ≤ 9223372036854775807) : IntKind.i64.wrap n = n := by rw [IntKind.wrap_i64]; omega
/-- A number cut to its low 62 bits. -/
def hf (x : Int) : Int := x % 4611686018427387904
theorem hf_bd (x : Int) : 0 ≤ hf x ∧ hf x ≤ 4611686018427387903 := by unfold hf; omega
theorem and_hf (n : Int) : bits .and .i64 n 4611686018427387903 = hf n := by
  have key : (BitVec.ofInt 64 n &&& BitVec.ofInt 64 4611686018427387903).toNat = (n % ((2 ^ 64 : Nat) : Int)).toNat % 2 ^ 62 := by
    rw [BitVec.toNat_and, BitVec.toNat_ofInt, BitVec.toNat_ofInt, show ((4611686018427387903 : Int) % ((2 ^ 64 : Nat) : Int)).toNat = 2 ^ 62 - 1 from rfl, Nat.and_two_pow_sub_one_eq_mod]
  show IntKind.i64.wrap ((BitVec.ofInt 64 n &&& BitVec.ofInt 64 4611686018427387903).toNat : Nat) = hf n
  rw [key]
  have h2 : (((n % ((2 ^ 64 : Nat) : Int)).toNat % 2 ^ 62 : Nat) : Int) = hf n := by unfold hf; omega
  rw [h2]
  have := hf_bd n
  exact i64_in _ (by omega)
theorem zero_ok : zeroC.Ok := ⟨by decide, by decide, by decide, by decide, by decide, by decide, by decide, by decide⟩
theorem zero_valid : zeroC.valid = true := by decide
theorem vzero (w : World) (T : DTab w) : Calls Tryd.prog 5 #[.agg zeroC.cells] w fun e w' => e = .returned (.bool true) ∧ Below w.heap.size w w' := by
  have h := valid_any zeroC w zero_ok T
  rwa [zero_valid] at h
/-- Every valid clock moves. -/
theorem Ck.moves {c : Ck} (o : c.Ok) (hv : c.valid = true) : c.tick ≠ c := by
  intro h
  unfold Ck.tick at h
  rw [if_pos hv] at h
  have h1 := congrArg Ck.wait h
  have h2 := congrArg Ck.at_ h
  have tw : c.tickT.wait = c.wait := by unfold Ck.tickT; (repeat (first | rfl | split))
  have ta : c.tickT.at_ = c.at_ := by unfold Ck.tickT; (repeat (first | rfl | split))
  have tf : c.tickT.five = c.five := by unfold Ck.tickT; (repeat (first | rfl | split))
  simp only [Ck.tickS, tw, ta, tf] at h1 h2
  have hr : 29830 ≤ rdL c.five := by cases c.five <;> decide
  have := o.wait
  have := o.at_
  split at h1
  · omega
  · rw [if_neg (by omega)] at h2
    split at h2 <;> omega
theorem Ck.stays {c : Ck} (hv : c.valid = false) : c.tick = c := by unfold Ck.tick; rw [hv]; rfl
end Go.Proofs.YtobiiogoofkmaaaDoor
namespace Go.Proofs.YtobiiogoofkmaaaDoor
open Go.RowKit Classical
theorem St.more {w v v' : World} {l : List (Nat × Ck)} {z : Obj} {d : Ck} (h : St w l v) (h1 : Blk v' v.heap.size d.cells 24) (h2 : Below w.heap.size w v') (ho : ∀ b' cs' t', b' ≠ v.heap.size → Blk (v.alloc z) b' cs' t' → Blk v' b' cs' t') : St w ((v.heap.size, d) :: l) v' :=
  ⟨fun p hp => by
    rcases List.mem_cons.1 hp with rfl | hp
    · exact h1
    · exact ho _ _ _ (Nat.ne_of_lt (h.1 p hp).lt) ((h.1 p hp).old z), h2⟩
theorem Ck.tick_hold (c : Ck) : c.tick.hold = c.hold ∧ c.tick.latch = c.latch := by
  have h : c.tickT.hold = c.hold ∧ c.tickT.latch = c.latch := by
    unfold Ck.tickT
    split
    · exact ⟨rfl, rfl⟩
    split
    · exact ⟨rfl, rfl⟩
    split <;> exact ⟨rfl, rfl⟩
  unfold Ck.tick
  split
  · exact h
  · exact ⟨rfl, rfl⟩
theorem Ck.it_hold (c : Ck) : ∀ n, (c.it n).hold = c.hold
  | 0 => rfl
  | n + 1 => (Ck.tick_hold _).1.trans (Ck.it_hold c n)
theorem Ck.adv_hold {c : Ck} (o : c.Ok) (n : Int) : (c.adv n).hold = c.hold := by
  by_cases h : 0 < n
  · obtain ⟨k, rfl⟩ := Int.eq_ofNat_of_zero_le (Int.le_of_lt h)
    rw [Ck.adv_it o]; exact Ck.it_hold c k
  · rw [Ck.adv_none (by omega)]
end Go.Proofs.YtobiiogoofkmaaaDoor
namespace Go.Proofs.YtobiiogoofkmaaaDoor
open Go.RowKit Classical
theorem pl_val {P : Program} {ops : Array Oper} {Q : Exit → Act → World → Prop} {a : Act} {w : World} {rest : List Oper} {o : Oper} {v : Value} (hw : Region.wanted o (yielded ops a.tmps) = true) (he : (execOp a.eval o).run P w = .ok (.value v) w) (a' : Act) (ha : a.put o.dst v = a')
    (h : wpList P ops Q rest a' w) : wpList P ops Q (o :: rest) a w :=
  BigFrame.wpList_want hw fun _ hK => by
    subst ha
    unfold Oper.wp
    rw [he]
    exact hK _ _ h
theorem pl_skip {P : Program} {ops : Array Oper} {Q : Exit → Act → World → Prop} {a : Act} {w : World} {rest : List Oper} {o : Oper} (hw : Region.wanted o (yielded ops a.tmps) = false) (a' : Act) (ha : a.put o.dst undef = a')
    (h : wpList P ops Q rest a' w) : wpList P ops Q (o :: rest) a w :=
  wpList_step fun K hK => by
    subst ha
    rw [hw]
    exact hK _ _ h
theorem pl_call {P : Program} {ops : Array Oper} {Q : Exit → Act → World → Prop} {a : Act} {w : World} {rest : List Oper} {o : Oper} {f : FuncId} {args : Array Value} {v : Value} {R : World → Prop} (hw : Region.wanted o (yielded ops a.tmps) = true) (he : (execOp a.eval o).run P w = .ok (.enter f args) w)
    (hc : Calls P f args w fun e w' => e = .returned v ∧ R w') (a' : Act) (ha : a.put o.dst v = a') (h : ∀ w', R w' → wpList P ops Q rest a' w') : wpList P ops Q (o :: rest) a w :=
  BigFrame.wpList_want hw fun _ hK => by
    subst ha
    unfold Oper.wp
    rw [he, Oper.upon_enter]
    refine hc.mono ?_
    rintro e w' ⟨rfl, hR⟩
    exact hK _ _ (h w' hR)
theorem pl_load {ops : Array Oper} {Q : Exit → Act → World → Prop} {a : Act} {w : World} {rest : List Oper} {o : Oper} (hw : Region.wanted o (yielded ops a.tmps) = true) (x : Operand) (ho : o.op = .load 24 x)
    (b : Nat) (hx : a.eval x = .pointer (some ⟨b, 0, none⟩)) (c : Ck) (hB : Blk w b c.cells 24) (a' : Act) (ha : a.put o.dst (.agg c.cells) = a')
    (h : wpList Tryd.prog ops Q rest a' w) : wpList Tryd.prog ops Q (o :: rest) a w := by
  subst ha
  exact wpList_load_want hw 24 x ho b hx c.cells _ hB Tryd.underlying24 rfl (infoC' c) h
theorem pl_fld {P : Program} {ops : Array Oper} {Q : Exit → Act → World → Prop} {a : Act} {w : World} {rest : List Oper} {o : Oper} (hw : Region.wanted o (yielded ops a.tmps) = true) (b i : Nat) (v : Value)
    (he : ∀ w : World, w.cell? ⟨b, i, none⟩ = some v → (execOp a.eval o).run P w = .ok (.value v) w) (hc : w.cell? ⟨b, i, none⟩ = some v) (a' : Act) (ha : a.put o.dst v = a')
    (h : wpList P ops Q rest a' w) : wpList P ops Q (o :: rest) a w := pl_val hw (he w hc) a' ha h
theorem pl_end {P : Program} {ops : Array Oper} {Q : Exit → Act → World → Prop} {a a' : Act} {w : World} (ha : a = a') (h : Q .normal a' w) : wpList P ops Q [] a w := by
  subst ha
  exact h
theorem exec_eql {ρ : Operand → Value} {o : Oper} {x y : Operand} {t z : TypeId} {a b : Int} {r : Bool} {w : World} (ho : o.op = .binOp .eql t x y z) (hx : ρ x = .int .i64 a) (hy : ρ y = .int .i64 b) (ht : Tryd.prog.underlying t = some (.int .i64)) (hr : (a == b) = r) : (execOp ρ o).run Tryd.prog w = .ok (.value (.bool r)) w := by
  obtain ⟨dst, o, ty, pos, after, guard⟩ := o
  simp only at ho
  subst ho
  rw [run_exec_binOp, hx, hy]
  go_simp
theorem exec_neq {ρ : Operand → Value} {o : Oper} {x y : Operand} {t z : TypeId} {a b : Int} {r : Bool} {w : World} (ho : o.op = .binOp .neq t x y z) (hx : ρ x = .int .i64 a) (hy : ρ y = .int .i64 b) (ht : Tryd.prog.underlying t = some (.int .i64)) (hr : (a != b) = r) : (execOp ρ o).run Tryd.prog w = .ok (.value (.bool r)) w := by
  obtain ⟨dst, o, ty, pos, after, guard⟩ := o
  simp only at ho
  subst ho
  rw [run_exec_binOp, hx, hy]
  go_simp
theorem exec_add {ρ : Operand → Value} {o : Oper} {x y : Operand} {t z : TypeId} {a b : Int} {w : World} (ho : o.op = .binOp .add t x y z) (hx : ρ x = .int .i64 a) (hy : ρ y = .int .i64 b) (ht : Tryd.prog.underlying t = some (.int .i64)) (h0 : -9223372036854775808 ≤ a + b) (h1 : a + b ≤ 9223372036854775807) : (execOp ρ o).run Tryd.prog w = .ok (.value (.int .i64 (a + b))) w := by
  obtain ⟨dst, o, ty, pos, after, guard⟩ := o
  simp only at ho
  subst ho
  rw [run_exec_binOp, hx, hy]
  have hw := i64_in (a + b) ⟨h0, h1⟩
  go_simp
theorem exec_and {ρ : Operand → Value} {o : Oper} {x y : Operand} {t z : TypeId} {a b r : Int} {w : World} (ho : o.op = .binOp .and t x y z) (hx : ρ x = .int .u8 a) (hy : ρ y = .int .u8 b) (ht : Tryd.prog.underlying t = some (.int .u8)) (hr : bits .and .u8 a b = r) : (execOp ρ o).run Tryd.prog w = .ok (.value (.int .u8 r)) w := by
  obtain ⟨dst, o, ty, pos, after, guard⟩ := o
  simp only at ho
  subst ho
  rw [run_exec_binOp, hx, hy]
  go_simp
theorem exec_neq8 {ρ : Operand → Value} {o : Oper} {x y : Operand} {t z : TypeId} {a b : Int} {r : Bool} {w : World} (ho : o.op = .binOp .neq t x y z) (hx : ρ x = .int .u8 a) (hy : ρ y = .int .u8 b) (ht : Tryd.prog.underlying t = some (.int .u8)) (hr : (a != b) = r) : (execOp ρ o).run Tryd.prog w = .ok (.value (.bool r)) w := by
  obtain ⟨dst, o, ty, pos, after, guard⟩ := o
  simp only at ho
  subst ho
  rw [run_exec_binOp, hx, hy]
  go_simp
theorem exec_neqb {ρ : Operand → Value} {o : Oper} {x y : Operand} {t z : TypeId} {a : Bool} {w : World} (ho : o.op = .binOp .neq t x y z) (hx : ρ x = .bool a) (hy : ρ y = .bool a) (ht : Tryd.prog.underlying t = some .bool) : (execOp ρ o).run Tryd.prog w = .ok (.value (.bool false)) w := by
  obtain ⟨dst, o, ty, pos, after, guard⟩ := o
  simp only at ho
  subst ho
  rw [run_exec_binOp, hx, hy]
  cases a <;> go_simp
theorem nat_and63 (a : Nat) (h : a < 256) : a &&& 63 = a % 64 := by revert a; decide +kernel
theorem and63 (x : Int) (h0 : 0 ≤ x) (h1 : x ≤ 255) : bits .and .u8 x 63 = x % 64 := by
  obtain ⟨k, rfl⟩ := Int.eq_ofNat_of_zero_le h0
  have := bitsN_and k 63 (by omega) (by decide)
  rw [nat_and63 k (by omega)] at this
  exact this.trans (by omega)
end Go.Proofs.YtobiiogoofkmaaaDoor
