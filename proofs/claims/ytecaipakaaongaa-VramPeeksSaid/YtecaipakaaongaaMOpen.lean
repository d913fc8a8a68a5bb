/-
  Laws for a region that draws its order, taken by hand: a call by its contract, a struct held against a struct; and what open answers of a board whose number is not listed.
-/
import Derived.Test.YtecaipakaaongaaMK
import Derived.OrdersHeld
namespace Go.Proofs.Ytecaipakaaongaa
open Go.RowKit Classical
theorem wpOp_contract {P : Program} {ops : Array Oper} {Q : Exit → Act → World → Prop} {i : Nat} {K : Act → World → Prop} {a : Act} {w : World} {o : Oper} {f : FuncId} {args : Array Value} {v : Value} {R : World → Prop}
    (hi : ops[i]? = some o) (hw : Region.wanted o (yielded ops a.tmps) = true) (he : (execOp a.eval o).run P w = .ok (.enter f args) w)
    (hc : Calls P f args w fun e w' => e = .returned v ∧ R w') (a' : Act) (ha : a.put o.dst v = a') (h : ∀ w', R w' → K a' w') : wpOp P ops Q i K a w := by
  subst ha
  unfold wpOp
  rw [hi]
  simp only [hw, if_true]
  left
  unfold Oper.wp
  rw [he, Oper.upon_enter]
  refine hc.mono ?_
  rintro e w' ⟨rfl, hR⟩
  exact h w' hR
theorem takeH {P : Program} {ops : Array Oper} {Q : Exit → Act → World → Prop} {md : Region.Mode} {S : World → Prop} {i : Nat} {oi : Oper} {v : Value} {fuel : Nat} {listed : Array Bool} {a : Act} {w : World} (a' : Act) (hi : ops[i]? = some oi)
    (hs : Region.noSelect ops = true) (hf : Region.free md ops listed i = true) (hr : (Region.ready md ops listed).contains i = true)
    (hQ : ∀ c a w, Q (.panic c) (a.put oi.dst v) w → Q (.panic c) a w) (hy : YieldsIf P ops S oi v a) (hS : S w) (ha : a.put oi.dst v = a')
    (h : wpAnyH P md ops Q S fuel (listed.setIfInBounds i true) a' w) : wpAnyH P md ops Q S (fuel + 1) listed a w :=
  wpAnyH_take hi hs hf hr hQ hy hS (by rw [ha]; exact h)
theorem Blk.drewN {w : World} {b : Nat} {cs : Array Value} {t : TypeId} (h : Blk w b cs t) (n : Nat) : Blk (w.drewN n) b cs t := h
theorem below_drewN {B : Nat} {a w : World} (h : Below B a w) (n : Nat) : Below B a (w.drewN n) := ⟨h.os, h.tape, h.output, h.size, h.block⟩
theorem run_exec_binOp (P : Program) (w : World) (ρ : Operand → Value) (dst : Option Tmp) (ty : TypeId) (pos : String) (after : Array Edge) (guard : Option (Nat × Bool)) (op : BinOp) (t z : TypeId) (x y : Operand) :
    (execOp ρ { dst, op := .binOp op t x y z, type := ty, pos, after, guard }).run P w = ((eqGuard op t x y (ρ x) (ρ y)).run P w).andThen fun _ v' => ((binOp op t (ρ x) (ρ y)).run P v').andThen fun r v'' => .ok (.value r) v'' := by
  unfold execOp
  simp only [Sem.run_bind, Sem.run_pure]
  cases (eqGuard op t x y (ρ x) (ρ y)).run P w <;> rfl
theorem Try.runNeq (w : World) (ρ : Operand → Value) (dst : Option Tmp) (ty : TypeId) (pos : String) (after : Array Edge) (guard : Option (Nat × Bool)) (z : TypeId) (x y : Operand) (b d : Bd) (hb : b.r.length = 8) (hd : d.r.length = 8) (hx : ρ x = .agg b.cells) (hy : ρ y = .agg d.cells) :
    (execOp ρ { dst, op := .binOp .neq 37 x y z, type := ty, pos, after, guard }).run Try.prog w = .ok (.value (.bool (!decide (b = d)))) w := by
  rw [run_exec_binOp, hx, hy, run_eqGuard_agg w .neq 37 _ _ _ _ (by kernel_rfl), Result.andThen_ok, Try.neqB w b d hb hd]
  rfl
set_option maxRecDepth 100000 in
theorem open_none (w : World) (b : Bd) (hr : b.r.length = 8) (hl : lst b.kind b.sub = false) :
    Calls Try.prog 51 #[.agg b.cells] w fun e w' => e = .returned .nilIface ∧ Below w.heap.size w w' := by
  have C := isB b hr
  generalize b.cells = cs at C
  have hsz := C.size
  have HL : Hid _ := hl
  clear hl
  go_enter Try.func51, Try.ntmps51
  go_upto_region 1 with fail
  have b0 : Blk (w.alloc (.cells cs 37)) w.heap.size cs 37 := Blk.new w cs _
  have hb0 : Below w.heap.size w (w.alloc (.cells cs 37)) := (Below.refl _ _).alloc (Nat.le_refl _) _
  generalize w.alloc (.cells cs 37) = W0 at *
  have d0 := (b0.cell 0).trans C.h0
  have d1 := (b0.cell 1).trans C.h1
  clear C hsz
  go_wp2_with fail
  refine (listed_any b.kind b.sub W0).mono ?_
  rintro e W ⟨rfl, rfl⟩
  rw [HL.out]
  go_wp2
  go_ret
  exact ⟨rfl, hb0⟩
end Go.Proofs.Ytecaipakaaongaa
