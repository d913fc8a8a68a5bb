/-
  The law VramValids, for every video memory and every board.
-/
import Derived.Test.YtokbnffofaeipaaXvValid2
set_option linter.unusedSimpArgs false
set_option linter.unusedVariables false
namespace Go.Proofs.Ytokbnffofaeipaa
open Go.RowKit Classical
theorem exec_eqb {ρ : Operand → Value} {o : Oper} {x y : Operand} {t z : TypeId} {a : Bool} {w : World} (ho : o.op = .binOp .eql t x y z) (hx : ρ x = .bool a) (hy : ρ y = .bool a) (ht : Try.prog.underlying t = some .bool) : (execOp ρ o).run Try.prog w = .ok (.value (.bool true)) w := by
  obtain ⟨dst, o, ty, pos, after, guard⟩ := o
  simp only at ho
  subst ho
  rw [vrun_exec_binOp, hx, hy]
  cases a <;> go_simp
set_option maxRecDepth 100000 in
set_option maxHeartbeats 2000000 in
theorem valids8_law (cs : Array Value) (f : Nat → Nat) (F : Fok f) (V : Vid cs f) (b : Bd) (B : b.Wf) (w : World) :
    Calls Try.prog 4 #[.agg cs, .agg b.cells] w fun e w' => e = .returned (.bool true) ∧ Below w.heap.size w w' := by
  have CA := fun (W : World) => cvalid_any cs f F V b B W
  have RA := fun (W : World) => rvalid8_any cs f F V b B W
  have C := isB b B.rlen
  generalize b.cells = bc at *
  have hbs : Hid (bc.size = 31) := C.size
  have hb6 : Hid (bc[6]? = some (.bool b.chrRam)) := C.h6
  clear C
  have IB : Hid ((Try.prog.info? 37).map (·.size) = some 31) := (by kernel_rfl : (Try.prog.info? 37).map (·.size) = some 31)
  have I8 : Hid ((Try.prog.info? 28).map (·.size) = some 12585) := Try.infoVid
  have VS : Hid (cs.size = 12585) := V.1
  generalize valF f b = vf at *
  go_enter Try.func4, Try.ntmps4
  go_upto_region 1 with fail
  have BV : Hid (Blk ((w.alloc (.cells cs 28)).alloc (.cells bc 37)) w.heap.size cs 28) := (Blk.new w cs _).old _
  have BB : Hid (Blk ((w.alloc (.cells cs 28)).alloc (.cells bc 37)) (w.heap.size + 1) bc 37) := by
    have := Blk.new (w.alloc (.cells cs 28)) bc 37
    rwa [World.size_alloc] at this
  have L0 : Hid (Below w.heap.size w ((w.alloc (.cells cs 28)).alloc (.cells bc 37))) := below_allocs _ _
  generalize ((w.alloc (.cells cs 28)).alloc (.cells bc 37)) = W at *
  have s0 : Below W.heap.size W W.drew := (Below.refl _ _).drew
  refine wp_region_held (S := fun v => Below W.heap.size W v) (by kernel_rfl) ?_
  refine takeH (i := 0) (v := .agg cs) _ rfl (by kernel_rfl) (by kernel_rfl) (by kernel_rfl) (fun _ _ _ h => h) (yieldsVd (by kernel_rfl) (.tmp 2) rfl w.heap.size (by kernel_rfl) cs (fun v hv => Blk.below BV.out (Blk.lt BV.out) hv) VS.out) s0 rfl ?_
  refine takeH (i := 1) (v := .agg bc) _ rfl (by kernel_rfl) (by kernel_rfl) (by kernel_rfl) (fun _ _ _ h => h) (yieldsBd (by kernel_rfl) (.tmp 3) rfl (w.heap.size + 1) (by kernel_rfl) bc (fun v hv => Blk.below BB.out (Blk.lt BB.out) hv) hbs.out) s0 rfl ?_
  refine takeH (i := 3) (v := .agg cs) _ rfl (by kernel_rfl) (by kernel_rfl) (by kernel_rfl) (fun _ _ _ h => h) (yieldsVd (by kernel_rfl) (.tmp 2) rfl w.heap.size (by kernel_rfl) cs (fun v hv => Blk.below BV.out (Blk.lt BV.out) hv) VS.out) s0 rfl ?_
  refine takeH (i := 4) (v := .agg bc) _ rfl (by kernel_rfl) (by kernel_rfl) (by kernel_rfl) (fun _ _ _ h => h) (yieldsBd (by kernel_rfl) (.tmp 3) rfl (w.heap.size + 1) (by kernel_rfl) bc (fun v hv => Blk.below BB.out (Blk.lt BB.out) hv) hbs.out) s0 rfl ?_
  refine callH (i := 2) (f := 11) (v := .bool vf) _ (by kernel_rfl) rfl (by kernel_rfl) (by kernel_rfl) (CA _) rfl ?_
  intro Wa hba
  have s1 : Below W.heap.size W Wa := s0.trans (hba.mono (Nat.le_refl _))
  refine ⟨s1, ?_⟩
  refine callH (i := 5) (f := 12) (v := .bool vf) _ (by kernel_rfl) rfl (by kernel_rfl) (by kernel_rfl) (RA _) rfl ?_
  intro Wb hbb
  have s2 : Below W.heap.size W Wb := s1.trans (hbb.mono s1.size)
  refine ⟨s2, ?_⟩
  clear hba hbb s0 s1
  refine takeH (i := 6) (v := .bool true) _ rfl (by kernel_rfl) (by kernel_rfl) (by kernel_rfl) (fun _ _ _ h => h) (.inl ⟨by kernel_rfl, fun v _ => exec_eqb (a := vf) rfl (by kernel_rfl) (by kernel_rfl) Try.underlying4⟩) s2 rfl ?_
  refine takeH (i := 7) (v := .bool true) _ rfl (by kernel_rfl) (by kernel_rfl) (by kernel_rfl) (fun _ _ _ h => h) (.inl ⟨by kernel_rfl, fun _ _ => by kernel_rfl⟩) s2 rfl ?_
  refine wpAnyH_done (by kernel_rfl) ?_ _
  clear CA RA
  go_wp2
  refine bodyPost_ret (v := .bool true) ((results_tmp Try.results4 _ _ _).trans (by kernel_rfl)) (by kernel_rfl) ?_
  exact ⟨rfl, L0.out.trans (s2.mono (Nat.le_of_lt (Blk.lt BV.out)))⟩
end Go.Proofs.Ytokbnffofaeipaa
