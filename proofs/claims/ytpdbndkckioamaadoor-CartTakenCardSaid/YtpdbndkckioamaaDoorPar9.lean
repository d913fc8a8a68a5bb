/-
  What Parse answers.
-/
import Derived.Test.YtpdbndkckioamaaDoorPar8
import Derived.Defers
import Derived.Recover
set_option linter.unusedSimpArgs false
set_option linter.unusedVariables false
namespace Go.Proofs.YtpdbndkckioamaaDoor
open Go.RowKit
set_option maxRecDepth 100000 in
theorem catch_idle (p q r : Addr) (w : World) :
    CallsD Tryd.prog 25 #[.pointer (some p), .pointer (some q), .pointer (some r)] .returning w fun e u' w' => e = .returned (.tuple #[]) ∧ u' = .returning ∧ Below w.heap.size w w' := by
  have hta : ∀ w : World, Sem.run Tryd.prog (Instr.typeAssert Value.nilIface 20 55 true) w = .ok (.tuple #[.agg #[.int .i64 0, .int .i64 0], .bool false]) w := fun _ => by kernel_rfl
  refine callsD_of_wpS Tryd.func25 rfl fun c₀ cs hu => ?_
  apply wpS_seq
  apply wpS_region
  simp [wpOpsS, go_sem, recoverD, hu, hta, Tryd.ntmps25, Exit.thenS]
  apply wpS_seq
  apply wpS_region
  simp [wpOpsS, go_sem, Exit.thenS]
  refine wpS_cond (t := false) (by simp [Act.eval, Array.replicate]) ?_
  simp only [Bool.false_eq_true, if_false]
  refine wpS_of_wp (wp_skip ?_)
  cases c₀
  simp_all [bodyPostS, results, Tryd.results25]
  exact (Below.refl _ _).alloc (Nat.le_refl _) _
theorem results_cells3 {fn : Func} {p q r : Tmp} {t u s : TypeId} (h : fn.results = #[.cell p t, .cell q u, .cell r s]) (tmps : Array Value) (P : Program) (w : World) :
    (results fn tmps).run P w = ((asAddr (tmps.getD p undef)).run P w).andThen fun a w₁ => ((loadVar t a).run P w₁).andThen fun v w₂ => ((asAddr (tmps.getD q undef)).run P w₂).andThen fun b w₃ => ((loadVar u b).run P w₃).andThen fun v' w₄ => ((asAddr (tmps.getD r undef)).run P w₄).andThen fun d w₅ => ((loadVar s d).run P w₅).andThen fun v'' w₆ => .ok (.tuple #[v, v', v'']) w₆ := by
  simp only [results, h]
  simp [Sem.run_bind, Result.andThen]
theorem results_three {fn : Func} {p q r : Tmp} {t u s : TypeId} {tmps : Array Value} {P : Program} {w : World} {a b d : Addr} {v v' v'' : Value} (h : fn.results = #[.cell p t, .cell q u, .cell r s]) (hp : tmps.getD p undef = .pointer (some a)) (hq : tmps.getD q undef = .pointer (some b)) (hr : tmps.getD r undef = .pointer (some d))
    (l1 : (loadVar t a).run P w = .ok v w) (l2 : (loadVar u b).run P w = .ok v' w) (l3 : (loadVar s d).run P w = .ok v'' w) : (results fn tmps).run P w = .ok (.tuple #[v, v', v'']) w := by
  rw [results_cells3 h, hp, hq, hr]
  simp only [asAddr, Sem.run_pure, Result.andThen_ok, l1, l2, l3]
/-- What Parse is to answer. -/
def PaOk (c : CF) (T P Q R : List Nat) (w : World) (e : Ending) (w' : World) : Prop := ∃ xs, e = .returned (.tuple #[.agg xs, .int .i64 0, .int .i64 0]) ∧ Cl w' xs c T P Q R ∧ Below w.heap.size w w'
set_option maxRecDepth 100000 in
set_option maxHeartbeats 3200000 in
theorem parse_good (c : CF) (x : HN) (h0 : ckE c = 0) (X : Hb c x) (f2 : x.f = 2) (T P Q R : List Nat) (lt : T.length = c.nt) (lp : P.length = c.np) (lq : Q.length = c.nq) (lr : R.length = c.nr) (a : Option Addr) (n k : Nat) (w : World)
    (hI : (hdL c x ++ T ++ P ++ Q ++ R).length = n) (hk : n ≤ k) (hr : Row w a (hdL c x ++ T ++ P ++ Q ++ R)) :
    Calls Tryd.prog 8 #[.slice a n k] w (PaOk c T P Q R w) := by
  obtain ⟨b4, b5, b6, b7, b8, b9, b10, b11, eh, Y⟩ := hy_of X f2
  obtain ⟨b, off, rfl⟩ : ∃ b off, a = some ⟨b, off, none⟩ := by
    rcases hr with e | ⟨b, off, e, _⟩
    · have := congrArg List.length e
      rw [eh] at this
      simp [lh] at this
    · exact ⟨b, off, e⟩
  rw [eh] at hI hr
  have RC : Hid (∀ W : World, Below w.heap.size w W → Calls _ _ _ _ _) := fun W hb => read_any c x b4 b5 b6 b7 b8 b9 b10 b11 X f2 Y (h2_of h0 X f2) T P Q R lt lp lq lr b off n k W hI hk (hr.below hb)
  have HLN : Hid (T.length = c.nt ∧ P.length = c.np ∧ Q.length = c.nq ∧ R.length = c.nr) := ⟨lt, lp, lq, lr⟩
  clear hI hr hk lt lp lq lr eh Y f2
  have hmf : ∀ (fn : Fn) (first cap : Array Value) (w : World), (Instr.makeFunc fn first cap).run Tryd.prog w = .ok (.func fn first cap) w := fun _ _ _ _ => rfl
  go_enter_defers Tryd.func8, Tryd.ntmps8
  go_upto_region 1 with fail
  have hb0 : Below w.heap.size w (((w.alloc (.cells Z19 25)).alloc (.cells #[.int .i64 0] 26)).alloc (.cells #[.int .i64 0] 3)) := (((Below.refl _ _).alloc (Nat.le_refl _) _).alloc (by simp) _).alloc (by simp; omega) _
  have z0 : Blk (((w.alloc (.cells Z19 25)).alloc (.cells #[.int .i64 0] 26)).alloc (.cells #[.int .i64 0] 3)) w.heap.size Z19 25 := ((Blk.new w Z19 _).old _).old _
  have y0 : Blk (((w.alloc (.cells Z19 25)).alloc (.cells #[.int .i64 0] 26)).alloc (.cells #[.int .i64 0] 3)) (w.heap.size + 1) #[.int .i64 0] 26 := by have := (Blk.new (w.alloc (.cells Z19 25)) #[.int .i64 0] 26).old (.cells #[.int .i64 0] 3); rwa [World.size_alloc] at this
  have x0 : Blk (((w.alloc (.cells Z19 25)).alloc (.cells #[.int .i64 0] 26)).alloc (.cells #[.int .i64 0] 3)) (w.heap.size + 1 + 1) #[.int .i64 0] 3 := by have := Blk.new ((w.alloc (.cells Z19 25)).alloc (.cells #[.int .i64 0] 26)) #[.int .i64 0] 3; rw [World.size_alloc, World.size_alloc] at this; exact this
  generalize ((w.alloc (.cells Z19 25)).alloc (.cells #[.int .i64 0] 26)).alloc (.cells #[.int .i64 0] 3) = W0 at *
  go_upto_region 2 with fail
  go_wp2_with fail
  refine (RC.out _ hb0).mono ?_
  rintro e W1 ⟨xs, aT, kT, aP, kP, aQ, kQ, aR, kR, rfl, CX, es, ⟨FT, FP, FQ, FR⟩, hb1⟩
  have HX : Hid (xs.size = 19 ∧ xs.all (·.oneCell') = true) := ⟨CX.size, CX.one⟩
  have z1 := z0.below z0.lt hb1
  have y1 := y0.below y0.lt hb1
  have x1 := x0.below x0.lt hb1
  have hbw1 := hb0.trans (hb1.mono hb0.size)
  have hst := x0.lt
  clear RC z0 y0 x0
  go_wp2_with (refine wpList_store_mid rfl 25 _ _ rfl w.heap.size 0 xs rfl rfl (by exact z1.there _ HX.out.1.symm) (by rw [HX.out.1]; exact Tryd.infoCart) HX.out.2 ?_; have z2 := z1.setAll (L := xs) (by rw [HX.out.1]; rfl); have y2 := y1.otherCells (m := w.heap.size) (by omega) xs.toList 0; have x2 := x1.otherCells (m := w.heap.size) (by omega) xs.toList 0; have GT := RowF.puts (m := w.heap.size) (by omega) xs.toList 0 FT; have GP := RowF.puts (m := w.heap.size) (by omega) xs.toList 0 FP; have GQ := RowF.puts (m := w.heap.size) (by omega) xs.toList 0 FQ; have GR := RowF.puts (m := w.heap.size) (by omega) xs.toList 0 FR; have hbw2 := setCells_below (Nat.le_refl w.heap.size) xs.toList 0 _ _ hbw1; clear z1 y1 x1 FT FP FQ FR hbw1; generalize W1.setCells w.heap.size 0 xs.toList = W2 at *; have dy := (y2.cell 0).trans (show _ = some (.int .i64 0) from rfl); have fy := y2.free 0; have dx := (x2.cell 0).trans (show _ = some (.int .i64 0) from rfl); have fx := x2.free 0)
  have z3 := (z2.other (m := w.heap.size + 1) (by omega) 0 (.int .i64 0)).other (m := w.heap.size + 1 + 1) (by omega) 0 (.int .i64 0)
  have y3 := (y2.set 0 (.int .i64 0)).other (m := w.heap.size + 1 + 1) (by omega) 0 (.int .i64 0)
  have x3 := (x2.other (m := w.heap.size + 1) (by omega) 0 (.int .i64 0)).set 0 (.int .i64 0)
  have HT := (GT.put (m := w.heap.size + 1) (by omega) 0 (.int .i64 0)).put (m := w.heap.size + 1 + 1) (by omega) 0 (.int .i64 0)
  have HP := (GP.put (m := w.heap.size + 1) (by omega) 0 (.int .i64 0)).put (m := w.heap.size + 1 + 1) (by omega) 0 (.int .i64 0)
  have HQ := (GQ.put (m := w.heap.size + 1) (by omega) 0 (.int .i64 0)).put (m := w.heap.size + 1 + 1) (by omega) 0 (.int .i64 0)
  have HR := (GR.put (m := w.heap.size + 1) (by omega) 0 (.int .i64 0)).put (m := w.heap.size + 1 + 1) (by omega) 0 (.int .i64 0)
  have hbw3 := (hbw2.setCell (p := ⟨w.heap.size + 1, 0, none⟩) (by show w.heap.size ≤ w.heap.size + 1; omega) (.int .i64 0)).setCell (p := ⟨w.heap.size + 1 + 1, 0, none⟩) (by show w.heap.size ≤ w.heap.size + 1 + 1; omega) (.int .i64 0)
  clear z2 y2 x2 GT GP GQ GR hbw2 dy fy dx fx
  generalize (W2.setCell ⟨w.heap.size + 1, 0, none⟩ (.int .i64 0)).setCell ⟨w.heap.size + 1 + 1, 0, none⟩ (.int .i64 0) = W3 at *
  refine leaves_cons (f := 25) (args := #[.pointer (some ⟨w.heap.size, 0, none⟩), .pointer (some ⟨w.heap.size + 1, 0, none⟩), .pointer (some ⟨w.heap.size + 1 + 1, 0, none⟩)]) (by simp) (by simp [go_sem]) ?_
  refine (catch_idle _ _ _ W3).mono ?_
  rintro e u' W4 ⟨rfl, rfl, hb4⟩
  have z4 := z3.below z3.lt hb4
  have y4 := (y3.below y3.lt hb4).cell 0
  have x4 := (x3.below x3.lt hb4).cell 0
  have hbw4 := hbw3.trans (hb4.mono hbw3.size)
  have KT := HT.below hb4
  have KP := HP.below hb4
  have KQ := HQ.below hb4
  have KR := HR.below hb4
  have hl := run_loadVar_mid (P := Tryd.prog) W4 w.heap.size 0 25 xs.toList _ z4.range Tryd.underlying25 rfl (by rw [Array.length_toList, HX.out.1]; exact Tryd.infoCart)
  rw [Array.toArray_toList] at hl
  replace y4 : W4.cell? ⟨w.heap.size + 1, 0, none⟩ = some (.int .i64 0) := y4
  replace x4 : W4.cell? ⟨w.heap.size + 1 + 1, 0, none⟩ = some (.int .i64 0) := x4
  have ly : (loadVar 26 ⟨w.heap.size + 1, 0, none⟩).run Tryd.prog W4 = .ok (.int .i64 0) W4 := by simp [go_sem, y4]
  have lx : (loadVar 3 ⟨w.heap.size + 1 + 1, 0, none⟩).run Tryd.prog W4 = .ok (.int .i64 0) W4 := by simp [go_sem, x4]
  simp only [Leaves, settle]
  refine ⟨.tuple #[.agg xs, .int .i64 0, .int .i64 0], ?_, xs, rfl, ⟨CX, HLN.out.1, HLN.out.2.1, HLN.out.2.2.1, HLN.out.2.2.2, ⟨aT, kT, es.1, KT.row⟩, ⟨aP, kP, es.2.1, KP.row⟩, ⟨aQ, kQ, es.2.2.1, KQ.row⟩, ⟨aR, kR, es.2.2.2, KR.row⟩⟩, hbw4⟩
  exact results_three Tryd.results8 rfl rfl rfl hl ly lx
end Go.Proofs.YtpdbndkckioamaaDoor
