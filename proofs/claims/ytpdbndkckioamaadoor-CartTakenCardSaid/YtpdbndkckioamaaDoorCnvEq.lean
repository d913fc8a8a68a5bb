/-
  A cartridge and its lists in memory; what equal answers of two that hold the same; how a result of three is given back.
-/
import Derived.Test.YtpdbndkckioamaaDoorCnvLeaf
set_option linter.unusedSimpArgs false
set_option linter.unusedVariables false
namespace Go.Proofs.YtpdbndkckioamaaDoor
open Go.RowKit
/-- A cartridge's cells hold these numbers and these lists. -/
structure Cl (W : World) (xs : Array Value) (d : CF) (T P Q R : List Nat) : Prop where
  c : IsC xs d
  lt : T.length = d.nt
  lp : P.length = d.np
  lq : Q.length = d.nq
  lr : R.length = d.nr
  rt : ∃ a k, xs[15]? = some (.slice a d.nt k) ∧ Row W a T
  rp : ∃ a k, xs[16]? = some (.slice a d.np k) ∧ Row W a P
  rq : ∃ a k, xs[17]? = some (.slice a d.nq k) ∧ Row W a Q
  rr : ∃ a k, xs[18]? = some (.slice a d.nr k) ∧ Row W a R
theorem Cl.below {W W' : World} {xs : Array Value} {d : CF} {T P Q R : List Nat} (h : Cl W xs d T P Q R) (hb : Below W.heap.size W W') : Cl W' xs d T P Q R :=
  ⟨h.c, h.lt, h.lp, h.lq, h.lr, h.rt.imp fun _ ⟨k, e, r⟩ => ⟨k, e, r.below hb⟩, h.rp.imp fun _ ⟨k, e, r⟩ => ⟨k, e, r.below hb⟩, h.rq.imp fun _ ⟨k, e, r⟩ => ⟨k, e, r.below hb⟩, h.rr.imp fun _ ⟨k, e, r⟩ => ⟨k, e, r.below hb⟩⟩
/-- No cartridge. -/
def zC : CF := ⟨0, 0, 0, 0, 0, 0, 0, 0, 0, 0, 0, 0, false, false, false, 0, 0, 0, 0⟩
theorem Cl.zero (W : World) : Cl W Z19 zC [] [] [] [] :=
  ⟨⟨rfl, by kernel_rfl, rfl, rfl, rfl, rfl, rfl, rfl, rfl, rfl, rfl, rfl, rfl, rfl, rfl, rfl, rfl, ⟨none, 0, rfl⟩, ⟨none, 0, rfl⟩, ⟨none, 0, rfl⟩, ⟨none, 0, rfl⟩, by decide, by decide, by decide, by decide⟩, rfl, rfl, rfl, rfl,
    ⟨none, 0, rfl, .inl rfl⟩, ⟨none, 0, rfl, .inl rfl⟩, ⟨none, 0, rfl, .inl rfl⟩, ⟨none, 0, rfl, .inl rfl⟩⟩
theorem drewN_two (W : World) (a b : Nat) : (W.drewN a).drewN b = W.drewN (a + b) := by
  induction b with
  | zero => rfl
  | succ b ih => first | (show ((W.drewN a).drewN b).drew = _; rw [ih]; rfl) | (simp [World.drewN] at *; try rw [ih])
set_option maxRecDepth 100000 in
set_option maxHeartbeats 2000000 in
theorem equal_yes (xs ys : Array Value) (d : CF) (T P Q R : List Nat) (w : World) (X : Cl w xs d T P Q R) (Y : Cl w ys d T P Q R) :
    Calls Tryd.prog 10 #[.agg xs, .agg ys] w fun e w' => e = .returned (.bool true) ∧ Below w.heap.size w w' := by
  have hsx := X.c.size
  have hsy := Y.c.size
  go_enter Tryd.func10, Tryd.ntmps10
  go_upto_region 1 with fail
  have hb0 : Below w.heap.size w ((w.alloc (.cells xs 25)).alloc (.cells ys 25)) := ((Below.refl _ _).alloc (Nat.le_refl _) _).alloc (by simp) _
  have x0 : Blk ((w.alloc (.cells xs 25)).alloc (.cells ys 25)) w.heap.size xs 25 := (Blk.new w xs _).old _
  have y0 : Blk ((w.alloc (.cells xs 25)).alloc (.cells ys 25)) (w.heap.size + 1) ys 25 := by
    have := Blk.new (w.alloc (.cells xs 25)) ys 25
    rwa [World.size_alloc] at this
  generalize ((w.alloc (.cells xs 25)).alloc (.cells ys 25)) = W at *
  clear hsx hsy
  have p0 := (x0.cell 0).trans X.c.h0
  have q0 := (y0.cell 0).trans Y.c.h0
  have p1 := (x0.cell 1).trans X.c.h1
  have q1 := (y0.cell 1).trans Y.c.h1
  have p2 := (x0.cell 2).trans X.c.h2
  have q2 := (y0.cell 2).trans Y.c.h2
  have p3 := (x0.cell 3).trans X.c.h3
  have q3 := (y0.cell 3).trans Y.c.h3
  have p4 := (x0.cell 4).trans X.c.h4
  have q4 := (y0.cell 4).trans Y.c.h4
  have p5 := (x0.cell 5).trans X.c.h5
  have q5 := (y0.cell 5).trans Y.c.h5
  have p6 := (x0.cell 6).trans X.c.h6
  have q6 := (y0.cell 6).trans Y.c.h6
  have p7 := (x0.cell 7).trans X.c.h7
  have q7 := (y0.cell 7).trans Y.c.h7
  have p8 := (x0.cell 8).trans X.c.h8
  have q8 := (y0.cell 8).trans Y.c.h8
  have p9 := (x0.cell 9).trans X.c.h9
  have q9 := (y0.cell 9).trans Y.c.h9
  have p10 := (x0.cell 10).trans X.c.h10
  have q10 := (y0.cell 10).trans Y.c.h10
  have p11 := (x0.cell 11).trans X.c.h11
  have q11 := (y0.cell 11).trans Y.c.h11
  have p12 := (x0.cell 12).trans X.c.h12
  have q12 := (y0.cell 12).trans Y.c.h12
  have p13 := (x0.cell 13).trans X.c.h13
  have q13 := (y0.cell 13).trans Y.c.h13
  have p14 := (x0.cell 14).trans X.c.h14
  have q14 := (y0.cell 14).trans Y.c.h14
  go_upto_region 7 with fail
  clear p0 q0 p1 q1 p2 q2 p3 q3 p4 q4 p5 q5 p6 q6 p7 q7 p8 q8 p9 q9 p10 q10 p11 q11 p12 q12 p13 q13 p14 q14
  obtain ⟨a1, j1, e1, r1⟩ := X.rt
  obtain ⟨a2, j2, e2, r2⟩ := X.rp
  obtain ⟨a3, j3, e3, r3⟩ := X.rq
  obtain ⟨a4, j4, e4, r4⟩ := X.rr
  obtain ⟨b1, k1, f1, s1⟩ := Y.rt
  obtain ⟨b2, k2, f2, s2⟩ := Y.rp
  obtain ⟨b3, k3, f3, s3⟩ := Y.rq
  obtain ⟨b4, k4, f4, s4⟩ := Y.rr
  have p15 := (x0.cell 15).trans e1
  have p16 := (x0.cell 16).trans e2
  have p17 := (x0.cell 17).trans e3
  have p18 := (x0.cell 18).trans e4
  have q15 := (y0.cell 15).trans f1
  have q16 := (y0.cell 16).trans f2
  have q17 := (y0.cell 17).trans f3
  have q18 := (y0.cell 18).trans f4
  have S1 : Hid (∀ nn : Nat, _) := fun nn : Nat => same_n d.nt d.nt T X.lt X.lt (by have := X.c.mt; omega) a1 b1 j1 k1 (W.drewN nn) ((r1.below hb0).drewN nn) ((s1.below hb0).drewN nn)
  have S2 : Hid (∀ nn : Nat, _) := fun nn : Nat => same_n d.np d.np P X.lp X.lp (by have := X.c.mp; omega) a2 b2 j2 k2 (W.drewN nn) ((r2.below hb0).drewN nn) ((s2.below hb0).drewN nn)
  have S3 : Hid (∀ nn : Nat, _) := fun nn : Nat => same_n d.nq d.nq Q X.lq X.lq (by have := X.c.mq; omega) a3 b3 j3 k3 (W.drewN nn) ((r3.below hb0).drewN nn) ((s3.below hb0).drewN nn)
  have S4 : Hid (∀ nn : Nat, _) := fun nn : Nat => same_n d.nr d.nr R X.lr X.lr (by have := X.c.mr; omega) a4 b4 j4 k4 (W.drewN nn) ((r4.below hb0).drewN nn) ((s4.below hb0).drewN nn)
  have D : Hid (∀ a b : Nat, (W.drewN a).drewN b = W.drewN (a + b)) := fun a b => by rw [drewN_two]
  clear X Y e1 e2 e3 e4 f1 f2 f3 f4 r1 r2 r3 r4 s1 s2 s3 s4 x0 y0
  go_wp2_with fail
  refine (S1.out 0).mono ?_
  rintro e w1 ⟨rfl, m1, hw1⟩
  rw [D.out] at hw1
  subst hw1
  go_wp2_with fail
  refine (S2.out _).mono ?_
  rintro e w1 ⟨rfl, m2, hw1⟩
  rw [D.out] at hw1
  subst hw1
  go_wp2_with fail
  refine (S3.out _).mono ?_
  rintro e w1 ⟨rfl, m3, hw1⟩
  rw [D.out] at hw1
  subst hw1
  go_wp2_with fail
  refine (S4.out _).mono ?_
  rintro e w1 ⟨rfl, m4, hw1⟩
  rw [D.out] at hw1
  subst hw1
  go_wp2
  go_ret
  exact ⟨rfl, below_draws hb0 _⟩
theorem results_cell_two {fn : Func} {p q r : Tmp} {ty : TypeId} (h : fn.results = #[.cell p ty, .tmp q, .tmp r]) (tmps : Array Value) (P : Program) (w : World) :
    (results fn tmps).run P w = ((asAddr (tmps.getD p undef)).run P w).andThen fun a w₁ => ((loadVar ty a).run P w₁).andThen fun v w₂ => .ok (.tuple #[v, tmps.getD q undef, tmps.getD r undef]) w₂ := by
  simp only [results, h]
  simp [Sem.run_bind, Result.andThen]
theorem ret_agg3 {P : Program} {fn : Func} {R : Ending → World → Prop} {tmps : Array Value} {w : World} {p q r : Tmp} {ty : TypeId} {m : Nat} {L : Array Value} {d : TypeDesc} {t : TypeId} {x y : Value} (h : fn.results = #[.cell p ty, .tmp q, .tmp r]) (hp : tmps.getD p undef = .pointer (some ⟨m, 0, none⟩)) (hq : tmps.getD q undef = x) (hr : tmps.getD r undef = y)
    (hb : Blk w m L t) (hu : P.underlying ty = some d) (hd : d.isRow = true) (hi : (P.info? ty).map (·.size) = some L.size) (hR : R (.returned (.tuple #[.agg L, x, y])) w) : bodyPost P fn R .ret ⟨tmps, []⟩ w := by
  refine bodyPost_ret (v := .tuple #[.agg L, x, y]) ?_ rfl hR
  rw [results_cell_two h]
  show ((asAddr (tmps.getD p undef)).run P w).andThen _ = _
  rw [hp, hq, hr]
  have hr := run_loadVar_mid (P := P) w m 0 ty L.toList d hb.range hu hd (by rw [Array.length_toList]; exact hi)
  simp only [asAddr, Sem.run_pure, Result.andThen_ok]
  rw [hr]
  rfl
end Go.Proofs.YtpdbndkckioamaaDoor
