/-
  An MMC3 that counts scanlines, as plain facts.
-/
import Derived.Test.YtggphgmpdanliaaZClk0
set_option linter.unusedSimpArgs false
set_option linter.unusedVariables false
namespace Go.Proofs.Ytggphgmpdanliaa
open Go.RowKit Classical
/-- An MMC3 whose counter stands at 0, whose interrupt is let and isn't asked. -/
structure Scn (b : Bd) (sub n : Int) (ld : Bool) : Prop where
  ok : b.Ok
  kd : b.kind = 4
  sb : b.sub = sub
  la : b.iLatch = n
  ct : b.iCount = 0
  ld : b.iLoad = ld
  on : b.iOn = true
  iq : b.irq = false
theorem wr4_noE {b : Bd} (o : b.Ok) (hk : b.kind = 4) {a c : Int} (v : Int) (ha : 32768 ≤ a) (hc : 0 ≤ c) : noE (wrA b a v 0 c) = noE (wr4 b a v) := by
  rw [wrA_in o _ _ ha hc, wrB_noE]
  unfold wrK
  rw [if_neg (by omega), if_pos hk]
/-- What the law's three writes make of a new board, and the board that is not let to ask. -/
structure Set3 (D b2 b3 : Bd) (sub n : Int) : Prop where
  o2 : b2.Ok
  k2 : b2.kind = 4
  n2 : b2.iOn = false
  q2 : b2.irq = false
  s3 : Scn b3 sub n true
theorem set3 {D : Bd} (o : D.Ok) (hk : D.kind = 4) {sub n : Int} (hs : D.sub = sub) (ho : D.iOn = false) (hi : D.irq = false) (n0 : 0 ≤ n) (n1 : n ≤ 255) :
    Set3 D (wrA (wrA D 49152 n 0 10) 49153 0 0 14) (wrA (wrA (wrA D 49152 n 0 10) 49153 0 0 14) 57345 0 0 18) sub n := by
  have o1 := wrA_okk o 49152 n 0 10 n0 n1 (by decide) (by decide) (by decide)
  have e1 := wr4_noE o hk (a := 49152) (c := 10) n (by decide) (by decide)
  have w1 : wr4 D 49152 n = { D with iLatch := n } := by
    unfold wr4
    rw [if_neg (by decide), if_neg (by decide), if_pos (by decide), if_pos (by decide)]
  rw [w1] at e1
  generalize wrA D 49152 n 0 10 = b1 at *
  have k1 : b1.kind = 4 := (congrArg Bd.kind e1 :).trans hk
  have s1 : b1.sub = sub := (congrArg Bd.sub e1 :).trans hs
  have l1 : b1.iLatch = n := (congrArg Bd.iLatch e1 :)
  have n1 : b1.iOn = false := (congrArg Bd.iOn e1 :).trans ho
  have q1 : b1.irq = false := (congrArg Bd.irq e1 :).trans hi
  have o2 := wrA_okk o1 49153 0 0 14 (by decide) (by decide) (by decide) (by decide) (by decide)
  have e2 := wr4_noE o1 k1 (a := 49153) (c := 14) 0 (by decide) (by decide)
  have w2 : wr4 b1 49153 0 = { b1 with iCount := 0, iLoad := true } := by
    unfold wr4
    rw [if_neg (by decide), if_neg (by decide), if_pos (by decide), if_neg (by decide)]
  rw [w2] at e2
  generalize wrA b1 49153 0 0 14 = b2 at *
  have k2 : b2.kind = 4 := (congrArg Bd.kind e2 :).trans k1
  have n2 : b2.iOn = false := (congrArg Bd.iOn e2 :).trans n1
  have q2 : b2.irq = false := (congrArg Bd.irq e2 :).trans q1
  have o3 := wrA_okk o2 57345 0 0 18 (by decide) (by decide) (by decide) (by decide) (by decide)
  have e3 := wr4_noE o2 k2 (a := 57345) (c := 18) 0 (by decide) (by decide)
  have w3 : wr4 b2 57345 0 = { b2 with iOn := true } := by
    unfold wr4
    rw [if_neg (by decide), if_neg (by decide), if_neg (by decide), if_neg (by decide)]
  rw [w3] at e3
  generalize wrA b2 57345 0 0 18 = b3 at *
  exact ⟨o2, k2, n2, q2, ⟨o3, (congrArg Bd.kind e3 :).trans k2, (congrArg Bd.sub e3 :).trans ((congrArg Bd.sub e2 :).trans s1), (congrArg Bd.iLatch e3 :).trans ((congrArg Bd.iLatch e2 :).trans l1), (congrArg Bd.iCount e3 :).trans (congrArg Bd.iCount e2 :), (congrArg Bd.iLoad e3 :).trans (congrArg Bd.iLoad e2 :), (congrArg Bd.iOn e3 :), (congrArg Bd.irq e3 :).trans q2⟩⟩
theorem dumb_is {b : Bd} (o : b.Ok) (hk : b.kind = 4) (ho : b.iOn = false) (hi : b.irq = false) : (clockA b 1000).irq = false ∧ toIrqA (clockA b 1000) = -1 := by
  have h1 : (clockA b 1000).irq = false := by
    rw [clock_irq o hk 1000 (by decide), hi]
    unfold askV
    rw [ho]
    rfl
  have h2 : (clockA b 1000).iOn = false := by
    unfold clockA
    rw [if_pos ⟨o.val, by decide, hk⟩]
    exact ho
  refine ⟨h1, ?_⟩
  unfold toIrqA
  rw [if_pos ⟨(clockA_ok o 1000).val, (clockA_fix b 1000).1.trans hk⟩]
  unfold irqV
  rw [h1, h2]
  rfl
theorem scn_irq {b : Bd} {sub n : Int} {ld : Bool} (s : Scn b sub n ld) : toIrqA b = if ((sub == 4) && ((n == 0) && !ld)) = true then -1 else n + 1 := by
  unfold toIrqA
  rw [if_pos ⟨s.ok.val, s.kd⟩]
  unfold irqV
  rw [s.iq, s.on]
  simp only [Bool.false_eq_true, if_false, Bool.not_true]
  unfold zeroV
  rw [s.ct, s.la, s.sb, s.ld, if_neg (by decide)]
theorem scn_ask {b : Bd} {sub n : Int} {ld : Bool} (s : Scn b sub n ld) (m : Int) (h : 0 < m) : (clockA b m).irq = (decide (0 < toIrqA b) && decide (toIrqA b ≤ m)) := by
  rw [clock_irq s.ok s.kd m h, s.iq]
  have e : toIrqA b = zeroV b (b.sub == 4) := by
    unfold toIrqA
    rw [if_pos ⟨s.ok.val, s.kd⟩]
    unfold irqV
    rw [s.iq, s.on]
    rfl
  unfold askV
  rw [s.on, e]
  simp
/-- One round of an MMC3 that asks at n + 1. -/
structure Rnd (b p : Bd) (n : Int) : Prop where
  t0 : toIrqA b = n + 1
  a0 : (clockA b n).irq = false
  p1 : clockA b (n + 1) = p
  op : p.Ok
  ip : p.irq = true
  tp : toIrqA p = 0
  cp : (clockA p (n + 1)).irq = true
theorem rnd {b : Bd} {sub n : Int} {ld : Bool} (s : Scn b sub n ld) (n0 : 0 ≤ n) (h : ((sub == 4) && ((n == 0) && !ld)) = false) : Rnd b (clockA b (n + 1)) n := by
  have t0 : toIrqA b = n + 1 := by rw [scn_irq s, h, if_neg (by decide)]
  have ip : (clockA b (n + 1)).irq = true := by
    rw [scn_ask s (n + 1) (by omega), t0, decide_eq_true (by omega), decide_eq_true (Int.le_refl _)]
    rfl
  have op := clockA_ok s.ok (n + 1)
  have kp : (clockA b (n + 1)).kind = 4 := (clockA_fix b (n + 1)).1.trans s.kd
  refine ⟨t0, ?_, rfl, op, ip, ?_, ?_⟩
  · by_cases hn : 0 < n
    · rw [scn_ask s n hn, t0, decide_eq_false (show ¬ n + 1 ≤ n by omega)]
      simp
    · rw [clockA_neg b n (by omega)]; exact s.iq
  · unfold toIrqA
    rw [if_pos ⟨op.val, kp⟩]
    unfold irqV
    rw [ip]
    rfl
  · rw [clock_irq op kp (n + 1) (by omega), ip]
    rfl
theorem rnd_next {b : Bd} {sub n : Int} {ld : Bool} (s : Scn b sub n ld) (n0 : 0 ≤ n) :
    (wrA (clockA b (n + 1)) 65534 0 0 22).irq = false ∧ toIrqA (wrA (clockA b (n + 1)) 65534 0 0 22) = -1 ∧ Scn (wrA (wrA (clockA b (n + 1)) 65534 0 0 22) 65535 0 0 26) sub n false := by
  have op := clockA_ok s.ok (n + 1)
  have kp : (clockA b (n + 1)).kind = 4 := (clockA_fix b (n + 1)).1.trans s.kd
  have sp : (clockA b (n + 1)).sub = sub := (clockA_fix b (n + 1)).2.1.trans s.sb
  have eb : clockA b (n + 1) = clkB b (n + 1) (b.sub == 4) := if_pos ⟨s.ok.val, by omega, s.kd⟩
  have lp : (clockA b (n + 1)).iLatch = n := by rw [eb]; exact s.la
  have dp : (clockA b (n + 1)).iLoad = false := by rw [eb]; rfl
  have cp : (clockA b (n + 1)).iCount = 0 := by
    rw [eb, clkB_eq]
    show cN b.iCount b.iLatch (n + 1) = 0
    rw [s.ct, s.la]
    unfold cN
    rw [if_neg (by omega), Int.sub_zero, mod_self (n + 1) (by omega), if_neg (by decide)]
  generalize clockA b (n + 1) = p at *
  have o1 := wrA_okk op 65534 0 0 22 (by decide) (by decide) (by decide) (by decide) (by decide)
  have e1 := wr4_noE op kp (a := 65534) (c := 22) 0 (by decide) (by decide)
  have w1 : wr4 p 65534 0 = { p with iOn := false, irq := false } := by
    unfold wr4
    rw [if_neg (by decide), if_neg (by decide), if_neg (by decide), if_pos (by decide)]
  rw [w1] at e1
  generalize wrA p 65534 0 0 22 = q at *
  have kq : q.kind = 4 := (congrArg Bd.kind e1 :).trans kp
  have iq : q.irq = false := (congrArg Bd.irq e1 :)
  have nq : q.iOn = false := (congrArg Bd.iOn e1 :)
  have o2 := wrA_okk o1 65535 0 0 26 (by decide) (by decide) (by decide) (by decide) (by decide)
  have e2 := wr4_noE o1 kq (a := 65535) (c := 26) 0 (by decide) (by decide)
  have w2 : wr4 q 65535 0 = { q with iOn := true } := by
    unfold wr4
    rw [if_neg (by decide), if_neg (by decide), if_neg (by decide), if_neg (by decide)]
  rw [w2] at e2
  generalize wrA q 65535 0 0 26 = r at *
  refine ⟨iq, ?_, ⟨o2, (congrArg Bd.kind e2 :).trans kq, (congrArg Bd.sub e2 :).trans ((congrArg Bd.sub e1 :).trans sp), (congrArg Bd.iLatch e2 :).trans ((congrArg Bd.iLatch e1 :).trans lp), (congrArg Bd.iCount e2 :).trans ((congrArg Bd.iCount e1 :).trans cp), (congrArg Bd.iLoad e2 :).trans ((congrArg Bd.iLoad e1 :).trans dp), (congrArg Bd.iOn e2 :), (congrArg Bd.irq e2 :).trans iq⟩⟩
  unfold toIrqA
  rw [if_pos ⟨o1.val, kq⟩]
  unfold irqV
  rw [iq, nq]
  rfl
theorem exec_eql64 {ρ : Operand → Value} {o : Oper} {x y : Operand} {t z : TypeId} {a b : Int} {r : Bool} {w : World} (ho : o.op = .binOp .eql t x y z) (hx : ρ x = .int .i64 a) (hy : ρ y = .int .i64 b) (ht : Try.prog.underlying t = some (.int .i64)) (hr : (a == b) = r) : (execOp ρ o).run Try.prog w = .ok (.value (.bool r)) w := by
  obtain ⟨dst, o, ty, pos, after, guard⟩ := o
  simp only at ho
  subst ho
  rw [run_exec_binOp, hx, hy]
  go_simp
theorem new4_off (sub ram nv : Int) (vert four : Bool) (p c : Nat) (h : carB 4 sub p c = true) : (newD 4 sub ram nv vert four p c).iOn = false ∧ (newD 4 sub ram nv vert four p c).irq = false := by
  have e : newD 4 sub ram nv vert four p c = newK 4 sub ram nv vert four p c := if_pos h
  rw [e]
  unfold newK
  rw [if_neg (by decide), if_pos rfl]
  exact ⟨rfl, rfl⟩
end Go.Proofs.Ytggphgmpdanliaa
