/-
  A board stays valid, whatever is written.
-/
import Derived.Test.YtggphgmpdanliaaYSpec
import Derived.Test.YtggphgmpdanliaaYA
set_option linter.unusedSimpArgs false
set_option linter.unusedVariables false
namespace Go.Proofs.Ytggphgmpdanliaa
open Go.RowKit Classical
theorem valid_mk {b : Bd} {x y : Bool} (h : validB b = (x && y)) (hx : x = true) (hy : y = true) : validB b = true := by rw [h, hx, hy]; rfl
theorem ok_of {b d : Bd} (o : b.Ok) (w : d.Wf) (hv : validB d = true) : d.Ok := Bd.ok w hv
theorem Bd.Ok.ep {b : Bd} (o : b.Ok) (e : Int) (h0 : 0 ≤ e) (h1 : e ≤ 4611686018427387904) : Bd.Ok { b with epoch := e } := by
  have sz : sizes { b with epoch := e } = true := by
    have := valid_sizes o.val
    simp only [sizes, szs, Bool.and_eq_true, Bool.or_eq_true, decide_eq_true_eq, beq_iff_eq] at this ⊢
    exact ⟨this.1, this.2.1, this.2.2.1, this.2.2.2.1, this.2.2.2.2.1, this.2.2.2.2.2.1, this.2.2.2.2.2.2.1, this.2.2.2.2.2.2.2.1, h0, h1⟩
  refine Bd.ok { o.wf with epoch := ⟨by show (-9223372036854775808 : Int) ≤ e; omega, by show e ≤ (9223372036854775807 : Int); omega⟩ } ?_
  rcases o.kd with hk | hk | hk | hk | hk | hk
  · have h := valid_kk (validB_0 hk) o.val
    refine valid_mk (validB_0 (b := { b with epoch := e }) hk) h.1 ?_
    have E : bare 0 { b with epoch := e } = { b with epoch := e } := by
      have := congrArg (fun x : Bd => ({ x with epoch := e } : Bd)) (o.v0 hk)
      exact this
    simp only [val0, sameB_dec, E, sz, decide_true, Bool.and_self]
  · have h := valid_kk (validB_1 hk) o.val
    refine valid_mk (validB_1 (b := { b with epoch := e }) hk) h.1 ?_
    have E0 := congrArg (fun x : Bd => ({ x with epoch := e } : Bd)) (o.v1 hk)
    have E : n1 { b with epoch := e } = { b with epoch := e } := E0
    have R : regs1 { b with epoch := e } = true := (Bool.and_eq_true_iff.1 (Bool.and_eq_true_iff.1 h.2).2).2
    simp only [val1, sameB_dec, E, sz, R, decide_true, Bool.and_self]
  · have h := valid_kk (validB_2 hk) o.val
    refine valid_mk (validB_2 (b := { b with epoch := e }) hk) h.1 ?_
    have E0 := congrArg (fun x : Bd => ({ x with epoch := e } : Bd)) (o.v2 hk)
    have E : nL 2 { b with epoch := e } = { b with epoch := e } := E0
    simp only [val2, sameB_dec, E, sz, decide_true, Bool.and_self]
  · have h := valid_kk (validB_3 hk) o.val
    refine valid_mk (validB_3 (b := { b with epoch := e }) hk) h.1 ?_
    have E0 := congrArg (fun x : Bd => ({ x with epoch := e } : Bd)) (o.v3 hk)
    have E : nL 3 { b with epoch := e } = { b with epoch := e } := E0
    simp only [val3, sameB_dec, E, sz, decide_true, Bool.and_self]
  · have h := valid_kk (validB_4 hk) o.val
    refine valid_mk (validB_4 (b := { b with epoch := e }) hk) h.1 ?_
    have E0 := congrArg (fun x : Bd => ({ x with epoch := e } : Bd)) (o.v4 hk)
    have E : n4 { b with epoch := e } = { b with epoch := e } := E0
    have R : regs4 { b with epoch := e } = true := (Bool.and_eq_true_iff.1 (Bool.and_eq_true_iff.1 h.2).2).2
    simp only [val4, sameB_dec, E, sz, R, decide_true, Bool.and_self]
  · have h := valid_kk (validB_7 hk) o.val
    refine valid_mk (validB_7 (b := { b with epoch := e }) hk) h.1 ?_
    have E0 := congrArg (fun x : Bd => ({ x with epoch := e } : Bd)) (o.v7 hk)
    have E : nL 7 { b with epoch := e } = { b with epoch := e } := E0
    simp only [val7, sameB_dec, E, sz, decide_true, Bool.and_self]
theorem Bd.Ok.lat {b : Bd} (o : b.Ok) (hk : b.kind = 2 ∨ b.kind = 3 ∨ b.kind = 7) (x : Int) (h0 : 0 ≤ x) (h1 : x ≤ 255) : Bd.Ok { b with latch := x } := by
  have sz0 := valid_sizes o.val
  have sz : sizes { b with latch := x } = true := sz0
  refine Bd.ok { o.wf with latch := ⟨h0, h1⟩ } ?_
  rcases hk with hk | hk | hk
  · have h := valid_kk (validB_2 hk) o.val
    refine valid_mk (validB_2 (b := { b with latch := x }) hk) h.1 ?_
    have E0 := congrArg (fun y : Bd => ({ y with latch := x } : Bd)) (o.v2 hk)
    have E : nL 2 { b with latch := x } = { b with latch := x } := E0
    simp only [val2, sameB_dec, E, sz, decide_true, Bool.and_self]
  · have h := valid_kk (validB_3 hk) o.val
    refine valid_mk (validB_3 (b := { b with latch := x }) hk) h.1 ?_
    have E0 := congrArg (fun y : Bd => ({ y with latch := x } : Bd)) (o.v3 hk)
    have E : nL 3 { b with latch := x } = { b with latch := x } := E0
    simp only [val3, sameB_dec, E, sz, decide_true, Bool.and_self]
  · have h := valid_kk (validB_7 hk) o.val
    refine valid_mk (validB_7 (b := { b with latch := x }) hk) h.1 ?_
    have E0 := congrArg (fun y : Bd => ({ y with latch := x } : Bd)) (o.v7 hk)
    have E : nL 7 { b with latch := x } = { b with latch := x } := E0
    simp only [val7, sameB_dec, E, sz, decide_true, Bool.and_self]
theorem Bd.Ok.ser {b : Bd} (o : b.Ok) (hk : b.kind = 1) (s t A B R L : Int) (s0 : 0 < s) (s1 : s ≤ 31) (t0 : 0 ≤ t) (t1 : t ≤ 31) (A0 : 0 ≤ A) (A1 : A ≤ 31) (B0 : 0 ≤ B) (B1 : B ≤ 31) (R0 : 0 ≤ R) (R1 : R ≤ 31) (L0 : L = -2 ∨ 0 ≤ L) (L1 : L ≤ 9223372036854775807) :
    Bd.Ok { b with shift := s, ctrl := t, chrA := A, chrB := B, prgR := R, last := L } := by
  have sz0 := valid_sizes o.val
  have sz : sizes { b with shift := s, ctrl := t, chrA := A, chrB := B, prgR := R, last := L } = true := sz0
  refine Bd.ok { o.wf with shift := ⟨by show 0 ≤ s; omega, by show s ≤ 255; omega⟩, ctrl := ⟨t0, by show t ≤ 255; omega⟩, chrA := ⟨A0, by show A ≤ 255; omega⟩, chrB := ⟨B0, by show B ≤ 255; omega⟩, prgR := ⟨R0, by show R ≤ 255; omega⟩, last := ⟨by show -9223372036854775808 ≤ L; omega, L1⟩ } ?_
  have h := valid_kk (validB_1 hk) o.val
  refine valid_mk (validB_1 (b := { b with shift := s, ctrl := t, chrA := A, chrB := B, prgR := R, last := L }) hk) h.1 ?_
  have E0 := congrArg (fun y : Bd => ({ y with shift := s, ctrl := t, chrA := A, chrB := B, prgR := R, last := L } : Bd)) (o.v1 hk)
  have E : n1 { b with shift := s, ctrl := t, chrA := A, chrB := B, prgR := R, last := L } = { b with shift := s, ctrl := t, chrA := A, chrB := B, prgR := R, last := L } := E0
  have G : regs1 { b with shift := s, ctrl := t, chrA := A, chrB := B, prgR := R, last := L } = true := by
    simp only [regs1, Bool.and_eq_true, Bool.or_eq_true, decide_eq_true_eq, beq_iff_eq, max5_le]
    omega
  simp only [val1, sameB_dec, E, sz, G, decide_true, Bool.and_self]
theorem Bd.Ok.scn {b : Bd} (o : b.Ok) (hk : b.kind = 4) (se : Int) (r : List Int) (tu gu la ct : Int) (lo on iq : Bool) (s0 : 0 ≤ se) (s1 : se ≤ 255) (s2 : bits .andNot .u8 se 199 = 0) (rl : r.length = 8) (ra : ∀ x ∈ r, 0 ≤ x ∧ x ≤ 255) (u0 : 0 ≤ tu) (u1 : tu ≤ 1) (g0 : 0 ≤ gu) (g1 : gu ≤ 255) (g2 : bits .andNot .u8 gu 192 = 0) (l0 : 0 ≤ la) (l1 : la ≤ 255) (c0 : 0 ≤ ct) (c1 : ct ≤ 255) (f1 : lo = true → ct = 0) (f2 : iq = true → on = true) :
    Bd.Ok { b with sel := se, r := r, turn := tu, guard := gu, iLatch := la, iCount := ct, iLoad := lo, iOn := on, irq := iq } := by
  have sz0 := valid_sizes o.val
  have sz : sizes { b with sel := se, r := r, turn := tu, guard := gu, iLatch := la, iCount := ct, iLoad := lo, iOn := on, irq := iq } = true := sz0
  refine Bd.ok { o.wf with sel := ⟨s0, s1⟩, rlen := rl, rall := ra, turn := ⟨u0, by show tu ≤ 255; omega⟩, guard := ⟨g0, g1⟩, iLatch := ⟨l0, l1⟩, iCount := ⟨c0, c1⟩ } ?_
  have h := valid_kk (validB_4 hk) o.val
  refine valid_mk (validB_4 (b := { b with sel := se, r := r, turn := tu, guard := gu, iLatch := la, iCount := ct, iLoad := lo, iOn := on, irq := iq }) hk) h.1 ?_
  have E0 := congrArg (fun y : Bd => ({ y with sel := se, r := r, turn := tu, guard := gu, iLatch := la, iCount := ct, iLoad := lo, iOn := on, irq := iq } : Bd)) (o.v4 hk)
  have E : n4 { b with sel := se, r := r, turn := tu, guard := gu, iLatch := la, iCount := ct, iLoad := lo, iOn := on, irq := iq } = { b with sel := se, r := r, turn := tu, guard := gu, iLatch := la, iCount := ct, iLoad := lo, iOn := on, irq := iq } := E0
  have G : regs4 { b with sel := se, r := r, turn := tu, guard := gu, iLatch := la, iCount := ct, iLoad := lo, iOn := on, irq := iq } = true := by
    have q1 : (!lo || ct == 0) = true := by
      cases lo
      · rfl
      · simpa using f1 rfl
    have q2 : (!iq || on) = true := by
      cases iq
      · rfl
      · simpa using f2 rfl
    simp only [regs4, fitsV, s2, g2, decide_eq_true u1, q1, q2, beq_self_eq_true, Bool.and_self]
  simp only [val4, sameB_dec, E, sz, G, decide_true, Bool.and_self]
theorem Bd.Ok.fits {b : Bd} (o : b.Ok) (hk : b.kind = 4) : (b.iLoad = true → b.iCount = 0) ∧ (b.irq = true → b.iOn = true) := by
  have h := (o.r4 hk).2.2.2
  simp only [fitsV, Bool.and_eq_true, Bool.or_eq_true, Bool.not_eq_true', beq_iff_eq] at h
  refine ⟨fun e => ?_, fun e => ?_⟩
  · rcases h.1 with h | h
    · rw [h] at e; cases e
    · exact h
  · rcases h.2 with h | h
    · rw [h] at e; cases e
    · exact h
theorem and_bd {v u : Int} (v0 : 0 ≤ v) (v1 : v ≤ 255) (u0 : 0 ≤ u) (u1 : u ≤ 255) : 0 ≤ bits .and .u8 v u ∧ bits .and .u8 v u ≤ 255 := by
  rw [u8_and v u v0 (by omega) u0 (by omega)]
  have := Nat.and_le_left (n := v.toNat) (m := u.toNat)
  omega
theorem wrK_ok {b : Bd} (o : b.Ok) (a v u c : Int) (v0 : 0 ≤ v) (v1 : v ≤ 255) (u0 : 0 ≤ u) (u1 : u ≤ 255) (c0 : 0 ≤ c) (c1 : c ≤ 9223372036854775807) : (wrK b a v u c).Ok := by
  unfold wrK
  by_cases hk : b.kind = 1
  · rw [if_pos hk]
    obtain ⟨h1, h2, h3, h4, h5, h6, h7⟩ := o.r1 hk
    have t0 := o.wf.ctrl.1
    have A0 := o.wf.chrA.1
    have B0 := o.wf.chrB.1
    have R0 := o.wf.prgR.1
    unfold wr1
    split
    · exact o.ser hk b.shift b.ctrl b.chrA b.chrB b.prgR c h1 h2 t0 h3 A0 h4 B0 h5 R0 h6 (.inr c0) c1
    split
    · have q := or12 t0 (by omega)
      exact o.ser hk 16 (bits .or .u8 b.ctrl 12) b.chrA b.chrB b.prgR c (by omega) (by omega) q.1 (q.2.2 h3) A0 h4 B0 h5 R0 h6 (.inr c0) c1
    · show (pushB { b with last := c } a v).Ok
      unfold pushB
      show (if b.shift % 2 = 0 then _ else _ : Bd).Ok
      split
      · exact o.ser hk (b.shift / 2 + v % 2 * 16) b.ctrl b.chrA b.chrB b.prgR c (by omega) (by omega) t0 h3 A0 h4 B0 h5 R0 h6 (.inr c0) c1
      split
      · exact o.ser hk 16 (b.shift / 2 + v % 2 * 16) b.chrA b.chrB b.prgR c (by omega) (by omega) (by omega) (by omega) A0 h4 B0 h5 R0 h6 (.inr c0) c1
      split
      · exact o.ser hk 16 b.ctrl (b.shift / 2 + v % 2 * 16) b.chrB b.prgR c (by omega) (by omega) t0 h3 (by omega) (by omega) B0 h5 R0 h6 (.inr c0) c1
      split
      · exact o.ser hk 16 b.ctrl b.chrA (b.shift / 2 + v % 2 * 16) b.prgR c (by omega) (by omega) t0 h3 A0 h4 (by omega) (by omega) R0 h6 (.inr c0) c1
      · exact o.ser hk 16 b.ctrl b.chrA b.chrB (b.shift / 2 + v % 2 * 16) c (by omega) (by omega) t0 h3 A0 h4 B0 h5 (by omega) (by omega) (.inr c0) c1
  rw [if_neg hk]
  by_cases h4 : b.kind = 4
  · rw [if_pos h4]
    obtain ⟨q1, q2, q3, _⟩ := o.r4 h4
    obtain ⟨f1, f2⟩ := o.fits h4
    have W := o.wf
    have g199 := and199 v0 v1
    have g192 := and192 v0 v1
    unfold wr4
    split
    · split
      · exact o.scn h4 (bits .and .u8 v 199) b.r b.turn b.guard b.iLatch b.iCount b.iLoad b.iOn b.irq g199.1 g199.2.1 g199.2.2 W.rlen W.rall W.turn.1 q2 W.guard.1 W.guard.2 q3 W.iLatch.1 W.iLatch.2 W.iCount.1 W.iCount.2 f1 f2
      · refine o.scn h4 b.sel (b.r.set (b.sel % 8).toNat v) b.turn b.guard b.iLatch b.iCount b.iLoad b.iOn b.irq W.sel.1 W.sel.2 q1 (by rw [List.length_set]; exact W.rlen) (fun x hx => ?_) W.turn.1 q2 W.guard.1 W.guard.2 q3 W.iLatch.1 W.iLatch.2 W.iCount.1 W.iCount.2 f1 f2
        rcases List.mem_or_eq_of_mem_set hx with hx | hx
        · exact W.rall x hx
        · rw [hx]; exact ⟨v0, v1⟩
    split
    · split
      · exact o.scn h4 b.sel b.r (v % 2) b.guard b.iLatch b.iCount b.iLoad b.iOn b.irq W.sel.1 W.sel.2 q1 W.rlen W.rall (by omega) (by omega) W.guard.1 W.guard.2 q3 W.iLatch.1 W.iLatch.2 W.iCount.1 W.iCount.2 f1 f2
      · exact o.scn h4 b.sel b.r b.turn (bits .and .u8 v 192) b.iLatch b.iCount b.iLoad b.iOn b.irq W.sel.1 W.sel.2 q1 W.rlen W.rall W.turn.1 q2 g192.1 g192.2.1 g192.2.2 W.iLatch.1 W.iLatch.2 W.iCount.1 W.iCount.2 f1 f2
    split
    · split
      · exact o.scn h4 b.sel b.r b.turn b.guard v b.iCount b.iLoad b.iOn b.irq W.sel.1 W.sel.2 q1 W.rlen W.rall W.turn.1 q2 W.guard.1 W.guard.2 q3 v0 v1 W.iCount.1 W.iCount.2 f1 f2
      · exact o.scn h4 b.sel b.r b.turn b.guard b.iLatch 0 true b.iOn b.irq W.sel.1 W.sel.2 q1 W.rlen W.rall W.turn.1 q2 W.guard.1 W.guard.2 q3 W.iLatch.1 W.iLatch.2 (by decide) (by decide) (fun _ => rfl) f2
    split
    · exact o.scn h4 b.sel b.r b.turn b.guard b.iLatch b.iCount b.iLoad false false W.sel.1 W.sel.2 q1 W.rlen W.rall W.turn.1 q2 W.guard.1 W.guard.2 q3 W.iLatch.1 W.iLatch.2 W.iCount.1 W.iCount.2 f1 (fun h => by cases h)
    · exact o.scn h4 b.sel b.r b.turn b.guard b.iLatch b.iCount b.iLoad true b.irq W.sel.1 W.sel.2 q1 W.rlen W.rall W.turn.1 q2 W.guard.1 W.guard.2 q3 W.iLatch.1 W.iLatch.2 W.iCount.1 W.iCount.2 f1 (fun _ => rfl)
  rw [if_neg h4]
  by_cases h0 : b.kind = 0
  · rw [if_pos h0]; exact o
  rw [if_neg h0]
  have kd := o.kd
  unfold wrL
  split
  · have q := and_bd v0 v1 u0 u1
    exact o.lat (by omega) _ q.1 q.2
  · exact o.lat (by omega) v v0 v1
theorem wrK_fix (b : Bd) (a v u c : Int) : (wrK b a v u c).kind = b.kind ∧ (wrK b a v u c).sub = b.sub ∧ (wrK b a v u c).hard = b.hard ∧ (wrK b a v u c).work = b.work ∧ (wrK b a v u c).prg = b.prg ∧ (wrK b a v u c).chr = b.chr ∧ (wrK b a v u c).chrRam = b.chrRam ∧ (wrK b a v u c).epoch = b.epoch := by
  unfold wrK wr1 wr4 wrL pushB
  (repeat' split) <;> exact ⟨rfl, rfl, rfl, rfl, rfl, rfl, rfl, rfl⟩
theorem upB_bd {e : Int} (h0 : 0 ≤ e) (h1 : e ≤ 4611686018427387904) : 0 ≤ upB e ∧ upB e ≤ 4611686018427387904 := by
  unfold upB; split <;> omega
theorem wrB_ok {b : Bd} (o : b.Ok) (a v u c : Int) (v0 : 0 ≤ v) (v1 : v ≤ 255) (u0 : 0 ≤ u) (u1 : u ≤ 255) (c0 : 0 ≤ c) (c1 : c ≤ 9223372036854775807) : (wrB b a v u c).Ok := by
  have h := wrK_ok o a v u c v0 v1 u0 u1 c0 c1
  unfold wrB
  split
  · exact h
  · exact h.ep _ (upB_bd o.e0 o.e1).1 (upB_bd o.e0 o.e1).2
theorem wrB_fix (b : Bd) (a v u c : Int) : (wrB b a v u c).kind = b.kind ∧ (wrB b a v u c).sub = b.sub ∧ (wrB b a v u c).hard = b.hard ∧ (wrB b a v u c).work = b.work ∧ (wrB b a v u c).prg = b.prg ∧ (wrB b a v u c).chr = b.chr ∧ (wrB b a v u c).chrRam = b.chrRam := by
  have h := wrK_fix b a v u c
  unfold wrB
  split
  · exact ⟨h.1, h.2.1, h.2.2.1, h.2.2.2.1, h.2.2.2.2.1, h.2.2.2.2.2.1, h.2.2.2.2.2.2.1⟩
  · exact ⟨h.1, h.2.1, h.2.2.1, h.2.2.2.1, h.2.2.2.2.1, h.2.2.2.2.2.1, h.2.2.2.2.2.2.1⟩
/-- A write to any board, at any address, in any cycle. -/
def wrA (b : Bd) (a v u c : Int) : Bd := if validB b = true ∧ 32768 ≤ a ∧ 0 ≤ c then wrB b a v u c else b
end Go.Proofs.Ytggphgmpdanliaa
