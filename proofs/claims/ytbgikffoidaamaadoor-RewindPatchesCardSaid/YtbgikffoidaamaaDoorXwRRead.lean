/-
  The document's reader of a patch: a number.
-/
import Derived.Test.YtbgikffoidaamaaDoorXwThere
import Derived.BigQuiet
import Derived.Deep.QuietTactic
set_option linter.unusedSimpArgs false
set_option linter.unusedVariables false
namespace Go.Proofs.YtbgikffoidaamaaDoor
open Go.RowKit Classical
/-- The document's reader in block r stands at place p of D, whose bytes lie where they lay in w0. -/
def Rq (w0 w : World) (r : Nat) (ad : Option Addr) (nd kd : Nat) (D : List Nat) (p : Nat) (bd : Bool) : Prop := Blk w r #[.slice ad nd kd, .int .i64 (p : Nat), .bool bd] 46 ∧ D.length = nd ∧ p ≤ nd ∧ Row w0 ad D
theorem rd_mono : ∀ (k : Nat) (L : List Nat) (q : Nat × List Nat), RwM.rdN k L = some q → RwM.rdN (k + 1) L = some q := by
  intro k
  induction k with
  | zero => intro L q h; simp [RwM.rdN] at h
  | succ k ih =>
    intro L q h
    cases L with
    | nil => simp [RwM.rdN] at h
    | cons b L =>
      rw [RwM.rdN] at h ⊢
      by_cases hb : b < 128
      · rw [if_pos hb] at h ⊢; exact h
      · rw [if_neg hb] at h ⊢
        cases hr : RwM.rdN k L with
        | none => rw [hr] at h; cases h
        | some p => rw [hr] at h; rw [ih L p hr]; exact h
theorem rd_step4 (k acc y : Nat) (ys : List Nat) (hk : k < 4) (hy : ¬ y < 128) : ((RwM.rdN (4 - k) (y :: ys)).map fun p => (acc + 128 ^ k * p.1, p.2)) = (RwM.rdN (4 - (k + 1)) ys).map fun p => (acc + 128 ^ k * (y % 128) + 128 ^ (k + 1) * p.1, p.2) := by
  rw [show 4 - k = (4 - (k + 1)) + 1 by omega, RwM.rdN, if_neg hy, Option.map_map]
  congr 1
  funext p
  show (acc + 128 ^ k * (y % 128 + 128 * p.1), p.2) = _
  rw [Nat.mul_add, Nat.pow_succ, Nat.mul_assoc, ← Nat.add_assoc]
theorem rd_last4 (k acc y : Nat) (ys : List Nat) (hk : k < 4) (hy : y < 128) : ((RwM.rdN (4 - k) (y :: ys)).map fun p => (acc + 128 ^ k * p.1, p.2)) = some (acc + 128 ^ k * (y % 128), ys) := by
  rw [show 4 - k = (4 - (k + 1)) + 1 by omega, RwM.rdN, if_pos hy, Nat.mod_eq_of_lt hy]
  rfl
/-- What the document's number answers. -/
def RNumU (w0 : World) (r : Nat) (ad : Option Addr) (nd kd : Nat) (D : List Nat) (p : Nat) (bd : Bool) (w : World) (e : Ending) (w' : World) : Prop :=
  ∃ (m p' : Nat) (bq : Bool), e = .returned (.int .i64 m) ∧ m < 268435456 ∧ w.grownBy w' (some r) ∧ Rq w0 w' r ad nd kd D p' bq ∧
    (bq = false → bd = false ∧ RwM.rdN 4 (D.drop p) = some (m, D.drop p')) ∧ (∀ q, bd = false → RwM.rdN 4 (D.drop p) = some q → bq = false)
theorem grown_draws {a b : World} {r : Option Nat} (h : a.grownBy b r) (n : Nat) : a.grownBy (b.drewN n) r := by
  have := below_drawsX (B := b.heap.size) (Below.refl b.heap.size b) n
  exact ⟨this.os.trans h.os, this.tape.trans h.tape, this.output.trans h.output, Nat.le_trans h.size this.size, fun k hk hn => (this.block k (Nat.lt_of_lt_of_le hk h.size)).trans (h.block k hk hn)⟩
set_option maxRecDepth 100000 in
set_option maxHeartbeats 3200000 in
theorem rnum_any (w0 : World) (r : Nat) (ad : Option Addr) (nd kd : Nat) (D : List Nat) (p : Nat) (bd : Bool) (hl : nd ≤ 281474976710656) (hD : Bytes D) (hr : w0.heap.size ≤ r) (w : World) (hw : Below w0.heap.size w0 w) (R : Rq w0 w r ad nd kd D p bd) :
    Calls Tryd.prog 27 #[.pointer (some ⟨r, 0, none⟩)] w (RNumU w0 r ad nd kd D p bd w) := by
  have HR : Hid (Rq w0 w r ad nd kd D p bd) := R
  have HD : Hid (Bytes D) := hD
  have hp := R.2.2.1
  clear R hD
  go_enter Tryd.func27, Tryd.ntmps27
  go_upto_region 3 with fail
  go_loopw [3, 4] (fun x i wr => ∃ k acc q : Nat, k ≤ 4 ∧ x = .int .i64 acc ∧ i = .int .i64 ((7 * k : Nat) : Int) ∧ acc < 128 ^ k ∧ q ≤ nd ∧ Hid (Rq w0 wr r ad nd kd D q bd) ∧ Hid (w.grownBy wr (some r)) ∧ Hid (RwM.rdN 4 (D.drop p) = (RwM.rdN (4 - k) (D.drop q)).map fun p => (acc + 128 ^ k * p.1, p.2))) (fun _ i _ => 28 - (intOf i).toNat)
  case atStart => exact ⟨0, 0, p, by omega, rfl, rfl, by decide, hp, HR, World.grownBy.refl _ _, by unfold Hid; simp⟩
  case round =>
    obtain ⟨k, acc, q, hk, rfl, rfl, hacc, hq, hRq, hG, hE⟩ := hrel
    obtain ⟨hB, hDl, -, hrow⟩ := hRq.out
    have HDL : Hid (D.length = nd) := hDl
    have HRW : Hid (Row w0 ad D) := hrow
    by_cases h : k < 4
    · by_cases h2 : q < nd
      · have qD : q < D.length := by rw [HDL.out]; exact h2
        rcases HRW.out with e | ⟨bb, off, rfl, hc⟩
        · rw [e] at qD; exact absurd qD (Nat.not_lt_zero _)
        have hy := bytes_at HD.out q
        have hcell := hc q qD
        have HDR : Hid (D.drop q = D.getD q 0 :: D.drop (q + 1)) := RwM.drop_cons D q qD
        have HALL : Hid (∀ W, wr.grownBy W none → Blk W r #[.slice (some ⟨bb, off, none⟩) nd kd, .int .i64 (q : Nat), .bool bd] 46 ∧ W.cell? ⟨bb, off + q, none⟩ = some (.int .u8 (D.getD q 0 : Nat)) ∧ w.grownBy W (some r)) := fun W hg => by
          have hg1 : w.grownBy W (some r) := ⟨hg.os.trans hG.out.os, hg.tape.trans hG.out.tape, hg.output.trans hG.out.output, Nat.le_trans hG.out.size hg.size, fun k hk hn => (hg.block k (Nat.lt_of_lt_of_le hk hG.out.size) (fun e => by cases e)).trans (hG.out.block k hk hn)⟩
          have hbw : Below w0.heap.size w0 W := hw.grown hg1 (by have := hw.size; omega) (fun v hv => by cases hv; exact hr)
          exact ⟨(hg.block r hB.lt (fun e => by cases e)).trans hB, (hbw.cell (p := ⟨bb, off + q, none⟩) (cell_lt hcell)).trans hcell, hg1⟩
        have c0 := hB.cell 0
        have c1 := hB.cell 1
        have iq : (q : Int) < (nd : Int) := by omega
        have HN0 : Hid (∀ n, wr.grownBy (wr.drewN n) none) := fun n => grown_draws (World.grownBy.refl wr none) n
        clear hc hcell hB hDl hrow
        obtain ⟨y, hyy⟩ : ∃ y, y = D.getD q 0 := ⟨_, rfl⟩
        rw [← hyy] at HDR HALL hy
        clear hyy
        obtain rfl | rfl | rfl | rfl : k = 0 ∨ k = 1 ∨ k = 2 ∨ k = 3 := by omega
        · go_upto_region 4 with fail
          go_quiet (fail)
          have g2 := HN0.out nq
          have A2 := HALL.out _ g2
          go_upto_region 5 with fail
          generalize wr.drewN nq = w2 at *
          obtain ⟨hB2, hC2, hG2⟩ := A2
          have d0 := hB2.cell 0
          have d1 := hB2.cell 1
          have HN2 : Hid (∀ n, wr.grownBy (w2.drewN n) none) := fun n => grown_draws g2 n
          clear hB2 hG2 g2 c0 c1
          go_quiet (fail)
          have g3 := HN2.out nq
          have A3 := HALL.out _ g3
          go_upto_region 6 with fail
          generalize w2.drewN nq = w3 at *
          obtain ⟨hB3, -, hG3⟩ := A3
          have c1 := hB3.cell 1
          have f1 := hB3.free 1
          have HB4 : Hid (Rq w0 (w3.setCell ⟨r, 1, none⟩ (.int .i64 ((q + 1 : Nat) : Int))) r (some ⟨bb, off, none⟩) nd kd D (q + 1) bd) := ⟨hB3.set 1 (.int .i64 ((q + 1 : Nat) : Int)), HDL.out, h2, HRW.out⟩
          have HG4 : Hid (w.grownBy (w3.setCell ⟨r, 1, none⟩ (.int .i64 ((q + 1 : Nat) : Int))) (some r)) := grown_trans hG3 (grown_set _ _ _ _)
          have eq1 : (q : Int) + 1 = ((q + 1 : Nat) : Int) := by omega
          clear hB3 hG3 g3 HALL HN0 HN2 hC2 d0 d1
          obtain ⟨q1, hq1⟩ : ∃ q1, q1 = q + 1 := ⟨_, rfl⟩
          rw [← hq1] at eq1 HB4 HG4 HDR
          have hq1n : q1 ≤ nd := by omega
          clear hq1
          go_upto_region 7 with fail
          generalize w3.setCell ⟨r, 1, none⟩ (.int .i64 (q1 : Int)) = w4 at *
          have hm0 : acc < 1 := hacc
          obtain ⟨m, hm⟩ : ∃ m, m = acc + 1 * (y % 128) := ⟨_, rfl⟩
          have o1 : (acc : Int) + (y : Int) % 128 = (m : Int) := by rw [hm]; omega
          have hmb : m < 128 := by omega
          have HM : Hid (m = acc + 128 ^ 0 * (y % 128)) := hm
          have HE : Hid (RwM.rdN 4 (D.drop p) = (RwM.rdN (4 - 0) (y :: D.drop q1)).map fun p => (acc + 128 ^ 0 * p.1, p.2)) := by unfold Hid; rw [hE.out, HDR.out]
          clear hm hE c1 f1
          by_cases hy2 : y < 128
          · have HF : Hid (RwM.rdN 4 (D.drop p) = some (m, D.drop q1)) := by unfold Hid; rw [HE.out, rd_last4 0 acc y _ (by decide) hy2, HM.out]
            have iy : (y : Int) < 128 := by omega
            go_wp2
            go_ret
            exact ⟨m, q1, bd, rfl, by omega, HG4.out, HB4.out, (fun h => ⟨h, HF.out⟩), fun v hv _ => hv⟩
          · have HF : Hid (RwM.rdN 4 (D.drop p) = (RwM.rdN (4 - (0 + 1)) (D.drop q1)).map fun p => (m + 128 ^ (0 + 1) * p.1, p.2)) := by unfold Hid; rw [HE.out, rd_step4 0 acc y _ (by decide) hy2, HM.out]
            have iy : ¬ (y : Int) < 128 := by omega
            go_wp2
            go_roundw
            case rel => exact ⟨0 + 1, m, q1, by decide, rfl, by go_num, hmb, hq1n, HB4, HG4, HF⟩
            case measure => simp [intOf]
        · go_upto_region 4 with fail
          go_quiet (fail)
          have g2 := HN0.out nq
          have A2 := HALL.out _ g2
          go_upto_region 5 with fail
          generalize wr.drewN nq = w2 at *
          obtain ⟨hB2, hC2, hG2⟩ := A2
          have d0 := hB2.cell 0
          have d1 := hB2.cell 1
          have HN2 : Hid (∀ n, wr.grownBy (w2.drewN n) none) := fun n => grown_draws g2 n
          clear hB2 hG2 g2 c0 c1
          go_quiet (fail)
          have g3 := HN2.out nq
          have A3 := HALL.out _ g3
          go_upto_region 6 with fail
          generalize w2.drewN nq = w3 at *
          obtain ⟨hB3, -, hG3⟩ := A3
          have c1 := hB3.cell 1
          have f1 := hB3.free 1
          have HB4 : Hid (Rq w0 (w3.setCell ⟨r, 1, none⟩ (.int .i64 ((q + 1 : Nat) : Int))) r (some ⟨bb, off, none⟩) nd kd D (q + 1) bd) := ⟨hB3.set 1 (.int .i64 ((q + 1 : Nat) : Int)), HDL.out, h2, HRW.out⟩
          have HG4 : Hid (w.grownBy (w3.setCell ⟨r, 1, none⟩ (.int .i64 ((q + 1 : Nat) : Int))) (some r)) := grown_trans hG3 (grown_set _ _ _ _)
          have eq1 : (q : Int) + 1 = ((q + 1 : Nat) : Int) := by omega
          clear hB3 hG3 g3 HALL HN0 HN2 hC2 d0 d1
          obtain ⟨q1, hq1⟩ : ∃ q1, q1 = q + 1 := ⟨_, rfl⟩
          rw [← hq1] at eq1 HB4 HG4 HDR
          have hq1n : q1 ≤ nd := by omega
          clear hq1
          go_upto_region 7 with fail
          generalize w3.setCell ⟨r, 1, none⟩ (.int .i64 (q1 : Int)) = w4 at *
          have hm0 : acc < 128 := hacc
          obtain ⟨m, hm⟩ : ∃ m, m = acc + 128 * (y % 128) := ⟨_, rfl⟩
          have o1 : (acc : Int) + (y : Int) % 128 * 128 = (m : Int) := by rw [hm]; omega
          have hmb : m < 16384 := by omega
          have HM : Hid (m = acc + 128 ^ 1 * (y % 128)) := hm
          have HE : Hid (RwM.rdN 4 (D.drop p) = (RwM.rdN (4 - 1) (y :: D.drop q1)).map fun p => (acc + 128 ^ 1 * p.1, p.2)) := by unfold Hid; rw [hE.out, HDR.out]
          clear hm hE c1 f1
          by_cases hy2 : y < 128
          · have HF : Hid (RwM.rdN 4 (D.drop p) = some (m, D.drop q1)) := by unfold Hid; rw [HE.out, rd_last4 1 acc y _ (by decide) hy2, HM.out]
            have iy : (y : Int) < 128 := by omega
            go_wp2
            go_ret
            exact ⟨m, q1, bd, rfl, by omega, HG4.out, HB4.out, (fun h => ⟨h, HF.out⟩), fun v hv _ => hv⟩
          · have HF : Hid (RwM.rdN 4 (D.drop p) = (RwM.rdN (4 - (1 + 1)) (D.drop q1)).map fun p => (m + 128 ^ (1 + 1) * p.1, p.2)) := by unfold Hid; rw [HE.out, rd_step4 1 acc y _ (by decide) hy2, HM.out]
            have iy : ¬ (y : Int) < 128 := by omega
            go_wp2
            go_roundw
            case rel => exact ⟨1 + 1, m, q1, by decide, rfl, by go_num, hmb, hq1n, HB4, HG4, HF⟩
            case measure => simp [intOf]
        · go_upto_region 4 with fail
          go_quiet (fail)
          have g2 := HN0.out nq
          have A2 := HALL.out _ g2
          go_upto_region 5 with fail
          generalize wr.drewN nq = w2 at *
          obtain ⟨hB2, hC2, hG2⟩ := A2
          have d0 := hB2.cell 0
          have d1 := hB2.cell 1
          have HN2 : Hid (∀ n, wr.grownBy (w2.drewN n) none) := fun n => grown_draws g2 n
          clear hB2 hG2 g2 c0 c1
          go_quiet (fail)
          have g3 := HN2.out nq
          have A3 := HALL.out _ g3
          go_upto_region 6 with fail
          generalize w2.drewN nq = w3 at *
          obtain ⟨hB3, -, hG3⟩ := A3
          have c1 := hB3.cell 1
          have f1 := hB3.free 1
          have HB4 : Hid (Rq w0 (w3.setCell ⟨r, 1, none⟩ (.int .i64 ((q + 1 : Nat) : Int))) r (some ⟨bb, off, none⟩) nd kd D (q + 1) bd) := ⟨hB3.set 1 (.int .i64 ((q + 1 : Nat) : Int)), HDL.out, h2, HRW.out⟩
          have HG4 : Hid (w.grownBy (w3.setCell ⟨r, 1, none⟩ (.int .i64 ((q + 1 : Nat) : Int))) (some r)) := grown_trans hG3 (grown_set _ _ _ _)
          have eq1 : (q : Int) + 1 = ((q + 1 : Nat) : Int) := by omega
          clear hB3 hG3 g3 HALL HN0 HN2 hC2 d0 d1
          obtain ⟨q1, hq1⟩ : ∃ q1, q1 = q + 1 := ⟨_, rfl⟩
          rw [← hq1] at eq1 HB4 HG4 HDR
          have hq1n : q1 ≤ nd := by omega
          clear hq1
          go_upto_region 7 with fail
          generalize w3.setCell ⟨r, 1, none⟩ (.int .i64 (q1 : Int)) = w4 at *
          have hm0 : acc < 16384 := hacc
          obtain ⟨m, hm⟩ : ∃ m, m = acc + 16384 * (y % 128) := ⟨_, rfl⟩
          have o1 : (acc : Int) + (y : Int) % 128 * 16384 = (m : Int) := by rw [hm]; omega
          have hmb : m < 2097152 := by omega
          have HM : Hid (m = acc + 128 ^ 2 * (y % 128)) := hm
          have HE : Hid (RwM.rdN 4 (D.drop p) = (RwM.rdN (4 - 2) (y :: D.drop q1)).map fun p => (acc + 128 ^ 2 * p.1, p.2)) := by unfold Hid; rw [hE.out, HDR.out]
          clear hm hE c1 f1
          by_cases hy2 : y < 128
          · have HF : Hid (RwM.rdN 4 (D.drop p) = some (m, D.drop q1)) := by unfold Hid; rw [HE.out, rd_last4 2 acc y _ (by decide) hy2, HM.out]
            have iy : (y : Int) < 128 := by omega
            go_wp2
            go_ret
            exact ⟨m, q1, bd, rfl, by omega, HG4.out, HB4.out, (fun h => ⟨h, HF.out⟩), fun v hv _ => hv⟩
          · have HF : Hid (RwM.rdN 4 (D.drop p) = (RwM.rdN (4 - (2 + 1)) (D.drop q1)).map fun p => (m + 128 ^ (2 + 1) * p.1, p.2)) := by unfold Hid; rw [HE.out, rd_step4 2 acc y _ (by decide) hy2, HM.out]
            have iy : ¬ (y : Int) < 128 := by omega
            go_wp2
            go_roundw
            case rel => exact ⟨2 + 1, m, q1, by decide, rfl, by go_num, hmb, hq1n, HB4, HG4, HF⟩
            case measure => simp [intOf]
        · go_upto_region 4 with fail
          go_quiet (fail)
          have g2 := HN0.out nq
          have A2 := HALL.out _ g2
          go_upto_region 5 with fail
          generalize wr.drewN nq = w2 at *
          obtain ⟨hB2, hC2, hG2⟩ := A2
          have d0 := hB2.cell 0
          have d1 := hB2.cell 1
          have HN2 : Hid (∀ n, wr.grownBy (w2.drewN n) none) := fun n => grown_draws g2 n
          clear hB2 hG2 g2 c0 c1
          go_quiet (fail)
          have g3 := HN2.out nq
          have A3 := HALL.out _ g3
          go_upto_region 6 with fail
          generalize w2.drewN nq = w3 at *
          obtain ⟨hB3, -, hG3⟩ := A3
          have c1 := hB3.cell 1
          have f1 := hB3.free 1
          have HB4 : Hid (Rq w0 (w3.setCell ⟨r, 1, none⟩ (.int .i64 ((q + 1 : Nat) : Int))) r (some ⟨bb, off, none⟩) nd kd D (q + 1) bd) := ⟨hB3.set 1 (.int .i64 ((q + 1 : Nat) : Int)), HDL.out, h2, HRW.out⟩
          have HG4 : Hid (w.grownBy (w3.setCell ⟨r, 1, none⟩ (.int .i64 ((q + 1 : Nat) : Int))) (some r)) := grown_trans hG3 (grown_set _ _ _ _)
          have eq1 : (q : Int) + 1 = ((q + 1 : Nat) : Int) := by omega
          clear hB3 hG3 g3 HALL HN0 HN2 hC2 d0 d1
          obtain ⟨q1, hq1⟩ : ∃ q1, q1 = q + 1 := ⟨_, rfl⟩
          rw [← hq1] at eq1 HB4 HG4 HDR
          have hq1n : q1 ≤ nd := by omega
          clear hq1
          go_upto_region 7 with fail
          generalize w3.setCell ⟨r, 1, none⟩ (.int .i64 (q1 : Int)) = w4 at *
          have hm0 : acc < 2097152 := hacc
          obtain ⟨m, hm⟩ : ∃ m, m = acc + 2097152 * (y % 128) := ⟨_, rfl⟩
          have o1 : (acc : Int) + (y : Int) % 128 * 2097152 = (m : Int) := by rw [hm]; omega
          have hmb : m < 268435456 := by omega
          have HM : Hid (m = acc + 128 ^ 3 * (y % 128)) := hm
          have HE : Hid (RwM.rdN 4 (D.drop p) = (RwM.rdN (4 - 3) (y :: D.drop q1)).map fun p => (acc + 128 ^ 3 * p.1, p.2)) := by unfold Hid; rw [hE.out, HDR.out]
          clear hm hE c1 f1
          by_cases hy2 : y < 128
          · have HF : Hid (RwM.rdN 4 (D.drop p) = some (m, D.drop q1)) := by unfold Hid; rw [HE.out, rd_last4 3 acc y _ (by decide) hy2, HM.out]
            have iy : (y : Int) < 128 := by omega
            go_wp2
            go_ret
            exact ⟨m, q1, bd, rfl, by omega, HG4.out, HB4.out, (fun h => ⟨h, HF.out⟩), fun v hv _ => hv⟩
          · have HF : Hid (RwM.rdN 4 (D.drop p) = (RwM.rdN (4 - (3 + 1)) (D.drop q1)).map fun p => (m + 128 ^ (3 + 1) * p.1, p.2)) := by unfold Hid; rw [HE.out, rd_step4 3 acc y _ (by decide) hy2, HM.out]
            have iy : ¬ (y : Int) < 128 := by omega
            go_wp2
            go_roundw
            case rel => exact ⟨3 + 1, m, q1, by decide, rfl, by go_num, hmb, hq1n, HB4, HG4, HF⟩
            case measure => simp [intOf]
      · obtain rfl : q = nd := by omega
        have c0 := hB.cell 0
        have c1 := hB.cell 1
        have HB2 : Hid (∀ n, Blk (wr.drewN n) r #[.slice ad q kd, .int .i64 (q : Nat), .bool bd] 46) := fun n => hB.below hB.lt (below_drawsX (Below.refl _ _) n)
        have HGN : Hid (∀ n, w.grownBy (wr.drewN n) (some r)) := fun n => grown_draws hG.out n
        have HF : Hid (RwM.rdN 4 (D.drop p) = none) := by
          unfold Hid
          rw [hE.out, List.drop_eq_nil_of_le (by rw [HDL.out]; exact Nat.le_refl _)]
          obtain rfl | rfl | rfl | rfl : k = 0 ∨ k = 1 ∨ k = 2 ∨ k = 3 := by omega
          all_goals rfl
        have ik : (7 : Int) * (k : Int) < 28 := by omega
        have ik2 : ((7 * k : Nat) : Int) < 28 := by omega
        have hw9 : (q : Int) ≤ (q : Int) := Int.le_refl _
        clear hB hDl hrow
        go_upto_region 4 with fail
        go_quiet (fail)
        have hB2 := HB2.out nq
        have hG2 := HGN.out nq
        go_upto_region 11 with fail
        generalize wr.drewN nq = w2 at *
        have c2 := hB2.cell 2
        have f2 := hB2.free 2
        have HR1 : Hid (Rq w0 (w2.setCell ⟨r, 2, none⟩ (.bool true)) r ad q kd D q true) := ⟨hB2.set 2 (.bool true), HDL.out, Nat.le_refl _, HRW.out⟩
        have HG1 : Hid (w.grownBy (w2.setCell ⟨r, 2, none⟩ (.bool true)) (some r)) := grown_trans hG2 (grown_set _ _ _ _)
        clear hB2 hG2 c0 c1 HB2 HGN
        go_wp2
        go_ret
        exact ⟨0, q, true, rfl, by decide, HG1.out, HR1.out, (fun h => absurd h (by decide)), fun v hv h2 => by rw [HF.out] at h2; cases h2⟩
    · obtain rfl : k = 4 := by omega
      have c2 := hB.cell 2
      have f2 := hB.free 2
      have HR1 : Hid (Rq w0 (wr.setCell ⟨r, 2, none⟩ (.bool true)) r ad nd kd D q true) := ⟨hB.set 2 (.bool true), HDL.out, hq, HRW.out⟩
      have HG1 : Hid (w.grownBy (wr.setCell ⟨r, 2, none⟩ (.bool true)) (some r)) := grown_trans hG.out (grown_set _ _ _ _)
      have HF : Hid (RwM.rdN 4 (D.drop p) = none) := by unfold Hid; rw [hE.out]; rfl
      clear hB hDl hrow
      go_wp2
      go_ret
      exact ⟨0, q, true, rfl, by decide, HG1.out, HR1.out, (fun h => absurd h (by decide)), fun v hv h2 => by rw [HF.out] at h2; cases h2⟩
end Go.Proofs.YtbgikffoidaamaaDoor
