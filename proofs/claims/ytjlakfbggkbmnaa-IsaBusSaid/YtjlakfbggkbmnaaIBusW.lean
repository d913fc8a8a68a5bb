/-
  The law IsaBus by what Decode and Shape answer.
-/
import Derived.Test.YtjlakfbggkbmnaaIBus1
set_option linter.unusedSimpArgs false
set_option linter.unusedVariables false
namespace Go.Proofs.Ytjlakfbggkbmnaa
open Go.RowKit
set_option maxRecDepth 100000 in
set_option maxHeartbeats 4000000 in
theorem bus_walk (k : Nat) (hk : k < 256) (o md kd ln cl : Nat) (l x t y : List Nat) (B : BusF o md kd ln l x t y) (bl : 1 ≤ l.length ∧ l.length ≤ 8) (bx : 1 ≤ x.length ∧ x.length ≤ 8) (bt : 1 ≤ t.length ∧ t.length ≤ 8) (by' : 1 ≤ y.length ∧ y.length ≤ 8)
    (D : ∀ W, Calls Try.prog 4 #[.int .u8 (k : Nat)] W fun e w' => e = .returned (.agg #[.int .i64 (o : Nat), .int .i64 (md : Nat), .int .i64 (kd : Nat), .int .i64 (ln : Nat), .int .i64 (l.length : Nat), .int .i64 (cl : Nat)]) ∧ Below W.heap.size W w')
    (S1 : ∀ W, Calls Try.prog 5 #[.int .u8 (k : Nat), .bool false, .bool false] W fun e w' => ∃ v, e = .returned v ∧ Acs w' W.heap.size v l ∧ Below W.heap.size W w')
    (S2 : ∀ W, Calls Try.prog 5 #[.int .u8 (k : Nat), .bool true, .bool false] W fun e w' => ∃ v, e = .returned v ∧ Acs w' W.heap.size v x ∧ Below W.heap.size W w')
    (S3 : ∀ W, Calls Try.prog 5 #[.int .u8 (k : Nat), .bool false, .bool true] W fun e w' => ∃ v, e = .returned v ∧ Acs w' W.heap.size v t ∧ Below W.heap.size W w')
    (S4 : ∀ W, Calls Try.prog 5 #[.int .u8 (k : Nat), .bool true, .bool true] W fun e w' => ∃ v, e = .returned v ∧ Acs w' W.heap.size v y ∧ Below W.heap.size W w') (w : World) :
    Calls Try.prog 3 #[.int .u8 (k : Nat)] w fun e w' => e = .returned (.bool true) ∧ Below w.heap.size w w' := by
  have HD := Hid.mk3 D
  have Sl := Hid.mk3 S1
  have Sx := Hid.mk3 S2
  have St := Hid.mk3 S3
  have Sy := Hid.mk3 S4
  have HB := Hid.mk3 B
  obtain ⟨bl1, bl8⟩ := bl
  obtain ⟨bx1, bx8⟩ := bx
  obtain ⟨bt1, bt8⟩ := bt
  obtain ⟨by1, by8⟩ := by'
  have b1 := B.ln1
  have b3 := B.ln3
  clear D S1 S2 S3 S4 B
  go_enter Try.func3, Try.ntmps3
  go_upto_region 2 with (go_at_call 4; go_must (refine (HD.out _).mono ?_; rintro e w1 ⟨rfl, hb1⟩))
  have iB : Blk (w1.alloc (.cells #[.int .i64 (o : Nat), .int .i64 (md : Nat), .int .i64 (kd : Nat), .int .i64 (ln : Nat), .int .i64 (l.length : Nat), .int .i64 (cl : Nat)] 26)) w1.heap.size #[.int .i64 (o : Nat), .int .i64 (md : Nat), .int .i64 (kd : Nat), .int .i64 (ln : Nat), .int .i64 (l.length : Nat), .int .i64 (cl : Nat)] 26 := Blk.new w1 _ _
  have hB1 : Below w.heap.size w (w1.alloc (.cells #[.int .i64 (o : Nat), .int .i64 (md : Nat), .int .i64 (kd : Nat), .int .i64 (ln : Nat), .int .i64 (l.length : Nat), .int .i64 (cl : Nat)] 26)) := hb1.alloc hb1.size _
  change Code.wp _ _ _ _ (w1.alloc (.cells #[.int .i64 (o : Nat), .int .i64 (md : Nat), .int .i64 (kd : Nat), .int .i64 (ln : Nat), .int .i64 (l.length : Nat), .int .i64 (cl : Nat)] 26))
  generalize (w1.alloc (.cells #[.int .i64 (o : Nat), .int .i64 (md : Nat), .int .i64 (kd : Nat), .int .i64 (ln : Nat), .int .i64 (l.length : Nat), .int .i64 (cl : Nat)] 26)) = W1 at *
  generalize w1.heap.size = b at *
  clear hb1 HD
  go_upto_region 3 with (go_at_call 5; go_must (refine (Sl.out _).mono ?_; rintro e w2 ⟨vl, rfl, ownl, hbl⟩; obtain ⟨gl, cpl, rfl, hgl, hll, hcl, ql, -⟩ := ownl.form (by omega)))
  have iB2 := iB.below iB.lt hbl
  have hB2 := hB1.trans (hbl.mono hB1.size)
  have CL2 : Cel w2 gl l := ql
  clear iB hB1 hbl ownl ql Sl
  go_upto_region 4 with (go_at_call 5; go_must (refine (Sx.out _).mono ?_; rintro e w3 ⟨vx, rfl, ownx, hbx⟩; obtain ⟨gx, cpx, rfl, hgx, hlx, hcx, qx, -⟩ := ownx.form (by omega)))
  have iB3 := iB2.below iB2.lt hbx
  have hB3 := hB2.trans (hbx.mono hB2.size)
  have CL3 := CL2.belowB hll hbx
  have hs3 := hbx.size
  clear iB2 hB2 hbx ownx qx Sx CL2
  go_upto_region 5 with (go_at_call 5; go_must (refine (St.out _).mono ?_; rintro e w4 ⟨vt, rfl, ownt, hbt⟩; obtain ⟨gt, cpt, rfl, hgt, hlt, hct, qt, -⟩ := ownt.form (by omega)))
  have iB4 := iB3.below iB3.lt hbt
  have hB4 := hB3.trans (hbt.mono hB3.size)
  have CL4 := CL3.belowB (by omega) hbt
  have hs4 := hbt.size
  clear iB3 hB3 hbt ownt qt St CL3
  go_upto_region 6 with (go_at_call 5; go_must (refine (Sy.out _).mono ?_; rintro e w5 ⟨vy, rfl, owny, hby⟩; obtain ⟨gy, cpy, rfl, hgy, hly, hcy, qy, -⟩ := owny.form (by omega)))
  have iB5 := iB4.below iB4.lt hby
  have hB5 := hB4.trans (hby.mono hB4.size)
  have CL := CL4.belowB (by omega) hby
  have CY : Cel w5 gy y := qy
  clear iB4 hB4 hby owny qy Sy CL4
  have ic := iB5.cell
  have l0 : w5.cell? ⟨gl, 0, none⟩ = some (.int .i64 0) := by have := CL 0 (by omega); rw [HB.out.h0] at this; exact this
  have C0 := Hid.mk3 (count_lit y (by omega) gy cpy 0 0 rfl w5 CY)
  rw [HB.out.c0] at C0
  have HF := HB.out
  have HCL := Hid.mk3 CL
  have HCY := Hid.mk3 CY
  have HHF := Hid.mk3 HF
  clear CL CY HF HB
  obtain ⟨nl, hnl⟩ : ∃ n, n = l.length := ⟨_, rfl⟩
  obtain ⟨nx, hnx⟩ : ∃ n, n = x.length := ⟨_, rfl⟩
  obtain ⟨nt, hnt⟩ : ∃ n, n = t.length := ⟨_, rfl⟩
  obtain ⟨ny, hny⟩ : ∃ n, n = y.length := ⟨_, rfl⟩
  rw [← hny] at C0 by1 by8
  rw [← hnl] at ic bl1 bl8
  rw [← hnx] at bx8
  rw [← hnt] at bt8
  rw [← hnl, ← hnx, ← hnt, ← hny]
  have tl0 : ((nl : Int) == 0) = false := by rw [beq_eq_false_iff_ne]; omega
  have HQ := Hid.mk3 (And.intro hny (And.intro hnl (And.intro hnx hnt)))
  clear hny hnl hnx hnt
  go_upto_region 8 with (go_at_call 6; go_must (refine C0.out.mono ?_; rintro e w6 ⟨rfl, hw6⟩; obtain rfl := hw6.symm))
  exact bus1 k o md kd ln cl nl nx nt ny b gl gx gt gy cpl cpx cpt cpy w w5 ic hB5 bl1 bl8 bx8 bt8 by1 by8 b1 b3 l x t y HCL.out HCY.out HQ.out.1.symm HQ.out.2.1.symm HQ.out.2.2.1.symm HQ.out.2.2.2.symm HHF.out _ _ _ _ _ _ _ _ _ _ _ _ _ _ _ _ _ _ _ _ _ _ _ _ _ _ _ _ _ _ _ _ _ _ _ _ _ _ _ _ _ _ _ _ _ _ _ _ _ _ _ _ _ _ _ _ _ _ _ _ _ _ _ _ _ _ _ _ _ _ _ _ _ _ _ _ _ _ _ _ _ _ _ _ _ _ _ _ _ _ _ _ _ _ _ _ _ _ _ _ _ _ _ _ _ _ _ _ _ _ _ _ _ _ _ _ _ _ _ _ _ _ _ _ _ _ _ _ _ _ _ _ _ _ _ _ _ _ _ _ _ _ _ _ _ _ _ _ _ _ _ _ _ _ _ _ _ _ _ _ _ _ _ _ _ _ _ _ _ _ _ _ _ _ _ _ _ _ _ _ _ _ _ _ _ _ _ _ _ _ _ _ _ _ _ _ _ _ _ _ _ _ _ _ _ _ _ _ _ _ _ _ _ _ _ _ _ _ _ _ _ _ _ _ _ _ _ _ _ _ _ _ _ _ _ _ _ _ _ _ _ _ _ _ (by assumption)
theorem law_isaBus (k : Nat) (hk : k < 256) (w : World) :
    Calls Try.prog 3 #[.int .u8 (k : Nat)] w fun e w' => e = .returned (.bool true) ∧ Below w.heap.size w w' :=
  have q := fun a b => (shp_length k hk a b)
  bus_walk k hk _ _ _ _ _ _ _ _ _ (busF k hk) ⟨(q _ _).2, (q _ _).1⟩ ⟨(q _ _).2, (q _ _).1⟩ ⟨(q _ _).2, (q _ _).1⟩ ⟨(q _ _).2, (q _ _).1⟩ (fun W => decode_any k hk W) (fun W => shape_any k hk _ _ W) (fun W => shape_any k hk _ _ W) (fun W => shape_any k hk _ _ W) (fun W => shape_any k hk _ _ W) w
end Go.Proofs.Ytjlakfbggkbmnaa
