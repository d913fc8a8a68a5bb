/-
  The law IsaDecodes by what both Decode and both Flags answer; conditions: the tables lie in their variables.
-/
import Derived.Test.YtlpdbdhghfnakabDoorIRCyc
import Derived.Test.YtlpdbdhghfnakabDoorIShape
import Derived.Test.YtlpdbdhghfnakabDoorIEq
import Derived.Test.YtlpdbdhghfnakabDoorAFlgN
set_option linter.unusedSimpArgs false
set_option linter.unusedVariables false
namespace Go.Proofs.YtlpdbdhghfnakabDoor
open Go.RowKit
theorem rcycles_any (k : Nat) (hk : k < 256) (cr tk : Bool) (w : World) (T : LTab w) :
    Calls Tryd.prog 18 #[.int .u8 (k : Nat), .bool cr, .bool tk] w fun e w' => e = .returned (.int .i64 ((shQ k cr tk).length : Nat)) ∧ Below w.heap.size w w' := by
  have SC := Hid.mk2 (rshape_any k hk cr tk w T)
  have hp := (shp_length k hk cr tk).2
  have hq := (shp_length k hk cr tk).1
  generalize shQ k cr tk = l at *
  go_enter Tryd.func18, Tryd.ntmps18
  go_wp2_with (go_at_call 44; go_must (refine SC.out.mono ?_; rintro e w1 ⟨v, rfl, own, hb1⟩; obtain ⟨g, cap, rfl, -⟩ := own.form (by omega)))
  go_ret
  exact ⟨rfl, hb1⟩
set_option maxRecDepth 100000 in
theorem rdecode_any (k : Nat) (hk : k < 256) (w : World) (T : LTab w) :
    Calls Tryd.prog 6 #[.int .u8 (k : Nat)] w fun e w' => e = .returned (.agg #[.int .i64 (opN k : Nat), .int .i64 (mdN k : Nat), .int .i64 (kdN k : Nat), .int .i64 (lnN k : Nat), .int .i64 ((shQ k false false).length : Nat), .int .i64 (clN k : Nat)]) ∧ Below w.heap.size w w' := by
  have hq := (shp_length k hk false false).1
  have RC := Hid.mk2 (fun W (hW : Below w.heap.size w W) => rrow_agg k hk W (T.below hW))
  have CC := Hid.mk2 (fun W (hW : Below w.heap.size w W) => rcycles_any k hk false false W (T.below hW))
  clear T
  generalize (shQ k false false).length = n at *
  have hbA : ∀ o, Below w.heap.size w (w.alloc o) := fun o => (Below.refl _ _).alloc (Nat.le_refl _) _
  go_enter Tryd.func6, Tryd.ntmps6
  go_upto_region 2 with (go_at_call 17; go_must (refine (RC.out _ (hbA _)).mono ?_; rintro e w1 ⟨rfl, hb1⟩))
  have hs1 := hb1.size
  simp only [World.size_alloc] at hs1
  have z1 : Blk w1 w.heap.size Zi6 26 := (Blk.new w Zi6 26).below (by simp) hb1
  have hb1' : Below w.heap.size w w1 := (hbA _).trans (hb1.mono (by simp))
  have iB : Blk (w1.alloc (.cells (InstA k) 26)) w1.heap.size (InstA k) 26 := Blk.new w1 _ _
  have z2 : Blk (w1.alloc (.cells (InstA k) 26)) w.heap.size Zi6 26 := z1.old _
  have hb2 : Below w.heap.size w (w1.alloc (.cells (InstA k) 26)) := hb1'.alloc (by omega) _
  change Code.wp _ _ _ _ (w1.alloc (.cells (InstA k) 26))
  generalize (w1.alloc (.cells (InstA k) 26)) = W at *
  have hr : w.heap.size < w1.heap.size := by omega
  generalize w1.heap.size = r at *
  clear hb1 hb1' z1 hs1 hbA
  go_upto_region 3 with (go_at_call 18; go_must (refine (CC.out _ hb2).mono ?_; rintro e w3 ⟨rfl, hb3⟩; have iB3 := iB.below iB.lt hb3; have ic3 := iB3.cell; have if3 := iB3.free))
  have z3 := z2.below z2.lt hb3
  have hb4 := (hb2.trans (hb3.mono hb2.size)).setCell (p := ⟨r, 4, none⟩) (Nat.le_of_lt hr) (.int .i64 (n : Nat))
  have iB4 : Blk (w3.setCell ⟨r, 4, none⟩ (.int .i64 (n : Nat))) r #[.int .i64 (opN k : Nat), .int .i64 (mdN k : Nat), .int .i64 (kdN k : Nat), .int .i64 (lnN k : Nat), .int .i64 (n : Nat), .int .i64 (clN k : Nat)] 26 := iB3.set 4 (.int .i64 (n : Nat))
  have z4 := z3.other (m := r) (by omega) 4 (.int .i64 (n : Nat))
  clear ic3 if3 iB3 z3 hb3 iB z2 hb2 CC RC
  generalize (w3.setCell ⟨r, 4, none⟩ (.int .i64 (n : Nat))) = W4 at *
  have ic4 := iB4.cell
  go_wp2_with (refine wpList_store_blk rfl 26 _ _ rfl w.heap.size Zi6 #[.int .i64 (opN k : Nat), .int .i64 (mdN k : Nat), .int .i64 (kdN k : Nat), .int .i64 (lnN k : Nat), .int .i64 (n : Nat), .int .i64 (clN k : Nat)] 26 rfl rfl z4 rfl (by kernel_rfl) (by kernel_rfl) w.heap.size w (Nat.le_refl _) hb4 ?_; intro w5 z5 hb5 _; have c5 := z5.cell)
  exact bodyPost_ret (v := .agg #[.int .i64 (opN k : Nat), .int .i64 (mdN k : Nat), .int .i64 (kdN k : Nat), .int .i64 (lnN k : Nat), .int .i64 (n : Nat), .int .i64 (clN k : Nat)]) (by simp [results, Tryd.results6, go_sem, c5]) rfl ⟨rfl, hb5⟩
theorem flags_any (k : Nat) (hk : k < 256) (w : World) (T : Tabs w) :
    Calls Tryd.prog 7 #[.int .u8 (k : Nat)] w fun e w' => e = .returned (.tuple #[.int .u8 (nd (opN k : Nat)), .int .u8 (st (opN k : Nat))]) ∧ w' = w := by
  have TT := Hid.mk2 T
  clear T
  go_enter Tryd.func7, Tryd.ntmps7
  go_wp2_with (first
    | (go_at_call 19; go_must (refine (opOf_any k hk _).mono ?_; rintro e w1 ⟨rfl, hw1⟩; obtain rfl := hw1.symm))
    | (go_at_call 20; go_must (refine (needs_any _ _ TT.out).mono ?_; rintro e w1 ⟨rfl, hw1⟩; obtain rfl := hw1.symm))
    | (go_at_call 21; go_must (refine (sets_any _ _ TT.out.s).mono ?_; rintro e w1 ⟨rfl, hw1⟩; obtain rfl := hw1.symm)))
  go_ret2
  exact ⟨rfl, rfl⟩
theorem rflags_any (k : Nat) (hk : k < 256) (w : World) (T : LTab w) :
    Calls Tryd.prog 8 #[.int .u8 (k : Nat)] w fun e w' => e = .returned (.tuple #[.int .u8 (nd (opN k : Nat)), .int .u8 (st (opN k : Nat))]) ∧ Below w.heap.size w w' := by
  have RC := Hid.mk2 (rrow_agg k hk w T)
  clear T
  go_enter Tryd.func8, Tryd.ntmps8
  go_wp2_with (first
    | (go_at_call 17; go_must (refine RC.out.mono ?_; rintro e w1 ⟨rfl, hb1⟩))
    | (go_at_call 22; go_must (refine (rneeds_any _ _).mono ?_; rintro e w2 ⟨rfl, hw2⟩; obtain rfl := hw2.symm))
    | (go_at_call 23; go_must (refine (rsets_any _ _).mono ?_; rintro e w2 ⟨rfl, hw2⟩; obtain rfl := hw2.symm)))
  go_ret2
  exact ⟨rfl, hb1.alloc hb1.size _⟩
theorem eqInst0 (w : World) (a0 a1 a2 a3 a4 a5 : Int) :
    (Op.equalIn 10000 26 (.agg #[.int .i64 a0, .int .i64 a1, .int .i64 a2, .int .i64 a3, .int .i64 a4, .int .i64 a5]) (.agg #[.int .i64 a0, .int .i64 a1, .int .i64 a2, .int .i64 a3, .int .i64 a4, .int .i64 a5])).run Tryd.prog w = .ok ((a0 == a0) && ((a1 == a1) && ((a2 == a2) && ((a3 == a3) && ((a4 == a4) && ((a5 == a5) && true)))))) w := by
  have h1 := fun (a b : Int) => run_equalIn_int (P := Tryd.prog) w 9998 22 .i64 .i64 a b Tryd.underlying22
  have h2 := fun (a b : Int) => run_equalIn_int (P := Tryd.prog) w 9998 23 .i64 .i64 a b Tryd.underlying23
  have h3 := fun (a b : Int) => run_equalIn_int (P := Tryd.prog) w 9998 24 .i64 .i64 a b Tryd.underlying24
  have h4 := fun (a b : Int) => run_equalIn_int (P := Tryd.prog) w 9998 3 .i64 .i64 a b Tryd.underlying3
  rw [run_equalIn_struct w 9999 26 _ _ (by kernel_rfl) (by kernel_rfl)]
  simp only [Program.fieldsOf, Tryd.underlying26]
  refine eqFields_step w (by simp) (by kernel_rfl) (by kernel_rfl) (h1 _ _) ?_
  refine eqFields_step w (by simp) (by kernel_rfl) (by kernel_rfl) (h2 _ _) ?_
  refine eqFields_step w (by simp) (by kernel_rfl) (by kernel_rfl) (h3 _ _) ?_
  refine eqFields_step w (by simp) (by kernel_rfl) (by kernel_rfl) (h4 _ _) ?_
  refine eqFields_step w (by simp) (by kernel_rfl) (by kernel_rfl) (h4 _ _) ?_
  refine eqFields_step w (by simp) (by kernel_rfl) (by kernel_rfl) (h4 _ _) ?_
  rfl
theorem eqInst (w : World) (a0 a1 a2 a3 a4 a5 : Int) :
    (binOp .eql 26 (.agg #[.int .i64 a0, .int .i64 a1, .int .i64 a2, .int .i64 a3, .int .i64 a4, .int .i64 a5]) (.agg #[.int .i64 a0, .int .i64 a1, .int .i64 a2, .int .i64 a3, .int .i64 a4, .int .i64 a5])).run Tryd.prog w = .ok (.bool true) w := by
  rw [run_eql_struct, eqInst0]
  simp [Result.andThen]
theorem decode_n (k : Nat) (hk : k < 256) (w : World) :
    Calls Tryd.prog 5 #[.int .u8 (k : Nat)] w fun e w' => e = .returned (.agg #[.int .i64 (opN k : Nat), .int .i64 (mdN k : Nat), .int .i64 (kdN k : Nat), .int .i64 (lnN k : Nat), .int .i64 ((shQ k false false).length : Nat), .int .i64 (clN k : Nat)]) ∧ Below w.heap.size w w' := decode_any k hk w
set_option maxRecDepth 100000 in
set_option maxHeartbeats 1000000 in
theorem law_isaDecodes (k : Nat) (hk : k < 256) (w : World) (T : Tabs w ∧ LTab w) :
    Calls Tryd.prog 3 #[.int .u8 (k : Nat)] w fun e w' => e = .returned (.bool true) ∧ Below w.heap.size w w' := by
  have D1 := Hid.mk2 (fun W => decode_n k hk W)
  have D2 := Hid.mk2 (fun W (hW : Below w.heap.size w W) => rdecode_any k hk W (T.2.below hW))
  have F1 := Hid.mk2 (fun W (hW : Below w.heap.size w W) => flags_any k hk W (T.1.on hW))
  have F2 := Hid.mk2 (fun W (hW : Below w.heap.size w W) => rflags_any k hk W (T.2.below hW))
  clear T
  have hn := (shp_length k hk false false).1
  have heq := eqInst
  generalize (shQ k false false).length = n at *
  generalize nd (opN k : Nat) = x at *
  generalize st (opN k : Nat) = y at *
  go_enter Tryd.func3, Tryd.ntmps3
  go_upto_region 2 with (go_at_call 5; go_must (refine (D1.out _).mono ?_; rintro e w1 ⟨rfl, hb1⟩))
  have A1 : Blk (w1.alloc (.cells #[.int .i64 (opN k : Nat), .int .i64 (mdN k : Nat), .int .i64 (kdN k : Nat), .int .i64 (lnN k : Nat), .int .i64 (n : Nat), .int .i64 (clN k : Nat)] 26)) w1.heap.size #[.int .i64 (opN k : Nat), .int .i64 (mdN k : Nat), .int .i64 (kdN k : Nat), .int .i64 (lnN k : Nat), .int .i64 (n : Nat), .int .i64 (clN k : Nat)] 26 := Blk.new w1 _ _
  have hA1 : Below w.heap.size w (w1.alloc (.cells #[.int .i64 (opN k : Nat), .int .i64 (mdN k : Nat), .int .i64 (kdN k : Nat), .int .i64 (lnN k : Nat), .int .i64 (n : Nat), .int .i64 (clN k : Nat)] 26)) := hb1.alloc hb1.size _
  change Code.wp _ _ _ _ (w1.alloc (.cells #[.int .i64 (opN k : Nat), .int .i64 (mdN k : Nat), .int .i64 (kdN k : Nat), .int .i64 (lnN k : Nat), .int .i64 (n : Nat), .int .i64 (clN k : Nat)] 26))
  generalize (w1.alloc (.cells #[.int .i64 (opN k : Nat), .int .i64 (mdN k : Nat), .int .i64 (kdN k : Nat), .int .i64 (lnN k : Nat), .int .i64 (n : Nat), .int .i64 (clN k : Nat)] 26)) = W1 at *
  generalize w1.heap.size = b1 at *
  clear hb1
  go_upto_region 3 with (go_at_call 6; go_must (refine (D2.out _ hA1).mono ?_; rintro e w2 ⟨rfl, hb2⟩))
  have A2 : Blk (w2.alloc (.cells #[.int .i64 (opN k : Nat), .int .i64 (mdN k : Nat), .int .i64 (kdN k : Nat), .int .i64 (lnN k : Nat), .int .i64 (n : Nat), .int .i64 (clN k : Nat)] 26)) w2.heap.size #[.int .i64 (opN k : Nat), .int .i64 (mdN k : Nat), .int .i64 (kdN k : Nat), .int .i64 (lnN k : Nat), .int .i64 (n : Nat), .int .i64 (clN k : Nat)] 26 := Blk.new w2 _ _
  have B2 := (A1.below A1.lt hb2).old (.cells #[.int .i64 (opN k : Nat), .int .i64 (mdN k : Nat), .int .i64 (kdN k : Nat), .int .i64 (lnN k : Nat), .int .i64 (n : Nat), .int .i64 (clN k : Nat)] 26)
  have hA2 : Below w.heap.size w (w2.alloc (.cells #[.int .i64 (opN k : Nat), .int .i64 (mdN k : Nat), .int .i64 (kdN k : Nat), .int .i64 (lnN k : Nat), .int .i64 (n : Nat), .int .i64 (clN k : Nat)] 26)) := (hA1.trans (hb2.mono hA1.size)).alloc (Nat.le_trans hA1.size hb2.size) _
  change Code.wp _ _ _ _ (w2.alloc (.cells #[.int .i64 (opN k : Nat), .int .i64 (mdN k : Nat), .int .i64 (kdN k : Nat), .int .i64 (lnN k : Nat), .int .i64 (n : Nat), .int .i64 (clN k : Nat)] 26))
  generalize (w2.alloc (.cells #[.int .i64 (opN k : Nat), .int .i64 (mdN k : Nat), .int .i64 (kdN k : Nat), .int .i64 (lnN k : Nat), .int .i64 (n : Nat), .int .i64 (clN k : Nat)] 26)) = W2 at *
  generalize w2.heap.size = b2 at *
  clear hb2 A1 hA1
  go_upto_region 5 with (first
    | (go_at_call 7; go_must (refine (F1.out _ hA2).mono ?_; rintro e w3 ⟨rfl, hw3⟩; obtain rfl := hw3.symm))
    | (go_at_call 8; go_must (refine (F2.out _ hA2).mono ?_; rintro e w4 ⟨rfl, hb4⟩)))
  have c1 := (B2.below B2.lt hb4).cell
  have c2 := (A2.below A2.lt hb4).cell
  have hB4 := hA2.trans (hb4.mono hA2.size)
  clear A2 B2 hA2 hb4
  go_wp2
  go_ret
  exact ⟨rfl, hB4⟩
end Go.Proofs.YtlpdbdhghfnakabDoor
