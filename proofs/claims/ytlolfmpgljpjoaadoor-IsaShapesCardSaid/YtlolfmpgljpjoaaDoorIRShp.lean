/-
  What Shape and Cycles of the document's isa answer; conditions: a byte; the letters lie in their variable.
-/
import Derived.Test.YtlolfmpgljpjoaaDoorIRBeg
import Derived.Test.YtlolfmpgljpjoaaDoorIRFlow
import Derived.Test.YtlolfmpgljpjoaaDoorIRef7
set_option linter.unusedSimpArgs false
set_option linter.unusedVariables false
namespace Go.Proofs.YtlolfmpgljpjoaaDoor
open Go.RowKit
abbrev InstA (k : Nat) : Array Value := #[.int .i64 (opN k : Nat), .int .i64 (mdN k : Nat), .int .i64 (kdN k : Nat), .int .i64 (lnN k : Nat), .int .i64 0, .int .i64 (clN k : Nat)]
set_option synthInstance.maxSize 20000 in
set_option synthInstance.maxHeartbeats 2000000 in
set_option maxRecDepth 100000 in
theorem flow_tab : ∀ k, k < 256 → (kdN k = 1 ∨ kdN k = 2 ∨ kdN k = 3 ∨ kdN k = 4) ∨ (kdN k = 0 ∧ mdN k = 2) ∨ (kdN k = 0 ∧ mdN k ≠ 2) ∨ (kdN k = 5) ∨ (kdN k = 6 ∧ opN k = 27 ∧ mdN k = 8) ∨ (kdN k = 6 ∧ opN k = 27 ∧ mdN k = 11) ∨ (kdN k = 7 ∧ opN k = 28 ∧ mdN k = 8)
    ∨ (kdN k = 8 ∧ opN k = 42 ∧ mdN k = 0) ∨ (kdN k = 8 ∧ opN k = 41 ∧ mdN k = 0) ∨ (kdN k = 11 ∧ opN k = 10 ∧ mdN k = 0) ∨ (kdN k = 9 ∧ (opN k = 35 ∨ opN k = 36) ∧ mdN k = 0) ∨ (kdN k = 10 ∧ (opN k = 37 ∨ opN k = 38) ∧ mdN k = 0) ∨ (kdN k = 12 ∧ opN k = 69 ∧ mdN k = 0) := by decide +kernel
theorem plain_tab : ∀ k, k < 256 → kdN k = 0 → rsL (opN k) (mdN k) = plL (mdN k) := by decide +kernel
theorem shQ_flow {k : Nat} (h : ¬ (kdN k = 1 ∨ kdN k = 2 ∨ kdN k = 3 ∨ kdN k = 4 ∨ kdN k = 5)) (cr tk : Bool) : shQ k cr tk = [0] ++ rsL (opN k) (mdN k) := by
  unfold shQ shp
  split <;> first | rfl | (exfalso; omega)
theorem flow_any (k : Nat) (hk : k < 256) (hkd : ¬ (kdN k = 1 ∨ kdN k = 2 ∨ kdN k = 3 ∨ kdN k = 4)) (cr tk : Bool) (w : World) :
    Calls Tryd.prog 21 #[.agg (InstA k), .bool cr, .bool tk] w fun e w' => ∃ v, e = .returned v ∧ Acs w' w.heap.size v (shQ k cr tk) ∧ Below w.heap.size w w' := by
  unfold InstA
  rcases flow_tab k hk with h | ⟨h1, h2⟩ | ⟨h1, h2⟩ | h1 | ⟨h1, h2, h3⟩ | ⟨h1, h2, h3⟩ | ⟨h1, h2, h3⟩ | ⟨h1, h2, h3⟩ | ⟨h1, h2, h3⟩ | ⟨h1, h2, h3⟩ | ⟨h1, h2, h3⟩ | ⟨h1, h2, h3⟩ | ⟨h1, h2, h3⟩
  · exact absurd h hkd
  · rw [shQ_flow (by omega), plain_tab k hk h1, h1, h2]; exact flow_0i _ _ _ _ _ _ _
  · rw [shQ_flow (by omega), plain_tab k hk h1, h1, show plL (mdN k) = [2] by unfold plL; rw [if_neg h2]]
    exact flow_0n _ _ (by rw [beq_eq_false_iff_ne]; omega) _ _ _ _ _ _
  · rw [show shQ k cr tk = [0] ++ brL cr tk from by unfold shQ shp; rw [h1]; rfl, h1]
    cases cr <;> cases tk
    · exact flow_5_false_false _ _ _ _ _ _
    · exact flow_5_false_true _ _ _ _ _ _
    · exact flow_5_true_false _ _ _ _ _ _
    · exact flow_5_true_true _ _ _ _ _ _
  · rw [shQ_flow (by omega), h1, h2, h3]; exact flow_6_8 _ _ _ _ _ _
  · rw [shQ_flow (by omega), h1, h2, h3]; exact flow_6_11 _ _ _ _ _ _
  · rw [shQ_flow (by omega), h1, h2, h3]; exact flow_7 _ _ _ _ _ _
  · rw [shQ_flow (by omega), h1, h2, h3]; exact flow_8_42 _ _ _ _ _ _
  · rw [shQ_flow (by omega), h1, h2, h3]; exact flow_8_41 _ _ _ _ _ _
  · rw [shQ_flow (by omega), h1, h2, h3]; exact flow_11 _ _ _ _ _ _
  · rw [shQ_flow (by omega), h1, h3]; rcases h2 with h2 | h2 <;> rw [h2] <;> exact flow_9 _ _ _ _ _ _ _
  · rw [shQ_flow (by omega), h1, h3]; rcases h2 with h2 | h2 <;> rw [h2] <;> exact flow_10 _ _ _ _ _ _ _
  · rw [shQ_flow (by omega), h1, h2, h3]; exact flow_12 _ _ _ _ _ _
theorem rrow_agg (k : Nat) (hk : k < 256) (w : World) (T : LTab w) :
    Calls Tryd.prog 20 #[.int .u8 (k : Nat)] w fun e w' => e = .returned (.agg (InstA k)) ∧ Below w.heap.size w w' := rrow_any k hk w T
theorem mdN_lt13' : ∀ k, k < 256 → mdN k < 13 := by decide +kernel
theorem shQ_1 {k : Nat} (h : kdN k = 1) (cr tk : Bool) : shQ k cr tk = [0, 1] ++ rch0 (mdN k) ++ rch1 (mdN k) cr ++ [7] := by unfold shQ shp; rw [h]; simp [rchL]
theorem shQ_4 {k : Nat} (h : kdN k = 4) (cr tk : Bool) : shQ k cr tk = [0, 1] ++ rch0 (mdN k) ++ rch1 (mdN k) true ++ [7] := by unfold shQ shp; rw [h]; simp [rchL]
theorem shQ_2 {k : Nat} (h : kdN k = 2) (cr tk : Bool) : shQ k cr tk = [0, 1] ++ rch0 (mdN k) ++ rch1 (mdN k) true ++ [9] := by unfold shQ shp; rw [h]; simp [rchL]
theorem shQ_3 {k : Nat} (h : kdN k = 3) (cr tk : Bool) : shQ k cr tk = [0, 1] ++ rch0 (mdN k) ++ rch1 (mdN k) true ++ [7, 8, 9] := by unfold shQ shp; rw [h]; simp [rchL]
theorem rch0_len (m : Nat) : (rch0 m).length ≤ 3 := by unfold rch0; split <;> simp
set_option maxRecDepth 100000 in
set_option maxHeartbeats 4000000 in
theorem rshape_1 (k : Nat) (hk : k < 256) (hkd : kdN k = 1) (cr tk : Bool) (w : World) (T : LTab w) :
    Calls Tryd.prog 10 #[.int .u8 (k : Nat), .bool cr, .bool tk] w fun e w' => ∃ v, e = .returned v ∧ Acs w' w.heap.size v (shQ k cr tk) ∧ Below w.heap.size w w' := by
  rw [shQ_1 hkd]
  have RC := Hid.mk2 (rrow_agg k hk w T)
  have BC := Hid.mk2 (fun W => begin_any (mdN k) (mdN_lt13' k hk) W)
  have hlen := rch0_len (mdN k)
  clear T
  generalize hM : mdN k = M at *
  go_enter Tryd.func10, Tryd.ntmps10
  go_upto_region 2 with (go_at_call 20; go_must (refine RC.out.mono ?_; rintro e w1 ⟨rfl, hb1⟩))
  simp only [InstA, hkd, hM]
  have iB : Blk (w1.alloc (.cells #[.int .i64 (opN k : Nat), .int .i64 (M : Nat), .int .i64 1, .int .i64 (lnN k : Nat), .int .i64 0, .int .i64 (clN k : Nat)] 28)) w1.heap.size #[.int .i64 (opN k : Nat), .int .i64 (M : Nat), .int .i64 1, .int .i64 (lnN k : Nat), .int .i64 0, .int .i64 (clN k : Nat)] 28 := Blk.new w1 _ _
  have hbW : Below w.heap.size w (w1.alloc (.cells #[.int .i64 (opN k : Nat), .int .i64 (M : Nat), .int .i64 1, .int .i64 (lnN k : Nat), .int .i64 0, .int .i64 (clN k : Nat)] 28)) := hb1.alloc hb1.size _
  change Code.wp _ _ _ _ (w1.alloc (.cells #[.int .i64 (opN k : Nat), .int .i64 (M : Nat), .int .i64 1, .int .i64 (lnN k : Nat), .int .i64 0, .int .i64 (clN k : Nat)] 28))
  generalize (w1.alloc (.cells #[.int .i64 (opN k : Nat), .int .i64 (M : Nat), .int .i64 1, .int .i64 (lnN k : Nat), .int .i64 0, .int .i64 (clN k : Nat)] 28)) = W at *
  generalize w1.heap.size = r at *
  have ic := iB.cell
  clear hb1 RC hkd hM
  go_upto_region 5 with (go_at_call 22; go_must (refine (BC.out _).mono ?_; rintro e w2 ⟨v0, rfl, own0, hb0⟩))
  have hs0 := hb0.size
  have jB := iB.below iB.lt hb0
  have jc := jB.cell
  have hlt := iB.lt
  have iB0 := iB
  clear iB ic BC jB
  have hm4 : M = 9 ∨ M = 10 ∨ M = 7 ∨ (M ≠ 9 ∧ M ≠ 10 ∧ M ≠ 7) := by omega
  have fin : ∀ (v : Value) (w' : World) (l : List Nat), Acs w' W.heap.size v l → Below W.heap.size W w' → Acs w' w.heap.size v l ∧ Below w.heap.size w w' := fun _ _ _ h1 h2 => ⟨h1.lower hbW.size, hbW.trans (h2.mono hbW.size)⟩
  have FN := Hid.mk2 fin
  clear fin
  rcases hm4 with rfl | rfl | rfl | ⟨n1, n2, n3⟩
  · cases cr
    · skip
      have E : Hid ([0, 1] ++ rch0 9 ++ rch1 9 false ++ [7] = [0, 1] ++ rch0 9 ++ [7]) := rfl
      go_wp2_with (first
        | (at_builtin; refine wpList_app (m := [7]) rfl _ _ rfl own0 hb0 hs0 rfl rfl (by simp; omega) ?_; intro v1 w3 own1 hb1 hs1; have jc1 := (iB0.below hlt hb1).cell))
      go_ret
      exact ⟨v1, rfl, by have this := (FN.out _ _ _ own1 hb1).1; rw [← E.out] at this; exact this, (FN.out _ _ _ own1 hb1).2⟩
    · skip
      have E : Hid ([0, 1] ++ rch0 9 ++ rch1 9 true ++ [7] = [0, 1] ++ rch0 9 ++ [6] ++ [7]) := rfl
      go_wp2_with (first
        | (at_builtin; refine wpList_app (m := [7]) rfl _ _ rfl own1 hb1 hs1 rfl rfl (by simp; omega) ?_; intro v2 w4 own2 hb2 hs2; have jc2 := (iB0.below hlt hb2).cell)
        | (at_builtin; refine wpList_app (m := [6]) rfl _ _ rfl own0 hb0 hs0 rfl rfl (by simp; omega) ?_; intro v1 w3 own1 hb1 hs1; have jc1 := (iB0.below hlt hb1).cell))
      go_ret
      exact ⟨v2, rfl, by have this := (FN.out _ _ _ own2 hb2).1; rw [← E.out] at this; exact this, (FN.out _ _ _ own2 hb2).2⟩
  · cases cr
    · skip
      have E : Hid ([0, 1] ++ rch0 10 ++ rch1 10 false ++ [7] = [0, 1] ++ rch0 10 ++ [7]) := rfl
      go_wp2_with (first
        | (at_builtin; refine wpList_app (m := [7]) rfl _ _ rfl own0 hb0 hs0 rfl rfl (by simp; omega) ?_; intro v1 w3 own1 hb1 hs1; have jc1 := (iB0.below hlt hb1).cell))
      go_ret
      exact ⟨v1, rfl, by have this := (FN.out _ _ _ own1 hb1).1; rw [← E.out] at this; exact this, (FN.out _ _ _ own1 hb1).2⟩
    · skip
      have E : Hid ([0, 1] ++ rch0 10 ++ rch1 10 true ++ [7] = [0, 1] ++ rch0 10 ++ [6] ++ [7]) := rfl
      go_wp2_with (first
        | (at_builtin; refine wpList_app (m := [7]) rfl _ _ rfl own1 hb1 hs1 rfl rfl (by simp; omega) ?_; intro v2 w4 own2 hb2 hs2; have jc2 := (iB0.below hlt hb2).cell)
        | (at_builtin; refine wpList_app (m := [6]) rfl _ _ rfl own0 hb0 hs0 rfl rfl (by simp; omega) ?_; intro v1 w3 own1 hb1 hs1; have jc1 := (iB0.below hlt hb1).cell))
      go_ret
      exact ⟨v2, rfl, by have this := (FN.out _ _ _ own2 hb2).1; rw [← E.out] at this; exact this, (FN.out _ _ _ own2 hb2).2⟩
  · cases cr
    · skip
      have E : Hid ([0, 1] ++ rch0 7 ++ rch1 7 false ++ [7] = [0, 1] ++ rch0 7 ++ [7]) := rfl
      go_wp2_with (first
        | (at_builtin; refine wpList_app (m := [7]) rfl _ _ rfl own0 hb0 hs0 rfl rfl (by simp; omega) ?_; intro v1 w3 own1 hb1 hs1; have jc1 := (iB0.below hlt hb1).cell))
      go_ret
      exact ⟨v1, rfl, by have this := (FN.out _ _ _ own1 hb1).1; rw [← E.out] at this; exact this, (FN.out _ _ _ own1 hb1).2⟩
    · skip
      have E : Hid ([0, 1] ++ rch0 7 ++ rch1 7 true ++ [7] = [0, 1] ++ rch0 7 ++ [6] ++ [7]) := rfl
      go_wp2_with (first
        | (at_builtin; refine wpList_app (m := [7]) rfl _ _ rfl own1 hb1 hs1 rfl rfl (by simp; omega) ?_; intro v2 w4 own2 hb2 hs2; have jc2 := (iB0.below hlt hb2).cell)
        | (at_builtin; refine wpList_app (m := [6]) rfl _ _ rfl own0 hb0 hs0 rfl rfl (by simp; omega) ?_; intro v1 w3 own1 hb1 hs1; have jc1 := (iB0.below hlt hb1).cell))
      go_ret
      exact ⟨v2, rfl, by have this := (FN.out _ _ _ own2 hb2).1; rw [← E.out] at this; exact this, (FN.out _ _ _ own2 hb2).2⟩
  · have E : Hid ([0, 1] ++ rch0 M ++ rch1 M cr ++ [7] = [0, 1] ++ rch0 M ++ [7]) := by
      unfold Hid rch1
      rw [if_neg (by omega)]; simp
    have t1 : ((M : Int) == 9) = false := by rw [beq_eq_false_iff_ne]; omega
    have t2 : ((M : Int) == 10) = false := by rw [beq_eq_false_iff_ne]; omega
    have t3 : ((M : Int) == 7) = false := by rw [beq_eq_false_iff_ne]; omega
    clear n1 n2 n3
    cases cr
    all_goals
      go_wp2_with (first
        | (at_builtin; refine wpList_app (m := [7]) rfl _ _ rfl own0 hb0 hs0 rfl rfl (by simp; omega) ?_; intro v1 w3 own1 hb1 hs1; have jc1 := (iB0.below hlt hb1).cell))
      go_ret
      exact ⟨v1, rfl, by have this := (FN.out _ _ _ own1 hb1).1; rw [← E.out] at this; exact this, (FN.out _ _ _ own1 hb1).2⟩
set_option maxRecDepth 100000 in
set_option maxHeartbeats 4000000 in
theorem rshape_4 (k : Nat) (hk : k < 256) (hkd : kdN k = 4) (cr tk : Bool) (w : World) (T : LTab w) :
    Calls Tryd.prog 10 #[.int .u8 (k : Nat), .bool cr, .bool tk] w fun e w' => ∃ v, e = .returned v ∧ Acs w' w.heap.size v (shQ k cr tk) ∧ Below w.heap.size w w' := by
  rw [shQ_4 hkd]
  have RC := Hid.mk2 (rrow_agg k hk w T)
  have BC := Hid.mk2 (fun W => begin_any (mdN k) (mdN_lt13' k hk) W)
  have hlen := rch0_len (mdN k)
  clear T
  generalize hM : mdN k = M at *
  go_enter Tryd.func10, Tryd.ntmps10
  go_upto_region 2 with (go_at_call 20; go_must (refine RC.out.mono ?_; rintro e w1 ⟨rfl, hb1⟩))
  simp only [InstA, hkd, hM]
  have iB : Blk (w1.alloc (.cells #[.int .i64 (opN k : Nat), .int .i64 (M : Nat), .int .i64 4, .int .i64 (lnN k : Nat), .int .i64 0, .int .i64 (clN k : Nat)] 28)) w1.heap.size #[.int .i64 (opN k : Nat), .int .i64 (M : Nat), .int .i64 4, .int .i64 (lnN k : Nat), .int .i64 0, .int .i64 (clN k : Nat)] 28 := Blk.new w1 _ _
  have hbW : Below w.heap.size w (w1.alloc (.cells #[.int .i64 (opN k : Nat), .int .i64 (M : Nat), .int .i64 4, .int .i64 (lnN k : Nat), .int .i64 0, .int .i64 (clN k : Nat)] 28)) := hb1.alloc hb1.size _
  change Code.wp _ _ _ _ (w1.alloc (.cells #[.int .i64 (opN k : Nat), .int .i64 (M : Nat), .int .i64 4, .int .i64 (lnN k : Nat), .int .i64 0, .int .i64 (clN k : Nat)] 28))
  generalize (w1.alloc (.cells #[.int .i64 (opN k : Nat), .int .i64 (M : Nat), .int .i64 4, .int .i64 (lnN k : Nat), .int .i64 0, .int .i64 (clN k : Nat)] 28)) = W at *
  generalize w1.heap.size = r at *
  have ic := iB.cell
  clear hb1 RC hkd hM
  go_upto_region 5 with (go_at_call 22; go_must (refine (BC.out _).mono ?_; rintro e w2 ⟨v0, rfl, own0, hb0⟩))
  have hs0 := hb0.size
  have jB := iB.below iB.lt hb0
  have jc := jB.cell
  have hlt := iB.lt
  have iB0 := iB
  clear iB ic BC jB
  have hm4 : M = 9 ∨ M = 10 ∨ M = 7 ∨ (M ≠ 9 ∧ M ≠ 10 ∧ M ≠ 7) := by omega
  have fin : ∀ (v : Value) (w' : World) (l : List Nat), Acs w' W.heap.size v l → Below W.heap.size W w' → Acs w' w.heap.size v l ∧ Below w.heap.size w w' := fun _ _ _ h1 h2 => ⟨h1.lower hbW.size, hbW.trans (h2.mono hbW.size)⟩
  have FN := Hid.mk2 fin
  clear fin
  rcases hm4 with rfl | rfl | rfl | ⟨n1, n2, n3⟩
  · cases cr
    · skip
      have E : Hid ([0, 1] ++ rch0 9 ++ rch1 9 true ++ [7] = [0, 1] ++ rch0 9 ++ [6] ++ [7]) := rfl
      go_wp2_with (first
        | (at_builtin; refine wpList_app (m := [7]) rfl _ _ rfl own1 hb1 hs1 rfl rfl (by simp; omega) ?_; intro v2 w4 own2 hb2 hs2; have jc2 := (iB0.below hlt hb2).cell)
        | (at_builtin; refine wpList_app (m := [6]) rfl _ _ rfl own0 hb0 hs0 rfl rfl (by simp; omega) ?_; intro v1 w3 own1 hb1 hs1; have jc1 := (iB0.below hlt hb1).cell))
      go_ret
      exact ⟨v2, rfl, by have this := (FN.out _ _ _ own2 hb2).1; rw [← E.out] at this; exact this, (FN.out _ _ _ own2 hb2).2⟩
    · skip
      have E : Hid ([0, 1] ++ rch0 9 ++ rch1 9 true ++ [7] = [0, 1] ++ rch0 9 ++ [6] ++ [7]) := rfl
      go_wp2_with (first
        | (at_builtin; refine wpList_app (m := [7]) rfl _ _ rfl own1 hb1 hs1 rfl rfl (by simp; omega) ?_; intro v2 w4 own2 hb2 hs2; have jc2 := (iB0.below hlt hb2).cell)
        | (at_builtin; refine wpList_app (m := [6]) rfl _ _ rfl own0 hb0 hs0 rfl rfl (by simp; omega) ?_; intro v1 w3 own1 hb1 hs1; have jc1 := (iB0.below hlt hb1).cell))
      go_ret
      exact ⟨v2, rfl, by have this := (FN.out _ _ _ own2 hb2).1; rw [← E.out] at this; exact this, (FN.out _ _ _ own2 hb2).2⟩
  · cases cr
    · skip
      have E : Hid ([0, 1] ++ rch0 10 ++ rch1 10 true ++ [7] = [0, 1] ++ rch0 10 ++ [6] ++ [7]) := rfl
      go_wp2_with (first
        | (at_builtin; refine wpList_app (m := [7]) rfl _ _ rfl own1 hb1 hs1 rfl rfl (by simp; omega) ?_; intro v2 w4 own2 hb2 hs2; have jc2 := (iB0.below hlt hb2).cell)
        | (at_builtin; refine wpList_app (m := [6]) rfl _ _ rfl own0 hb0 hs0 rfl rfl (by simp; omega) ?_; intro v1 w3 own1 hb1 hs1; have jc1 := (iB0.below hlt hb1).cell))
      go_ret
      exact ⟨v2, rfl, by have this := (FN.out _ _ _ own2 hb2).1; rw [← E.out] at this; exact this, (FN.out _ _ _ own2 hb2).2⟩
    · skip
      have E : Hid ([0, 1] ++ rch0 10 ++ rch1 10 true ++ [7] = [0, 1] ++ rch0 10 ++ [6] ++ [7]) := rfl
      go_wp2_with (first
        | (at_builtin; refine wpList_app (m := [7]) rfl _ _ rfl own1 hb1 hs1 rfl rfl (by simp; omega) ?_; intro v2 w4 own2 hb2 hs2; have jc2 := (iB0.below hlt hb2).cell)
        | (at_builtin; refine wpList_app (m := [6]) rfl _ _ rfl own0 hb0 hs0 rfl rfl (by simp; omega) ?_; intro v1 w3 own1 hb1 hs1; have jc1 := (iB0.below hlt hb1).cell))
      go_ret
      exact ⟨v2, rfl, by have this := (FN.out _ _ _ own2 hb2).1; rw [← E.out] at this; exact this, (FN.out _ _ _ own2 hb2).2⟩
  · cases cr
    · skip
      have E : Hid ([0, 1] ++ rch0 7 ++ rch1 7 true ++ [7] = [0, 1] ++ rch0 7 ++ [6] ++ [7]) := rfl
      go_wp2_with (first
        | (at_builtin; refine wpList_app (m := [7]) rfl _ _ rfl own1 hb1 hs1 rfl rfl (by simp; omega) ?_; intro v2 w4 own2 hb2 hs2; have jc2 := (iB0.below hlt hb2).cell)
        | (at_builtin; refine wpList_app (m := [6]) rfl _ _ rfl own0 hb0 hs0 rfl rfl (by simp; omega) ?_; intro v1 w3 own1 hb1 hs1; have jc1 := (iB0.below hlt hb1).cell))
      go_ret
      exact ⟨v2, rfl, by have this := (FN.out _ _ _ own2 hb2).1; rw [← E.out] at this; exact this, (FN.out _ _ _ own2 hb2).2⟩
    · skip
      have E : Hid ([0, 1] ++ rch0 7 ++ rch1 7 true ++ [7] = [0, 1] ++ rch0 7 ++ [6] ++ [7]) := rfl
      go_wp2_with (first
        | (at_builtin; refine wpList_app (m := [7]) rfl _ _ rfl own1 hb1 hs1 rfl rfl (by simp; omega) ?_; intro v2 w4 own2 hb2 hs2; have jc2 := (iB0.below hlt hb2).cell)
        | (at_builtin; refine wpList_app (m := [6]) rfl _ _ rfl own0 hb0 hs0 rfl rfl (by simp; omega) ?_; intro v1 w3 own1 hb1 hs1; have jc1 := (iB0.below hlt hb1).cell))
      go_ret
      exact ⟨v2, rfl, by have this := (FN.out _ _ _ own2 hb2).1; rw [← E.out] at this; exact this, (FN.out _ _ _ own2 hb2).2⟩
  · have E : Hid ([0, 1] ++ rch0 M ++ rch1 M true ++ [7] = [0, 1] ++ rch0 M ++ [7]) := by
      unfold Hid rch1
      rw [if_neg (by omega)]; simp
    have t1 : ((M : Int) == 9) = false := by rw [beq_eq_false_iff_ne]; omega
    have t2 : ((M : Int) == 10) = false := by rw [beq_eq_false_iff_ne]; omega
    have t3 : ((M : Int) == 7) = false := by rw [beq_eq_false_iff_ne]; omega
    clear n1 n2 n3
    cases cr
    all_goals
      go_wp2_with (first
        | (at_builtin; refine wpList_app (m := [7]) rfl _ _ rfl own0 hb0 hs0 rfl rfl (by simp; omega) ?_; intro v1 w3 own1 hb1 hs1; have jc1 := (iB0.below hlt hb1).cell))
      go_ret
      exact ⟨v1, rfl, by have this := (FN.out _ _ _ own1 hb1).1; rw [← E.out] at this; exact this, (FN.out _ _ _ own1 hb1).2⟩
set_option maxRecDepth 100000 in
set_option maxHeartbeats 4000000 in
theorem rshape_2 (k : Nat) (hk : k < 256) (hkd : kdN k = 2) (cr tk : Bool) (w : World) (T : LTab w) :
    Calls Tryd.prog 10 #[.int .u8 (k : Nat), .bool cr, .bool tk] w fun e w' => ∃ v, e = .returned v ∧ Acs w' w.heap.size v (shQ k cr tk) ∧ Below w.heap.size w w' := by
  rw [shQ_2 hkd]
  have RC := Hid.mk2 (rrow_agg k hk w T)
  have BC := Hid.mk2 (fun W => begin_any (mdN k) (mdN_lt13' k hk) W)
  have hlen := rch0_len (mdN k)
  clear T
  generalize hM : mdN k = M at *
  go_enter Tryd.func10, Tryd.ntmps10
  go_upto_region 2 with (go_at_call 20; go_must (refine RC.out.mono ?_; rintro e w1 ⟨rfl, hb1⟩))
  simp only [InstA, hkd, hM]
  have iB : Blk (w1.alloc (.cells #[.int .i64 (opN k : Nat), .int .i64 (M : Nat), .int .i64 2, .int .i64 (lnN k : Nat), .int .i64 0, .int .i64 (clN k : Nat)] 28)) w1.heap.size #[.int .i64 (opN k : Nat), .int .i64 (M : Nat), .int .i64 2, .int .i64 (lnN k : Nat), .int .i64 0, .int .i64 (clN k : Nat)] 28 := Blk.new w1 _ _
  have hbW : Below w.heap.size w (w1.alloc (.cells #[.int .i64 (opN k : Nat), .int .i64 (M : Nat), .int .i64 2, .int .i64 (lnN k : Nat), .int .i64 0, .int .i64 (clN k : Nat)] 28)) := hb1.alloc hb1.size _
  change Code.wp _ _ _ _ (w1.alloc (.cells #[.int .i64 (opN k : Nat), .int .i64 (M : Nat), .int .i64 2, .int .i64 (lnN k : Nat), .int .i64 0, .int .i64 (clN k : Nat)] 28))
  generalize (w1.alloc (.cells #[.int .i64 (opN k : Nat), .int .i64 (M : Nat), .int .i64 2, .int .i64 (lnN k : Nat), .int .i64 0, .int .i64 (clN k : Nat)] 28)) = W at *
  generalize w1.heap.size = r at *
  have ic := iB.cell
  clear hb1 RC hkd hM
  go_upto_region 5 with (go_at_call 22; go_must (refine (BC.out _).mono ?_; rintro e w2 ⟨v0, rfl, own0, hb0⟩))
  have hs0 := hb0.size
  have jB := iB.below iB.lt hb0
  have jc := jB.cell
  have hlt := iB.lt
  have iB0 := iB
  clear iB ic BC jB
  have hm4 : M = 9 ∨ M = 10 ∨ M = 7 ∨ (M ≠ 9 ∧ M ≠ 10 ∧ M ≠ 7) := by omega
  have fin : ∀ (v : Value) (w' : World) (l : List Nat), Acs w' W.heap.size v l → Below W.heap.size W w' → Acs w' w.heap.size v l ∧ Below w.heap.size w w' := fun _ _ _ h1 h2 => ⟨h1.lower hbW.size, hbW.trans (h2.mono hbW.size)⟩
  have FN := Hid.mk2 fin
  clear fin
  rcases hm4 with rfl | rfl | rfl | ⟨n1, n2, n3⟩
  · cases cr
    · skip
      have E : Hid ([0, 1] ++ rch0 9 ++ rch1 9 true ++ [9] = [0, 1] ++ rch0 9 ++ [6] ++ [9]) := rfl
      go_wp2_with (first
        | (at_builtin; refine wpList_app (m := [9]) rfl _ _ rfl own1 hb1 hs1 rfl rfl (by simp; omega) ?_; intro v2 w4 own2 hb2 hs2; have jc2 := (iB0.below hlt hb2).cell)
        | (at_builtin; refine wpList_app (m := [6]) rfl _ _ rfl own0 hb0 hs0 rfl rfl (by simp; omega) ?_; intro v1 w3 own1 hb1 hs1; have jc1 := (iB0.below hlt hb1).cell))
      go_ret
      exact ⟨v2, rfl, by have this := (FN.out _ _ _ own2 hb2).1; rw [← E.out] at this; exact this, (FN.out _ _ _ own2 hb2).2⟩
    · skip
      have E : Hid ([0, 1] ++ rch0 9 ++ rch1 9 true ++ [9] = [0, 1] ++ rch0 9 ++ [6] ++ [9]) := rfl
      go_wp2_with (first
        | (at_builtin; refine wpList_app (m := [9]) rfl _ _ rfl own1 hb1 hs1 rfl rfl (by simp; omega) ?_; intro v2 w4 own2 hb2 hs2; have jc2 := (iB0.below hlt hb2).cell)
        | (at_builtin; refine wpList_app (m := [6]) rfl _ _ rfl own0 hb0 hs0 rfl rfl (by simp; omega) ?_; intro v1 w3 own1 hb1 hs1; have jc1 := (iB0.below hlt hb1).cell))
      go_ret
      exact ⟨v2, rfl, by have this := (FN.out _ _ _ own2 hb2).1; rw [← E.out] at this; exact this, (FN.out _ _ _ own2 hb2).2⟩
  · cases cr
    · skip
      have E : Hid ([0, 1] ++ rch0 10 ++ rch1 10 true ++ [9] = [0, 1] ++ rch0 10 ++ [6] ++ [9]) := rfl
      go_wp2_with (first
        | (at_builtin; refine wpList_app (m := [9]) rfl _ _ rfl own1 hb1 hs1 rfl rfl (by simp; omega) ?_; intro v2 w4 own2 hb2 hs2; have jc2 := (iB0.below hlt hb2).cell)
        | (at_builtin; refine wpList_app (m := [6]) rfl _ _ rfl own0 hb0 hs0 rfl rfl (by simp; omega) ?_; intro v1 w3 own1 hb1 hs1; have jc1 := (iB0.below hlt hb1).cell))
      go_ret
      exact ⟨v2, rfl, by have this := (FN.out _ _ _ own2 hb2).1; rw [← E.out] at this; exact this, (FN.out _ _ _ own2 hb2).2⟩
    · skip
      have E : Hid ([0, 1] ++ rch0 10 ++ rch1 10 true ++ [9] = [0, 1] ++ rch0 10 ++ [6] ++ [9]) := rfl
      go_wp2_with (first
        | (at_builtin; refine wpList_app (m := [9]) rfl _ _ rfl own1 hb1 hs1 rfl rfl (by simp; omega) ?_; intro v2 w4 own2 hb2 hs2; have jc2 := (iB0.below hlt hb2).cell)
        | (at_builtin; refine wpList_app (m := [6]) rfl _ _ rfl own0 hb0 hs0 rfl rfl (by simp; omega) ?_; intro v1 w3 own1 hb1 hs1; have jc1 := (iB0.below hlt hb1).cell))
      go_ret
      exact ⟨v2, rfl, by have this := (FN.out _ _ _ own2 hb2).1; rw [← E.out] at this; exact this, (FN.out _ _ _ own2 hb2).2⟩
  · cases cr
    · skip
      have E : Hid ([0, 1] ++ rch0 7 ++ rch1 7 true ++ [9] = [0, 1] ++ rch0 7 ++ [6] ++ [9]) := rfl
      go_wp2_with (first
        | (at_builtin; refine wpList_app (m := [9]) rfl _ _ rfl own1 hb1 hs1 rfl rfl (by simp; omega) ?_; intro v2 w4 own2 hb2 hs2; have jc2 := (iB0.below hlt hb2).cell)
        | (at_builtin; refine wpList_app (m := [6]) rfl _ _ rfl own0 hb0 hs0 rfl rfl (by simp; omega) ?_; intro v1 w3 own1 hb1 hs1; have jc1 := (iB0.below hlt hb1).cell))
      go_ret
      exact ⟨v2, rfl, by have this := (FN.out _ _ _ own2 hb2).1; rw [← E.out] at this; exact this, (FN.out _ _ _ own2 hb2).2⟩
    · skip
      have E : Hid ([0, 1] ++ rch0 7 ++ rch1 7 true ++ [9] = [0, 1] ++ rch0 7 ++ [6] ++ [9]) := rfl
      go_wp2_with (first
        | (at_builtin; refine wpList_app (m := [9]) rfl _ _ rfl own1 hb1 hs1 rfl rfl (by simp; omega) ?_; intro v2 w4 own2 hb2 hs2; have jc2 := (iB0.below hlt hb2).cell)
        | (at_builtin; refine wpList_app (m := [6]) rfl _ _ rfl own0 hb0 hs0 rfl rfl (by simp; omega) ?_; intro v1 w3 own1 hb1 hs1; have jc1 := (iB0.below hlt hb1).cell))
      go_ret
      exact ⟨v2, rfl, by have this := (FN.out _ _ _ own2 hb2).1; rw [← E.out] at this; exact this, (FN.out _ _ _ own2 hb2).2⟩
  · have E : Hid ([0, 1] ++ rch0 M ++ rch1 M true ++ [9] = [0, 1] ++ rch0 M ++ [9]) := by
      unfold Hid rch1
      rw [if_neg (by omega)]; simp
    have t1 : ((M : Int) == 9) = false := by rw [beq_eq_false_iff_ne]; omega
    have t2 : ((M : Int) == 10) = false := by rw [beq_eq_false_iff_ne]; omega
    have t3 : ((M : Int) == 7) = false := by rw [beq_eq_false_iff_ne]; omega
    clear n1 n2 n3
    cases cr
    all_goals
      go_wp2_with (first
        | (at_builtin; refine wpList_app (m := [9]) rfl _ _ rfl own0 hb0 hs0 rfl rfl (by simp; omega) ?_; intro v1 w3 own1 hb1 hs1; have jc1 := (iB0.below hlt hb1).cell))
      go_ret
      exact ⟨v1, rfl, by have this := (FN.out _ _ _ own1 hb1).1; rw [← E.out] at this; exact this, (FN.out _ _ _ own1 hb1).2⟩
set_option maxRecDepth 100000 in
set_option maxHeartbeats 4000000 in
theorem rshape_3 (k : Nat) (hk : k < 256) (hkd : kdN k = 3) (cr tk : Bool) (w : World) (T : LTab w) :
    Calls Tryd.prog 10 #[.int .u8 (k : Nat), .bool cr, .bool tk] w fun e w' => ∃ v, e = .returned v ∧ Acs w' w.heap.size v (shQ k cr tk) ∧ Below w.heap.size w w' := by
  rw [shQ_3 hkd]
  have RC := Hid.mk2 (rrow_agg k hk w T)
  have BC := Hid.mk2 (fun W => begin_any (mdN k) (mdN_lt13' k hk) W)
  have hlen := rch0_len (mdN k)
  clear T
  generalize hM : mdN k = M at *
  go_enter Tryd.func10, Tryd.ntmps10
  go_upto_region 2 with (go_at_call 20; go_must (refine RC.out.mono ?_; rintro e w1 ⟨rfl, hb1⟩))
  simp only [InstA, hkd, hM]
  have iB : Blk (w1.alloc (.cells #[.int .i64 (opN k : Nat), .int .i64 (M : Nat), .int .i64 3, .int .i64 (lnN k : Nat), .int .i64 0, .int .i64 (clN k : Nat)] 28)) w1.heap.size #[.int .i64 (opN k : Nat), .int .i64 (M : Nat), .int .i64 3, .int .i64 (lnN k : Nat), .int .i64 0, .int .i64 (clN k : Nat)] 28 := Blk.new w1 _ _
  have hbW : Below w.heap.size w (w1.alloc (.cells #[.int .i64 (opN k : Nat), .int .i64 (M : Nat), .int .i64 3, .int .i64 (lnN k : Nat), .int .i64 0, .int .i64 (clN k : Nat)] 28)) := hb1.alloc hb1.size _
  change Code.wp _ _ _ _ (w1.alloc (.cells #[.int .i64 (opN k : Nat), .int .i64 (M : Nat), .int .i64 3, .int .i64 (lnN k : Nat), .int .i64 0, .int .i64 (clN k : Nat)] 28))
  generalize (w1.alloc (.cells #[.int .i64 (opN k : Nat), .int .i64 (M : Nat), .int .i64 3, .int .i64 (lnN k : Nat), .int .i64 0, .int .i64 (clN k : Nat)] 28)) = W at *
  generalize w1.heap.size = r at *
  have ic := iB.cell
  clear hb1 RC hkd hM
  go_upto_region 5 with (go_at_call 22; go_must (refine (BC.out _).mono ?_; rintro e w2 ⟨v0, rfl, own0, hb0⟩))
  have hs0 := hb0.size
  have jB := iB.below iB.lt hb0
  have jc := jB.cell
  have hlt := iB.lt
  have iB0 := iB
  clear iB ic BC jB
  have hm4 : M = 9 ∨ M = 10 ∨ M = 7 ∨ (M ≠ 9 ∧ M ≠ 10 ∧ M ≠ 7) := by omega
  have fin : ∀ (v : Value) (w' : World) (l : List Nat), Acs w' W.heap.size v l → Below W.heap.size W w' → Acs w' w.heap.size v l ∧ Below w.heap.size w w' := fun _ _ _ h1 h2 => ⟨h1.lower hbW.size, hbW.trans (h2.mono hbW.size)⟩
  have FN := Hid.mk2 fin
  clear fin
  rcases hm4 with rfl | rfl | rfl | ⟨n1, n2, n3⟩
  · cases cr
    · skip
      have E : Hid ([0, 1] ++ rch0 9 ++ rch1 9 true ++ [7, 8, 9] = [0, 1] ++ rch0 9 ++ [6] ++ [7, 8, 9]) := rfl
      go_wp2_with (first
        | (at_builtin; refine wpList_app (m := [7, 8, 9]) rfl _ _ rfl own1 hb1 hs1 rfl rfl (by simp; omega) ?_; intro v2 w4 own2 hb2 hs2; have jc2 := (iB0.below hlt hb2).cell)
        | (at_builtin; refine wpList_app (m := [6]) rfl _ _ rfl own0 hb0 hs0 rfl rfl (by simp; omega) ?_; intro v1 w3 own1 hb1 hs1; have jc1 := (iB0.below hlt hb1).cell))
      go_ret
      exact ⟨v2, rfl, by have this := (FN.out _ _ _ own2 hb2).1; rw [← E.out] at this; exact this, (FN.out _ _ _ own2 hb2).2⟩
    · skip
      have E : Hid ([0, 1] ++ rch0 9 ++ rch1 9 true ++ [7, 8, 9] = [0, 1] ++ rch0 9 ++ [6] ++ [7, 8, 9]) := rfl
      go_wp2_with (first
        | (at_builtin; refine wpList_app (m := [7, 8, 9]) rfl _ _ rfl own1 hb1 hs1 rfl rfl (by simp; omega) ?_; intro v2 w4 own2 hb2 hs2; have jc2 := (iB0.below hlt hb2).cell)
        | (at_builtin; refine wpList_app (m := [6]) rfl _ _ rfl own0 hb0 hs0 rfl rfl (by simp; omega) ?_; intro v1 w3 own1 hb1 hs1; have jc1 := (iB0.below hlt hb1).cell))
      go_ret
      exact ⟨v2, rfl, by have this := (FN.out _ _ _ own2 hb2).1; rw [← E.out] at this; exact this, (FN.out _ _ _ own2 hb2).2⟩
  · cases cr
    · skip
      have E : Hid ([0, 1] ++ rch0 10 ++ rch1 10 true ++ [7, 8, 9] = [0, 1] ++ rch0 10 ++ [6] ++ [7, 8, 9]) := rfl
      go_wp2_with (first
        | (at_builtin; refine wpList_app (m := [7, 8, 9]) rfl _ _ rfl own1 hb1 hs1 rfl rfl (by simp; omega) ?_; intro v2 w4 own2 hb2 hs2; have jc2 := (iB0.below hlt hb2).cell)
        | (at_builtin; refine wpList_app (m := [6]) rfl _ _ rfl own0 hb0 hs0 rfl rfl (by simp; omega) ?_; intro v1 w3 own1 hb1 hs1; have jc1 := (iB0.below hlt hb1).cell))
      go_ret
      exact ⟨v2, rfl, by have this := (FN.out _ _ _ own2 hb2).1; rw [← E.out] at this; exact this, (FN.out _ _ _ own2 hb2).2⟩
    · skip
      have E : Hid ([0, 1] ++ rch0 10 ++ rch1 10 true ++ [7, 8, 9] = [0, 1] ++ rch0 10 ++ [6] ++ [7, 8, 9]) := rfl
      go_wp2_with (first
        | (at_builtin; refine wpList_app (m := [7, 8, 9]) rfl _ _ rfl own1 hb1 hs1 rfl rfl (by simp; omega) ?_; intro v2 w4 own2 hb2 hs2; have jc2 := (iB0.below hlt hb2).cell)
        | (at_builtin; refine wpList_app (m := [6]) rfl _ _ rfl own0 hb0 hs0 rfl rfl (by simp; omega) ?_; intro v1 w3 own1 hb1 hs1; have jc1 := (iB0.below hlt hb1).cell))
      go_ret
      exact ⟨v2, rfl, by have this := (FN.out _ _ _ own2 hb2).1; rw [← E.out] at this; exact this, (FN.out _ _ _ own2 hb2).2⟩
  · cases cr
    · skip
      have E : Hid ([0, 1] ++ rch0 7 ++ rch1 7 true ++ [7, 8, 9] = [0, 1] ++ rch0 7 ++ [6] ++ [7, 8, 9]) := rfl
      go_wp2_with (first
        | (at_builtin; refine wpList_app (m := [7, 8, 9]) rfl _ _ rfl own1 hb1 hs1 rfl rfl (by simp; omega) ?_; intro v2 w4 own2 hb2 hs2; have jc2 := (iB0.below hlt hb2).cell)
        | (at_builtin; refine wpList_app (m := [6]) rfl _ _ rfl own0 hb0 hs0 rfl rfl (by simp; omega) ?_; intro v1 w3 own1 hb1 hs1; have jc1 := (iB0.below hlt hb1).cell))
      go_ret
      exact ⟨v2, rfl, by have this := (FN.out _ _ _ own2 hb2).1; rw [← E.out] at this; exact this, (FN.out _ _ _ own2 hb2).2⟩
    · skip
      have E : Hid ([0, 1] ++ rch0 7 ++ rch1 7 true ++ [7, 8, 9] = [0, 1] ++ rch0 7 ++ [6] ++ [7, 8, 9]) := rfl
      go_wp2_with (first
        | (at_builtin; refine wpList_app (m := [7, 8, 9]) rfl _ _ rfl own1 hb1 hs1 rfl rfl (by simp; omega) ?_; intro v2 w4 own2 hb2 hs2; have jc2 := (iB0.below hlt hb2).cell)
        | (at_builtin; refine wpList_app (m := [6]) rfl _ _ rfl own0 hb0 hs0 rfl rfl (by simp; omega) ?_; intro v1 w3 own1 hb1 hs1; have jc1 := (iB0.below hlt hb1).cell))
      go_ret
      exact ⟨v2, rfl, by have this := (FN.out _ _ _ own2 hb2).1; rw [← E.out] at this; exact this, (FN.out _ _ _ own2 hb2).2⟩
  · have E : Hid ([0, 1] ++ rch0 M ++ rch1 M true ++ [7, 8, 9] = [0, 1] ++ rch0 M ++ [7, 8, 9]) := by
      unfold Hid rch1
      rw [if_neg (by omega)]; simp
    have t1 : ((M : Int) == 9) = false := by rw [beq_eq_false_iff_ne]; omega
    have t2 : ((M : Int) == 10) = false := by rw [beq_eq_false_iff_ne]; omega
    have t3 : ((M : Int) == 7) = false := by rw [beq_eq_false_iff_ne]; omega
    clear n1 n2 n3
    cases cr
    all_goals
      go_wp2_with (first
        | (at_builtin; refine wpList_app (m := [7, 8, 9]) rfl _ _ rfl own0 hb0 hs0 rfl rfl (by simp; omega) ?_; intro v1 w3 own1 hb1 hs1; have jc1 := (iB0.below hlt hb1).cell))
      go_ret
      exact ⟨v1, rfl, by have this := (FN.out _ _ _ own1 hb1).1; rw [← E.out] at this; exact this, (FN.out _ _ _ own1 hb1).2⟩
end Go.Proofs.YtlolfmpgljpjoaaDoor
