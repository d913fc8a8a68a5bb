/-
  The contract of leftAhead of package xlate.
-/
import Derived.Test.YtfdiplgjiidnbaaDoorXlPen
set_option linter.unusedSimpArgs false
set_option linter.unusedVariables false
namespace Go.Proofs.YtfdiplgjiidnbaaDoor
open Go.RowKit Classical
set_option maxRecDepth 100000 in
set_option maxHeartbeats 2000000 in
theorem ahead_any (op cy cl at' : Int) (md kd ln c1 c2 : Nat) (b o c : Nat) (num cyc lv : Int) (w : World) (hk : kd < 13) (hl : ln = 1 ∨ ln = 2 ∨ ln = 3) (h1 : 2 ≤ ln → w.cell? ⟨b, o + 1, none⟩ = some (.int .u8 (c1 : Nat))) (h2 : 3 ≤ ln → w.cell? ⟨b, o + 2, none⟩ = some (.int .u8 (c2 : Nat))) (k1 : c1 < 256) (k2 : c2 < 256) (R : Rtab w) :
    Calls Tryd.prog 45 #[.agg (pcC op (md : Nat) (kd : Nat) (ln : Nat) cy cl at' (some ⟨b, o, none⟩) ln c num cyc lv)] w fun e w' => e = .returned (.bool (aheadB md kd (opdN ln c1 c2))) ∧ Below w.heap.size w w' := by
  obtain ⟨PC, hPC⟩ : ∃ PC, PC = pcC op (md : Nat) (kd : Nat) (ln : Nat) cy cl at' (some ⟨b, o, none⟩) ln c num cyc lv := ⟨_, rfl⟩
  have OB : Hid (∀ W, Below w.heap.size w W → Calls Tryd.prog 47 #[.agg PC] W fun e w' => e = .returned (.int .u16 ((opdN ln c1 c2 : Nat) : Int)) ∧ Below W.heap.size W w') := fun W hb => by
    rw [hPC]; exact operand_any op (md : Nat) (kd : Nat) cy cl at' ln c1 c2 b o c num cyc lv W hl (fun h => (hb.cell (p := ⟨b, o + 1, none⟩) (cell_lt (h1 h))).trans (h1 h)) (fun h => (hb.cell (p := ⟨b, o + 2, none⟩) (cell_lt (h2 h))).trans (h2 h)) k1 k2
  have RB : Hid (∀ W, Below w.heap.size w W → Calls Tryd.prog 46 #[.agg #[.int .i64 op, .int .i64 (md : Nat), .int .i64 (kd : Nat), .int .i64 (ln : Nat), .int .i64 cy, .int .i64 cl]] W fun e w' => e = .returned (.agg (rcA md kd)) ∧ Below W.heap.size W w') := fun W hb => recipe_any op (ln : Nat) cy cl md kd hk W (R.on hb)
  have IX : Hid (∀ W, Calls Tryd.prog 65 #[.int .i64 (md : Nat)] W fun e w' => e = .returned (.bool (ixI (md : Nat))) ∧ w' = W) := fun W => ix_any (md : Nat) W
  have HS : Hid (PC.size = 11) := by unfold Hid; rw [hPC]; rfl
  have e0 : Hid (PC[0]? = some (.int .i64 op)) := by unfold Hid; rw [hPC]; rfl
  have H1 : Hid (PC[1]? = some (.int .i64 (md : Nat))) := by unfold Hid; rw [hPC]; rfl
  have e2 : Hid (PC[2]? = some (.int .i64 (kd : Nat))) := by unfold Hid; rw [hPC]; rfl
  have e3 : Hid (PC[3]? = some (.int .i64 (ln : Nat))) := by unfold Hid; rw [hPC]; rfl
  have e4 : Hid (PC[4]? = some (.int .i64 cy)) := by unfold Hid; rw [hPC]; rfl
  have e5 : Hid (PC[5]? = some (.int .i64 cl)) := by unfold Hid; rw [hPC]; rfl
  rw [← hPC]
  clear hPC h1 h2 R
  obtain ⟨V, hV⟩ : ∃ V, aheadB md kd (opdN ln c1 c2) = V := ⟨_, rfl⟩
  have HV : Hid (aheadB md kd (opdN ln c1 c2) = V) := hV
  rw [hV]
  clear hV
  have HU : Hid (∀ O, aheadB md kd O = if rcp md kd 0 = 12 ∨ rcp md kd 0 = 10 then true else if rcp md kd 0 = 1 then (decide (md = 6) || ixI (md : Nat)) || (decide (md = 8) && decide (8192 ≤ O)) else false) := fun O => rfl
  rw [HU.out] at HV
  clear HU
  obtain ⟨RA, hRA⟩ : ∃ RA, RA = rcA md kd := ⟨_, rfl⟩
  have IDX : ∀ W, Sem.run Tryd.prog (Instr.index 90 (.agg RA) (.int .i64 0)) W = .ok (.int .u8 ((rcp md kd 0 : Nat) : Int)) W := fun W => by rw [hRA]; kernel_rfl
  rw [← hRA] at RB
  clear hRA
  generalize opdN ln c1 c2 = O at *
  generalize rcp md kd 0 = r0 at *
  have f6 : ((md : Int) == 6) = decide (md = 6) := by rw [beqI]; exact decide_eq_decide.2 (by omega)
  have f8 : ((md : Int) == 8) = decide (md = 8) := by rw [beqI]; exact decide_eq_decide.2 (by omega)
  generalize ixI (md : Nat) = X at *
  go_enter Tryd.func45, Tryd.ntmps45
  go_upto_region 1 with fail
  have b0 : Blk (w.alloc (.cells PC 56)) w.heap.size PC 56 := Blk.new w _ _
  have hb0 : Below w.heap.size w (w.alloc (.cells PC 56)) := (Below.refl _ _).alloc (Nat.le_refl _) _
  generalize w.alloc (.cells PC 56) = W0 at *
  go_cut [6] (fun z wx => z = .int .u8 (r0 : Nat) ∧ Below W0.heap.size W0 wx)
  case first =>
    have y0 := (b0.cell 0).trans e0.out
    have y1 := (b0.cell 1).trans H1.out
    have y2 := (b0.cell 2).trans e2.out
    have y3 := (b0.cell 3).trans e3.out
    have y4 := (b0.cell 4).trans e4.out
    have y5 := (b0.cell 5).trans e5.out
    go_wp2_with (go_at_call 46; go_must (refine (RB.out _ hb0).mono ?_; rintro e w1 ⟨rfl, hb1⟩))
    go_meet
    exact ⟨rfl, hb1⟩
  case rest =>
  obtain ⟨rfl, hb1⟩ := hcut
  replace b0 := b0.below b0.lt hb1
  replace hb0 := hb0.trans (hb1.mono hb0.size)
  clear hb1 RB
  generalize wc = W1 at *
  have d1 := (b0.cell 1).trans H1.out
  by_cases q12 : r0 = 12
  · subst q12
    have hv : true = V := by rw [← HV.out, if_pos (.inl rfl)]
    clear HV
    subst hv
    go_wp2
    go_ret
    exact ⟨rfl, hb0⟩
  by_cases q10 : r0 = 10
  · subst q10
    have hv : true = V := by rw [← HV.out, if_pos (.inr rfl)]
    clear HV
    subst hv
    go_wp2
    go_ret
    exact ⟨rfl, hb0⟩
  by_cases q1 : r0 = 1
  · subst q1
    have HV2 : Hid (((decide (md = 6) || X) || (decide (md = 8) && decide (8192 ≤ O))) = V) := by
      have := HV.out; rw [if_neg (by decide), if_pos rfl] at this; exact this
    clear HV q12 q10
    by_cases m6 : md = 6
    · have hv : true = V := by rw [← HV2.out]; simp [m6]
      have f6' : ((md : Int) == 6) = true := by rw [f6]; simp [m6]
      clear HV2 f6 f8 m6
      subst hv
      go_wp2
      go_ret
      exact ⟨rfl, hb0⟩
    · have f6' : ((md : Int) == 6) = false := by rw [f6]; simp [m6]
      cases X
      · by_cases m8 : md = 8
        · have f8' : ((md : Int) == 8) = true := by rw [f8]; simp [m8]
          have HV3 : Hid (decide (8192 ≤ (O : Int)) = V) := by unfold Hid; rw [← HV2.out]; simp [m6, m8]; omega
          clear HV2 f6 f8 m6 m8
          go_wp2_with (first
            | (go_at_call 65; go_must (refine (IX.out _).mono ?_; rintro e w1 ⟨rfl, rfl⟩))
            | (refine wpList_load_want (by rfl) 56 _ rfl w.heap.size 0 rfl PC.toList _ b0.range' Tryd.underlying56 rfl (by rw [Array.length_toList, HS.out]; kernel_rfl) ?_; rw [Array.toArray_toList])
            | (go_at_call 47; go_must (refine (OB.out _ hb0).mono ?_; rintro e w1 ⟨rfl, hb1⟩; replace hb0 := hb0.trans (hb1.mono hb0.size); clear hb1)))
          go_ret
          exact ⟨congrArg (fun x => Ending.returned (.bool x)) HV3.out, hb0⟩
        · have f8' : ((md : Int) == 8) = false := by rw [f8]; simp [m8]
          have hv : false = V := by rw [← HV2.out]; simp [m6, m8]
          clear HV2 f6 f8 m6 m8
          subst hv
          go_wp2_with (first
            | (go_at_call 65; go_must (refine (IX.out _).mono ?_; rintro e w1 ⟨rfl, rfl⟩)))
          go_ret
          exact ⟨rfl, hb0⟩
      · have hv : true = V := by rw [← HV2.out]; simp
        clear HV2 f6 f8 m6
        subst hv
        go_wp2_with (first
          | (go_at_call 65; go_must (refine (IX.out _).mono ?_; rintro e w1 ⟨rfl, rfl⟩)))
        go_ret
        exact ⟨rfl, hb0⟩
  · have t12 : ((r0 : Int) == 12) = false := by rw [beq_eq_false_iff_ne]; omega
    have t10 : ((r0 : Int) == 10) = false := by rw [beq_eq_false_iff_ne]; omega
    have t1 : ((r0 : Int) == 1) = false := by rw [beq_eq_false_iff_ne]; omega
    have hv : false = V := by rw [← HV.out, if_neg (by omega), if_neg (by omega)]
    clear HV q12 q10 q1
    subst hv
    go_wp2
    go_ret
    exact ⟨rfl, hb0⟩
end Go.Proofs.YtfdiplgjiidnbaaDoor
