/-
  The contract of penalty of package xlate.
-/
import Derived.Test.YtfdiplgjiidnbaaDoorXlRec
import Derived.BigQuiet
set_option linter.unusedSimpArgs false
set_option linter.unusedVariables false
namespace Go.Proofs.YtfdiplgjiidnbaaDoor
open Go.RowKit Classical
theorem wpList_load_want {P : Program} {ops : Array Oper} {rest : List Oper} {op : Oper} {a : Act} {w : World} {Q : Exit → Act → World → Prop} (hw : Region.wanted op (yielded ops a.tmps) = true) (ty : TypeId) (x : Operand) (ho : op.op = .load ty x)
    (b o : Nat) (hx : a.eval x = .pointer (some ⟨b, o, none⟩)) (cs : List Value) (d : TypeDesc) (hc : w.rangeAt b o cs)
    (hu : P.underlying ty = some d) (hd : d.isRow = true) (hi : (P.info? ty).map (·.size) = some cs.length)
    (h : wpList P ops Q rest (a.put op.dst (.agg cs.toArray)) w) : wpList P ops Q (op :: rest) a w :=
  BigFrame.wpList_want hw fun _ hK => wp_load_mid ty x ho b o hx cs d hc hu hd hi (hK _ _ h)
/-- How many cycles more an instruction may take; whether a block may be left ahead of it. -/
def penI (kd md n t : Int) : Int := if kd = 5 then (if crossI n t then 2 else 1) else if kd = 1 then (if ixI md then 1 else 0) else 0
def aheadB (md kd o : Nat) : Bool := if rcp md kd 0 = 12 ∨ rcp md kd 0 = 10 then true else if rcp md kd 0 = 1 then (decide (md = 6) || ixI (md : Nat)) || (decide (md = 8) && decide (8192 ≤ o)) else false
set_option maxRecDepth 100000 in
set_option maxHeartbeats 2000000 in
theorem penalty_any (op md cy cl at' : Int) (kd ln c1 : Nat) (b o c : Nat) (num cyc lv : Int) (w : World) (h5 : kd = 5 → ln = 2 ∧ w.cell? ⟨b, o + 1, none⟩ = some (.int .u8 (c1 : Nat))) (k1 : c1 < 256) (a0 : 0 ≤ at') (a1 : at' ≤ 65535) :
    Calls Tryd.prog 49 #[.agg (pcC op md (kd : Nat) (ln : Nat) cy cl at' (some ⟨b, o, none⟩) ln c num cyc lv)] w fun e w' => e = .returned (.int .i64 (penI (kd : Nat) md ((at' + 2) % 65536) (tgtI ((at' + 2) % 65536) (c1 : Nat)))) ∧ Below w.heap.size w w' := by
  by_cases hk : kd = 5
  · obtain ⟨rfl, h1⟩ := h5 hk
    subst hk
    obtain ⟨PC, hPC⟩ : ∃ PC, PC = pcC op md ((5 : Nat) : Int) ((2 : Nat) : Int) cy cl at' (some ⟨b, o, none⟩) 2 c num cyc lv := ⟨_, rfl⟩
    have TB : Hid (∀ W, Below w.heap.size w W → Calls Tryd.prog 48 #[.agg PC] W fun e w' => e = .returned (.int .u16 (tgtI ((at' + 2) % 65536) (c1 : Nat))) ∧ Below W.heap.size W w') := fun W hb => by
      rw [hPC]; exact target_any op md ((5 : Nat) : Int) cy cl at' c1 b o c num cyc lv W ((hb.cell (p := ⟨b, o + 1, none⟩) (cell_lt h1)).trans h1) k1 a0 a1
    have BB : Hid (∀ W, Calls Tryd.prog 43 #[.agg PC] W fun e w' => e = .returned (.int .u16 ((at' + 2) % 65536)) ∧ Below W.heap.size W w') := fun W => by
      rw [hPC]; exact behind_any op md ((5 : Nat) : Int) ((2 : Nat) : Int) cy cl at' (some ⟨b, o, none⟩) 2 c num cyc lv a0 a1 (by decide) (by decide) W
    have HS : Hid (PC.size = 11) := by unfold Hid; rw [hPC]; rfl
    have H2 : Hid (PC[2]? = some (.int .i64 5)) := by unfold Hid; rw [hPC]; rfl
    rw [← hPC]
    clear hPC h5 h1
    have E5 : Hid (∀ n t : Int, penI ((5 : Nat) : Int) md n t = if crossI n t then 2 else 1) := fun n t => rfl
    obtain ⟨N, hN⟩ : ∃ N, (at' + 2) % 65536 = N := ⟨_, rfl⟩
    have n0 : 0 ≤ N := by omega
    have n1 : N ≤ 65535 := by omega
    rw [hN] at BB TB ⊢
    obtain ⟨T, hT⟩ : ∃ T, tgtI N (c1 : Nat) = T := ⟨_, rfl⟩
    have t0 : 0 ≤ T := by rw [← hT]; unfold tgtI; omega
    have t1 : T ≤ 65535 := by rw [← hT]; unfold tgtI; omega
    rw [hT] at TB ⊢
    rw [E5.out]
    have CB : Hid (∀ W, Calls Tryd.prog 66 #[.int .u16 N, .int .u16 T] W fun e w' => e = .returned (.bool (crossI N T)) ∧ Below W.heap.size W w') := fun W => (cross_any N T n0 n1 t0 t1 W).mono fun _ _ ⟨h, h'⟩ => ⟨h, h' ▸ Below.refl _ _⟩
    clear hN hT E5 n0 n1 t0 t1
    generalize crossI N T = X at *
    go_enter Tryd.func49, Tryd.ntmps49
    go_upto_region 1 with fail
    have b0 : Blk (w.alloc (.cells PC 56)) w.heap.size PC 56 := Blk.new w _ _
    have hb0 : Below w.heap.size w (w.alloc (.cells PC 56)) := (Below.refl _ _).alloc (Nat.le_refl _) _
    generalize w.alloc (.cells PC 56) = W0 at *
    have d2 := (b0.cell 2).trans H2.out
    go_upto_region 3 with fail
    clear d2
    have s0 : Pq w PC W0.drew := ⟨b0, hb0.drew⟩
    clear b0 hb0
    refine wp_region_held (S := fun v => Pq w PC v) (by kernel_rfl) ?_
    refine takeH (i := 0) (v := .agg PC.toList.toArray) _ rfl (by kernel_rfl) (by kernel_rfl) (by kernel_rfl) (fun _ _ _ h => h) (yieldsIf_load_mid (by kernel_rfl) 56 (.tmp 1) rfl w.heap.size 0 (by kernel_rfl) PC.toList _ (fun v hv => Blk.range' hv.b) Tryd.underlying56 rfl (by rw [Array.length_toList]; rw [HS.out]; kernel_rfl)) s0 rfl ?_
    refine takeH (i := 2) (v := .agg PC.toList.toArray) _ rfl (by kernel_rfl) (by kernel_rfl) (by kernel_rfl) (fun _ _ _ h => h) (yieldsIf_load_mid (by kernel_rfl) 56 (.tmp 1) rfl w.heap.size 0 (by kernel_rfl) PC.toList _ (fun v hv => Blk.range' hv.b) Tryd.underlying56 rfl (by rw [Array.length_toList]; rw [HS.out]; kernel_rfl)) s0 rfl ?_
    refine callH (i := 1) (f := 43) (v := .int .u16 N) _ (by kernel_rfl) rfl (by kernel_rfl) (by kernel_rfl) (BB.out _) rfl ?_
    intro Wq1 hbq1
    have sq1 : (fun v => Pq w PC v) Wq1 := s0.on hbq1
    clear hbq1
    refine ⟨sq1, ?_⟩
    refine callH (i := 3) (f := 48) (v := .int .u16 T) _ (by kernel_rfl) rfl (by kernel_rfl) (by kernel_rfl) (TB.out _ sq1.hb) rfl ?_
    intro Wq2 hbq2
    have sq2 : (fun v => Pq w PC v) Wq2 := sq1.on hbq2
    clear hbq2
    refine ⟨sq2, ?_⟩
    refine callH (i := 4) (f := 66) (v := .bool X) _ (by kernel_rfl) rfl (by kernel_rfl) (by kernel_rfl) (CB.out _) rfl ?_
    intro Wq3 hbq3
    have sq3 : (fun v => Pq w PC v) Wq3 := sq2.on hbq3
    clear hbq3
    refine ⟨sq3, ?_⟩
    refine wpAnyH_done (by kernel_rfl) ?_ _
    cases X
    · go_wp2
      go_ret
      exact ⟨rfl, sq3.hb⟩
    · go_wp2
      go_ret
      exact ⟨rfl, sq3.hb⟩
  · have g5 : (((kd : Nat) : Int) == 5) = false := by rw [beq_eq_false_iff_ne]; omega
    have e5 : ∀ n t : Int, penI (kd : Nat) md n t = if ((kd : Nat) : Int) = 1 then (if ixI md then 1 else 0) else 0 := fun n t => by unfold penI; rw [if_neg (by omega)]
    rw [e5]
    clear e5 h5
    have hb : ∀ (o : Obj), Below w.heap.size w (w.alloc o) := fun o => (Below.refl _ _).alloc (Nat.le_refl _) _
    by_cases h1 : kd = 1
    · subst h1
      have IX : Hid (∀ W, Calls _ _ _ W _) := fun W => ix_any md W
      rw [if_pos (show ((1 : Nat) : Int) = 1 from rfl)]
      generalize ixI md = X at *
      cases X
      · go_enter Tryd.func49, Tryd.ntmps49
        go_wp2_with (go_at_call 65; go_must (refine (IX.out _).mono ?_; rintro e w1 ⟨rfl, rfl⟩))
        go_ret
        exact ⟨rfl, hb _⟩
      · go_enter Tryd.func49, Tryd.ntmps49
        go_wp2_with (go_at_call 65; go_must (refine (IX.out _).mono ?_; rintro e w1 ⟨rfl, rfl⟩))
        go_ret
        exact ⟨rfl, hb _⟩
    · have g1 : (((kd : Nat) : Int) == 1) = false := by rw [beq_eq_false_iff_ne]; omega
      rw [if_neg (by omega)]
      go_enter Tryd.func49, Tryd.ntmps49
      go_wp2
      go_ret
      exact ⟨rfl, hb _⟩
end Go.Proofs.YtfdiplgjiidnbaaDoor
