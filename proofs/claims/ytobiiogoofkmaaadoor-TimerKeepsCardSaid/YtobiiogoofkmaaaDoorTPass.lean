/-
  The contract of pass; conditions: the numbers fit their kinds.
-/
import Derived.Test.YtobiiogoofkmaaaDoorTWait
set_option linter.unusedSimpArgs false
set_option linter.unusedVariables false
namespace Go.Proofs.YtobiiogoofkmaaaDoor
open Go.RowKit Classical
def ps (five : Bool) (p n : Int) (k : Nat) : Int :=
  (if 1 ≤ k then times n (firstM (rdL five) 7457 p) (rdL five) else 0) + (if 2 ≤ k then times n (firstM (rdL five) 14913 p) (rdL five) else 0) + (if 3 ≤ k then times n (firstM (rdL five) 22371 p) (rdL five) else 0) + (if 4 ≤ k then times n (firstM (rdL five) (lastM five) p) (rdL five) else 0)
theorem ps_0 (five : Bool) (p n : Int) : ps five p n 0 = 0 := rfl
theorem ps_1 (five : Bool) (p n : Int) : ps five p n 1 = ps five p n 0 + times n (firstM (rdL five) 7457 p) (rdL five) := by unfold ps; simp
theorem ps_2 (five : Bool) (p n : Int) : ps five p n 2 = ps five p n 1 + times n (firstM (rdL five) 14913 p) (rdL five) := by unfold ps; simp
theorem ps_3 (five : Bool) (p n : Int) : ps five p n 3 = ps five p n 2 + times n (firstM (rdL five) 22371 p) (rdL five) := by unfold ps; simp
theorem ps_4 (five : Bool) (p n : Int) : ps five p n 4 = ps five p n 3 + times n (firstM (rdL five) (lastM five) p) (rdL five) := by unfold ps; simp
theorem ps_cnt (five : Bool) (p n : Int) : ps five p n 4 = cnt five p n := by unfold ps cnt; simp
theorem times_bd (n f r : Int) (n0 : 0 ≤ n) (n1 : n ≤ 9223372036854775807) (f0 : 0 ≤ f) (r0 : 29830 ≤ r) : 0 ≤ times n f r ∧ times n f r ≤ 400000000000001 := by
  unfold times
  split
  · decide
  · have q0 : 0 ≤ (n - f) / r := Int.ediv_nonneg (by omega) (by omega)
    have h1 := Int.ediv_mul_le (n - f) (show r ≠ 0 by omega)
    have h2 : (n - f) / r * 29830 ≤ (n - f) / r * r := Int.mul_le_mul_of_nonneg_left r0 q0
    omega
theorem ps_bd (five : Bool) (p n : Int) (k : Nat) (n0 : 0 ≤ n) (n1 : n ≤ 9223372036854775807) (p0 : -1 ≤ p) (p1 : p < rdL five) : 0 ≤ ps five p n k ∧ ps five p n k ≤ 1600000000000004 := by
  have hr := rdL_bd five
  have hl : lastM five = rdL five - 1 := by cases five <;> rfl
  have f : ∀ m, 1 ≤ m → m < rdL five → 0 ≤ firstM (rdL five) m p := fun m h1 h2 => by unfold firstM; split <;> omega
  have a1 := times_bd n (firstM (rdL five) 7457 p) (rdL five) n0 n1 (f _ (by omega) (by omega)) hr.1
  have a2 := times_bd n (firstM (rdL five) 14913 p) (rdL five) n0 n1 (f _ (by omega) (by omega)) hr.1
  have a3 := times_bd n (firstM (rdL five) 22371 p) (rdL five) n0 n1 (f _ (by omega) (by omega)) hr.1
  have a4 := times_bd n (firstM (rdL five) (lastM five) p) (rdL five) n0 n1 (f _ (by omega) (by omega)) hr.1
  unfold ps
  split <;> split <;> split <;> split <;> omega
set_option maxHeartbeats 4000000 in
theorem pass_any (c : Ck) (n : Int) (w0 w : World) (b : Nat) (o : c.Ok) (T : Tabs w0) (A : At w0 w b c) (n0 : 0 ≤ n) (n1 : n ≤ 9223372036854775807) :
    Calls Tryd.prog 38 #[.pointer (some ⟨b, 0, none⟩), .int .i64 n] w fun e w' => e = .returned (.tuple #[]) ∧ At w0 w' b { c with beats := (c.beats + cnt c.five (plc c.five c.at_) n) % 64, at_ := (plc c.five c.at_ + n) % rdL c.five } := by
  have hp := plc_bd c.five c.at_ o.at_.1
  have hr := rdL_bd c.five
  have hl : lastM c.five = rdL c.five - 1 := by cases c.five <;> rfl
  have PB : Hid _ := fun k => ps_bd c.five (plc c.five c.at_) n k n0 n1 hp.1 hp.2
  have e0 : Hid _ := fun (_ : True) => ps_0 c.five (plc c.five c.at_) n
  have e1 : Hid _ := fun (_ : True) => ps_1 c.five (plc c.five c.at_) n
  have e2 : Hid _ := fun (_ : True) => ps_2 c.five (plc c.five c.at_) n
  have e3 : Hid _ := fun (_ : True) => ps_3 c.five (plc c.five c.at_) n
  have e4 : Hid _ := fun (_ : True) => ps_4 c.five (plc c.five c.at_) n
  have TM : Hid _ := fun (f : Int) (W : World) (h0 : 0 ≤ f) (h1 : f ≤ 100000) => times_any n f (rdL c.five) W n0 n1 h0 h1 hr.1 hr.2
  have RD : Hid _ := fun W (hA : At w0 W b c) => round_any c w0 W b T hA
  have PL : Hid _ := fun W (hA : At w0 W b c) => place_any c w0 W b o T hA
  have BO : Hid _ := fun W (hA : At w0 W b c) => beatsOf_any c w0 W b T hA
  have BT : Hid _ := fun W (hA : At w0 W b c) (k : Int) (h0 : 0 ≤ k) (h1 : k ≤ 9223372036854775000) => beat_any c k w0 W b o hA h0 h1
  have m0 := mod_bd c.five (plc c.five c.at_ + n)
  have mm : (plc c.five c.at_ + n % rdL c.five + rdL c.five).tmod (rdL c.five) = (plc c.five c.at_ + n) % rdL c.five := by
    rw [Int.tmod_eq_emod_of_nonneg (by have := mod_bd c.five n; omega), Int.add_emod_right, Int.add_emod, Int.emod_emod_of_dvd _ (Int.dvd_refl _), ← Int.add_emod]
  have mn : n.tmod (rdL c.five) = n % rdL c.five := Int.tmod_eq_emod_of_nonneg n0
  have nb := mod_bd c.five n
  rw [← ps_cnt]
  have r0 := hr.1
  have r1 := hr.2
  have p0 := hp.1
  have p1 : plc c.five c.at_ < rdL c.five := hp.2
  have nb0 := nb.1
  have nb1 := nb.2
  have m00 := m0.1
  have m01 := m0.2
  have hz : (rdL c.five == 0) = false := by simpa using (show ¬ rdL c.five = 0 by omega)
  clear hp hr nb m0
  generalize ps c.five (plc c.five c.at_) n = S at *
  generalize (plc c.five c.at_ + n) % rdL c.five = z at *
  generalize n % rdL c.five = y at *
  generalize plc c.five c.at_ = p at *
  have AH : Hid _ := A
  clear A
  rw [hl] at e4
  generalize rdL c.five = R at *
  go_enter Tryd.func38, Tryd.ntmps38
  go_wp2_with (first
    | (go_at_call 39; refine (PL.out _ AH.out).mono ?_; rintro e w2 ⟨rfl, k1, rfl⟩)
    | (go_at_call 35; refine (RD.out _ (AH.out.drews _)).mono ?_; rintro e w2 ⟨rfl, rfl⟩)
    | (go_at_call 33; refine (BO.out _ (AH.out.drews _)).mono ?_; rintro e w2 ⟨rfl, A2⟩; clear AH))
  go_loop [6, 17] (fun s i => ∃ k : Nat, k ≤ 4 ∧ i = .int .i64 k ∧ s = .int .i64 (S k)) (fun _ i => 4 - (intOf i).toNat)
  case atStart => exact ⟨0, by omega, rfl, by rw [e0.out trivial]⟩
  case round =>
    obtain ⟨k, hk, rfl, rfl⟩ := hrel
    have hk' : k = 0 ∨ k = 1 ∨ k = 2 ∨ k = 3 ∨ k = 4 := by omega
    clear RD PL BO
    have ix0 : ∀ w, (Instr.index 47 (.agg #[.int .u16 7457, .int .u16 14913, .int .u16 22371, .int .u16 (R - 1)]) (.int .i64 0)).run Tryd.prog w = .ok (.int .u16 7457) w := fun w => by kernel_rfl
    have ix1 : ∀ w, (Instr.index 47 (.agg #[.int .u16 7457, .int .u16 14913, .int .u16 22371, .int .u16 (R - 1)]) (.int .i64 1)).run Tryd.prog w = .ok (.int .u16 14913) w := fun w => by kernel_rfl
    have ix2 : ∀ w, (Instr.index 47 (.agg #[.int .u16 7457, .int .u16 14913, .int .u16 22371, .int .u16 (R - 1)]) (.int .i64 2)).run Tryd.prog w = .ok (.int .u16 22371) w := fun w => by kernel_rfl
    have ix3 : ∀ w, (Instr.index 47 (.agg #[.int .u16 7457, .int .u16 14913, .int .u16 22371, .int .u16 (R - 1)]) (.int .i64 3)).run Tryd.prog w = .ok (.int .u16 (R - 1)) w := fun w => by kernel_rfl
    rcases hk' with rfl | rfl | rfl | rfl | rfl
    · have B0 := (PB.out 0).1
      have B1 := (PB.out 0).2
      have C0 := (PB.out 1).1
      have C1 := (PB.out 1).2
      have E1 := e1.out trivial
      by_cases hm : 7457 - p ≤ 0
      · rw [show firstM R 7457 p = 7457 - p + R by unfold firstM; rw [if_pos hm]] at E1
        have TC : Hid _ := fun (W : World) => TM.out (7457 - p + R) W (by omega) (by omega)
        generalize times n (7457 - p + R) R = t at *
        rw [E1] at C0 C1
        have EH : Hid _ := fun (_ : True) => E1
        clear E1 PB e0 e1 e2 e3 e4 TM
        go_wp2_with (go_at_call 44; refine (TC.out _).mono ?_; rintro e w3 ⟨rfl, rfl⟩)
        go_round
        case rel => exact ⟨1, by omega, rfl, by rw [EH.out trivial]⟩
        case measure => simp [intOf]
      · rw [show firstM R 7457 p = 7457 - p by unfold firstM; rw [if_neg hm]] at E1
        have TC : Hid _ := fun (W : World) => TM.out (7457 - p) W (by omega) (by omega)
        generalize times n (7457 - p) R = t at *
        rw [E1] at C0 C1
        have EH : Hid _ := fun (_ : True) => E1
        clear E1 PB e0 e1 e2 e3 e4 TM
        go_wp2_with (go_at_call 44; refine (TC.out _).mono ?_; rintro e w3 ⟨rfl, rfl⟩)
        go_round
        case rel => exact ⟨1, by omega, rfl, by rw [EH.out trivial]⟩
        case measure => simp [intOf]
    · have B0 := (PB.out 1).1
      have B1 := (PB.out 1).2
      have C0 := (PB.out 2).1
      have C1 := (PB.out 2).2
      have E1 := e2.out trivial
      by_cases hm : 14913 - p ≤ 0
      · rw [show firstM R 14913 p = 14913 - p + R by unfold firstM; rw [if_pos hm]] at E1
        have TC : Hid _ := fun (W : World) => TM.out (14913 - p + R) W (by omega) (by omega)
        generalize times n (14913 - p + R) R = t at *
        rw [E1] at C0 C1
        have EH : Hid _ := fun (_ : True) => E1
        clear E1 PB e0 e1 e2 e3 e4 TM
        go_wp2_with (go_at_call 44; refine (TC.out _).mono ?_; rintro e w3 ⟨rfl, rfl⟩)
        go_round
        case rel => exact ⟨2, by omega, rfl, by rw [EH.out trivial]⟩
        case measure => simp [intOf]
      · rw [show firstM R 14913 p = 14913 - p by unfold firstM; rw [if_neg hm]] at E1
        have TC : Hid _ := fun (W : World) => TM.out (14913 - p) W (by omega) (by omega)
        generalize times n (14913 - p) R = t at *
        rw [E1] at C0 C1
        have EH : Hid _ := fun (_ : True) => E1
        clear E1 PB e0 e1 e2 e3 e4 TM
        go_wp2_with (go_at_call 44; refine (TC.out _).mono ?_; rintro e w3 ⟨rfl, rfl⟩)
        go_round
        case rel => exact ⟨2, by omega, rfl, by rw [EH.out trivial]⟩
        case measure => simp [intOf]
    · have B0 := (PB.out 2).1
      have B1 := (PB.out 2).2
      have C0 := (PB.out 3).1
      have C1 := (PB.out 3).2
      have E1 := e3.out trivial
      by_cases hm : 22371 - p ≤ 0
      · rw [show firstM R 22371 p = 22371 - p + R by unfold firstM; rw [if_pos hm]] at E1
        have TC : Hid _ := fun (W : World) => TM.out (22371 - p + R) W (by omega) (by omega)
        generalize times n (22371 - p + R) R = t at *
        rw [E1] at C0 C1
        have EH : Hid _ := fun (_ : True) => E1
        clear E1 PB e0 e1 e2 e3 e4 TM
        go_wp2_with (go_at_call 44; refine (TC.out _).mono ?_; rintro e w3 ⟨rfl, rfl⟩)
        go_round
        case rel => exact ⟨3, by omega, rfl, by rw [EH.out trivial]⟩
        case measure => simp [intOf]
      · rw [show firstM R 22371 p = 22371 - p by unfold firstM; rw [if_neg hm]] at E1
        have TC : Hid _ := fun (W : World) => TM.out (22371 - p) W (by omega) (by omega)
        generalize times n (22371 - p) R = t at *
        rw [E1] at C0 C1
        have EH : Hid _ := fun (_ : True) => E1
        clear E1 PB e0 e1 e2 e3 e4 TM
        go_wp2_with (go_at_call 44; refine (TC.out _).mono ?_; rintro e w3 ⟨rfl, rfl⟩)
        go_round
        case rel => exact ⟨3, by omega, rfl, by rw [EH.out trivial]⟩
        case measure => simp [intOf]
    · have B0 := (PB.out 3).1
      have B1 := (PB.out 3).2
      have C0 := (PB.out 4).1
      have C1 := (PB.out 4).2
      have E1 := e4.out trivial
      by_cases hm : (R - 1) - p ≤ 0
      · rw [show firstM R (R - 1) p = (R - 1) - p + R by unfold firstM; rw [if_pos hm]] at E1
        have TC : Hid _ := fun (W : World) => TM.out ((R - 1) - p + R) W (by omega) (by omega)
        generalize times n ((R - 1) - p + R) R = t at *
        rw [E1] at C0 C1
        have EH : Hid _ := fun (_ : True) => E1
        clear E1 PB e0 e1 e2 e3 e4 TM
        go_wp2_with (go_at_call 44; refine (TC.out _).mono ?_; rintro e w3 ⟨rfl, rfl⟩)
        go_round
        case rel => exact ⟨4, by omega, rfl, by rw [EH.out trivial]⟩
        case measure => simp [intOf]
      · rw [show firstM R (R - 1) p = (R - 1) - p by unfold firstM; rw [if_neg hm]] at E1
        have TC : Hid _ := fun (W : World) => TM.out ((R - 1) - p) W (by omega) (by omega)
        generalize times n ((R - 1) - p) R = t at *
        rw [E1] at C0 C1
        have EH : Hid _ := fun (_ : True) => E1
        clear E1 PB e0 e1 e2 e3 e4 TM
        go_wp2_with (go_at_call 44; refine (TC.out _).mono ?_; rintro e w3 ⟨rfl, rfl⟩)
        go_round
        case rel => exact ⟨4, by omega, rfl, by rw [EH.out trivial]⟩
        case measure => simp [intOf]
    · have B0 := (PB.out 4).1
      have B1 := (PB.out 4).2
      have B2 : Hid _ := fun (_ : True) => BT.out w2 A2 (S 4) B0 (by omega)
      clear PB e0 e1 e2 e3 e4 TM BT
      go_wp2_with (go_at_call 34; refine (B2.out trivial).mono ?_; rintro e w3 ⟨rfl, A3⟩; obtain ⟨g0, g1, g2, g3, g4, g5, g6, g7, g8, g9, g10, g11, g12, gf⟩ := A3.facts)
      go_end0
      exact ⟨rfl, A3.set 10 _ rfl⟩
end Go.Proofs.YtobiiogoofkmaaaDoor
