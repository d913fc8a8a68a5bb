/-
  The contract of appendPad; conditions: the text is one's own and not too long.
-/
import Derived.Test.YtkebkbiabdlomaaDoorXTxt
set_option linter.unusedSimpArgs false
set_option linter.unusedVariables false
namespace Go.Proofs.YtkebkbiabdlomaaDoor
open Go.RowKit Classical
set_option maxRecDepth 100000 in
set_option maxHeartbeats 2000000 in
theorem appendPad_any (w : World) (base p : Nat) (v : Value) (l : List UInt8) (hp : p < 256) (hl : l.length ≤ 17592186044000) (hbase : base ≤ w.heap.size) (H : Txt w base v l) :
    Calls Tryd.prog 24 #[v, .int .u8 (p : Int)] w fun e w' => ∃ v', Txt w' base v' (l ++ padT p 8) ∧ e = .returned v' ∧ Fr base w w' := by
  go_enter Tryd.func24, Tryd.ntmps24
  go_upto_region 2 with fail
  go_loopw [0, 7] (fun x i wr => ∃ k : Nat, k ≤ 8 ∧ i = .int .i64 k ∧ Txt wr base x (l ++ padT p k) ∧ Fr base w wr) (fun _ i _ => 8 - (intOf i).toNat)
  case atStart => exact ⟨0, by omega, rfl, by simpa [padT] using H, Fr.refl hbase⟩
  case round =>
    clear H
    obtain ⟨k, hk, rfl, H, hb⟩ := hrel
    have hln : Hid ((l ++ padT p k).length ≤ 17592186044416) := by unfold Hid; rw [List.length_append, padT_len]; omega
    have HH : Hid (Txt _ _ _ _) := H
    clear H
    by_cases h8 : k < 8
    · rcases (show k = 0 ∨ k = 1 ∨ k = 2 ∨ k = 3 ∨ k = 4 ∨ k = 5 ∨ k = 6 ∨ k = 7 by omega) with rfl | rfl | rfl | rfl | rfl | rfl | rfl | rfl
      · have hand0 := andb p 0 128 hp (by omega) rfl
        have hC : Hid (padC p 0 = if p / 128 % 2 = 1 then 82 else 46) := rfl
        rcases (show p / 128 % 2 = 0 ∨ p / 128 % 2 = 1 by omega) with e | e
        · rw [e] at hand0 hC
          have hand : bits .and .u8 (p : Int) 128 = 0 := hand0
          simp only [if_neg (show ¬ (0 : Nat) = 1 by omega)] at hC
          have hE : Hid (l ++ padT p 1 = (l ++ padT p 0) ++ [46]) := by unfold Hid; rw [padT_succ, hC, List.append_assoc]
          clear e hC hand0
          go_wp2_with (at_builtin; refine wpList_app1 rfl _ _ rfl (46 : UInt8) HH.out hb rfl rfl (by first | rfl | kernel_rfl | (simp; rfl)) hln.out ?_; intro v' Wx hux hbx; rw [← hE.out] at hux; clear HH hb hln hE)
          go_roundw
          case rel => exact ⟨1, by omega, by go_num, hux, hbx⟩
          case measure => simp [intOf]
        · rw [e] at hand0 hC
          have hand : bits .and .u8 (p : Int) 128 = 128 := hand0
          simp only [if_true] at hC
          have hE : Hid (l ++ padT p 1 = (l ++ padT p 0) ++ [82]) := by unfold Hid; rw [padT_succ, hC, List.append_assoc]
          clear e hC hand0
          go_wp2_with (at_builtin; refine wpList_app1 rfl _ _ rfl (82 : UInt8) HH.out hb rfl rfl (by first | rfl | kernel_rfl | (simp; rfl)) hln.out ?_; intro v' Wx hux hbx; rw [← hE.out] at hux; clear HH hb hln hE)
          go_roundw
          case rel => exact ⟨1, by omega, by go_num, hux, hbx⟩
          case measure => simp [intOf]
      · have hand0 := andb p 1 64 hp (by omega) rfl
        have hC : Hid (padC p 1 = if p / 64 % 2 = 1 then 76 else 46) := rfl
        rcases (show p / 64 % 2 = 0 ∨ p / 64 % 2 = 1 by omega) with e | e
        · rw [e] at hand0 hC
          have hand : bits .and .u8 (p : Int) 64 = 0 := hand0
          simp only [if_neg (show ¬ (0 : Nat) = 1 by omega)] at hC
          have hE : Hid (l ++ padT p 2 = (l ++ padT p 1) ++ [46]) := by unfold Hid; rw [padT_succ, hC, List.append_assoc]
          clear e hC hand0
          go_wp2_with (at_builtin; refine wpList_app1 rfl _ _ rfl (46 : UInt8) HH.out hb rfl rfl (by first | rfl | kernel_rfl | (simp; rfl)) hln.out ?_; intro v' Wx hux hbx; rw [← hE.out] at hux; clear HH hb hln hE)
          go_roundw
          case rel => exact ⟨2, by omega, by go_num, hux, hbx⟩
          case measure => simp [intOf]
        · rw [e] at hand0 hC
          have hand : bits .and .u8 (p : Int) 64 = 64 := hand0
          simp only [if_true] at hC
          have hE : Hid (l ++ padT p 2 = (l ++ padT p 1) ++ [76]) := by unfold Hid; rw [padT_succ, hC, List.append_assoc]
          clear e hC hand0
          go_wp2_with (at_builtin; refine wpList_app1 rfl _ _ rfl (76 : UInt8) HH.out hb rfl rfl (by first | rfl | kernel_rfl | (simp; rfl)) hln.out ?_; intro v' Wx hux hbx; rw [← hE.out] at hux; clear HH hb hln hE)
          go_roundw
          case rel => exact ⟨2, by omega, by go_num, hux, hbx⟩
          case measure => simp [intOf]
      · have hand0 := andb p 2 32 hp (by omega) rfl
        have hC : Hid (padC p 2 = if p / 32 % 2 = 1 then 68 else 46) := rfl
        rcases (show p / 32 % 2 = 0 ∨ p / 32 % 2 = 1 by omega) with e | e
        · rw [e] at hand0 hC
          have hand : bits .and .u8 (p : Int) 32 = 0 := hand0
          simp only [if_neg (show ¬ (0 : Nat) = 1 by omega)] at hC
          have hE : Hid (l ++ padT p 3 = (l ++ padT p 2) ++ [46]) := by unfold Hid; rw [padT_succ, hC, List.append_assoc]
          clear e hC hand0
          go_wp2_with (at_builtin; refine wpList_app1 rfl _ _ rfl (46 : UInt8) HH.out hb rfl rfl (by first | rfl | kernel_rfl | (simp; rfl)) hln.out ?_; intro v' Wx hux hbx; rw [← hE.out] at hux; clear HH hb hln hE)
          go_roundw
          case rel => exact ⟨3, by omega, by go_num, hux, hbx⟩
          case measure => simp [intOf]
        · rw [e] at hand0 hC
          have hand : bits .and .u8 (p : Int) 32 = 32 := hand0
          simp only [if_true] at hC
          have hE : Hid (l ++ padT p 3 = (l ++ padT p 2) ++ [68]) := by unfold Hid; rw [padT_succ, hC, List.append_assoc]
          clear e hC hand0
          go_wp2_with (at_builtin; refine wpList_app1 rfl _ _ rfl (68 : UInt8) HH.out hb rfl rfl (by first | rfl | kernel_rfl | (simp; rfl)) hln.out ?_; intro v' Wx hux hbx; rw [← hE.out] at hux; clear HH hb hln hE)
          go_roundw
          case rel => exact ⟨3, by omega, by go_num, hux, hbx⟩
          case measure => simp [intOf]
      · have hand0 := andb p 3 16 hp (by omega) rfl
        have hC : Hid (padC p 3 = if p / 16 % 2 = 1 then 85 else 46) := rfl
        rcases (show p / 16 % 2 = 0 ∨ p / 16 % 2 = 1 by omega) with e | e
        · rw [e] at hand0 hC
          have hand : bits .and .u8 (p : Int) 16 = 0 := hand0
          simp only [if_neg (show ¬ (0 : Nat) = 1 by omega)] at hC
          have hE : Hid (l ++ padT p 4 = (l ++ padT p 3) ++ [46]) := by unfold Hid; rw [padT_succ, hC, List.append_assoc]
          clear e hC hand0
          go_wp2_with (at_builtin; refine wpList_app1 rfl _ _ rfl (46 : UInt8) HH.out hb rfl rfl (by first | rfl | kernel_rfl | (simp; rfl)) hln.out ?_; intro v' Wx hux hbx; rw [← hE.out] at hux; clear HH hb hln hE)
          go_roundw
          case rel => exact ⟨4, by omega, by go_num, hux, hbx⟩
          case measure => simp [intOf]
        · rw [e] at hand0 hC
          have hand : bits .and .u8 (p : Int) 16 = 16 := hand0
          simp only [if_true] at hC
          have hE : Hid (l ++ padT p 4 = (l ++ padT p 3) ++ [85]) := by unfold Hid; rw [padT_succ, hC, List.append_assoc]
          clear e hC hand0
          go_wp2_with (at_builtin; refine wpList_app1 rfl _ _ rfl (85 : UInt8) HH.out hb rfl rfl (by first | rfl | kernel_rfl | (simp; rfl)) hln.out ?_; intro v' Wx hux hbx; rw [← hE.out] at hux; clear HH hb hln hE)
          go_roundw
          case rel => exact ⟨4, by omega, by go_num, hux, hbx⟩
          case measure => simp [intOf]
      · have hand0 := andb p 4 8 hp (by omega) rfl
        have hC : Hid (padC p 4 = if p / 8 % 2 = 1 then 84 else 46) := rfl
        rcases (show p / 8 % 2 = 0 ∨ p / 8 % 2 = 1 by omega) with e | e
        · rw [e] at hand0 hC
          have hand : bits .and .u8 (p : Int) 8 = 0 := hand0
          simp only [if_neg (show ¬ (0 : Nat) = 1 by omega)] at hC
          have hE : Hid (l ++ padT p 5 = (l ++ padT p 4) ++ [46]) := by unfold Hid; rw [padT_succ, hC, List.append_assoc]
          clear e hC hand0
          go_wp2_with (at_builtin; refine wpList_app1 rfl _ _ rfl (46 : UInt8) HH.out hb rfl rfl (by first | rfl | kernel_rfl | (simp; rfl)) hln.out ?_; intro v' Wx hux hbx; rw [← hE.out] at hux; clear HH hb hln hE)
          go_roundw
          case rel => exact ⟨5, by omega, by go_num, hux, hbx⟩
          case measure => simp [intOf]
        · rw [e] at hand0 hC
          have hand : bits .and .u8 (p : Int) 8 = 8 := hand0
          simp only [if_true] at hC
          have hE : Hid (l ++ padT p 5 = (l ++ padT p 4) ++ [84]) := by unfold Hid; rw [padT_succ, hC, List.append_assoc]
          clear e hC hand0
          go_wp2_with (at_builtin; refine wpList_app1 rfl _ _ rfl (84 : UInt8) HH.out hb rfl rfl (by first | rfl | kernel_rfl | (simp; rfl)) hln.out ?_; intro v' Wx hux hbx; rw [← hE.out] at hux; clear HH hb hln hE)
          go_roundw
          case rel => exact ⟨5, by omega, by go_num, hux, hbx⟩
          case measure => simp [intOf]
      · have hand0 := andb p 5 4 hp (by omega) rfl
        have hC : Hid (padC p 5 = if p / 4 % 2 = 1 then 83 else 46) := rfl
        rcases (show p / 4 % 2 = 0 ∨ p / 4 % 2 = 1 by omega) with e | e
        · rw [e] at hand0 hC
          have hand : bits .and .u8 (p : Int) 4 = 0 := hand0
          simp only [if_neg (show ¬ (0 : Nat) = 1 by omega)] at hC
          have hE : Hid (l ++ padT p 6 = (l ++ padT p 5) ++ [46]) := by unfold Hid; rw [padT_succ, hC, List.append_assoc]
          clear e hC hand0
          go_wp2_with (at_builtin; refine wpList_app1 rfl _ _ rfl (46 : UInt8) HH.out hb rfl rfl (by first | rfl | kernel_rfl | (simp; rfl)) hln.out ?_; intro v' Wx hux hbx; rw [← hE.out] at hux; clear HH hb hln hE)
          go_roundw
          case rel => exact ⟨6, by omega, by go_num, hux, hbx⟩
          case measure => simp [intOf]
        · rw [e] at hand0 hC
          have hand : bits .and .u8 (p : Int) 4 = 4 := hand0
          simp only [if_true] at hC
          have hE : Hid (l ++ padT p 6 = (l ++ padT p 5) ++ [83]) := by unfold Hid; rw [padT_succ, hC, List.append_assoc]
          clear e hC hand0
          go_wp2_with (at_builtin; refine wpList_app1 rfl _ _ rfl (83 : UInt8) HH.out hb rfl rfl (by first | rfl | kernel_rfl | (simp; rfl)) hln.out ?_; intro v' Wx hux hbx; rw [← hE.out] at hux; clear HH hb hln hE)
          go_roundw
          case rel => exact ⟨6, by omega, by go_num, hux, hbx⟩
          case measure => simp [intOf]
      · have hand0 := andb p 6 2 hp (by omega) rfl
        have hC : Hid (padC p 6 = if p / 2 % 2 = 1 then 66 else 46) := rfl
        rcases (show p / 2 % 2 = 0 ∨ p / 2 % 2 = 1 by omega) with e | e
        · rw [e] at hand0 hC
          have hand : bits .and .u8 (p : Int) 2 = 0 := hand0
          simp only [if_neg (show ¬ (0 : Nat) = 1 by omega)] at hC
          have hE : Hid (l ++ padT p 7 = (l ++ padT p 6) ++ [46]) := by unfold Hid; rw [padT_succ, hC, List.append_assoc]
          clear e hC hand0
          go_wp2_with (at_builtin; refine wpList_app1 rfl _ _ rfl (46 : UInt8) HH.out hb rfl rfl (by first | rfl | kernel_rfl | (simp; rfl)) hln.out ?_; intro v' Wx hux hbx; rw [← hE.out] at hux; clear HH hb hln hE)
          go_roundw
          case rel => exact ⟨7, by omega, by go_num, hux, hbx⟩
          case measure => simp [intOf]
        · rw [e] at hand0 hC
          have hand : bits .and .u8 (p : Int) 2 = 2 := hand0
          simp only [if_true] at hC
          have hE : Hid (l ++ padT p 7 = (l ++ padT p 6) ++ [66]) := by unfold Hid; rw [padT_succ, hC, List.append_assoc]
          clear e hC hand0
          go_wp2_with (at_builtin; refine wpList_app1 rfl _ _ rfl (66 : UInt8) HH.out hb rfl rfl (by first | rfl | kernel_rfl | (simp; rfl)) hln.out ?_; intro v' Wx hux hbx; rw [← hE.out] at hux; clear HH hb hln hE)
          go_roundw
          case rel => exact ⟨7, by omega, by go_num, hux, hbx⟩
          case measure => simp [intOf]
      · have hand0 := andb p 7 1 hp (by omega) rfl
        have hC : Hid (padC p 7 = if p / 1 % 2 = 1 then 65 else 46) := rfl
        rcases (show p / 1 % 2 = 0 ∨ p / 1 % 2 = 1 by omega) with e | e
        · rw [e] at hand0 hC
          have hand : bits .and .u8 (p : Int) 1 = 0 := hand0
          simp only [if_neg (show ¬ (0 : Nat) = 1 by omega)] at hC
          have hE : Hid (l ++ padT p 8 = (l ++ padT p 7) ++ [46]) := by unfold Hid; rw [padT_succ, hC, List.append_assoc]
          clear e hC hand0
          go_wp2_with (at_builtin; refine wpList_app1 rfl _ _ rfl (46 : UInt8) HH.out hb rfl rfl (by first | rfl | kernel_rfl | (simp; rfl)) hln.out ?_; intro v' Wx hux hbx; rw [← hE.out] at hux; clear HH hb hln hE)
          go_roundw
          case rel => exact ⟨8, by omega, by go_num, hux, hbx⟩
          case measure => simp [intOf]
        · rw [e] at hand0 hC
          have hand : bits .and .u8 (p : Int) 1 = 1 := hand0
          simp only [if_true] at hC
          have hE : Hid (l ++ padT p 8 = (l ++ padT p 7) ++ [65]) := by unfold Hid; rw [padT_succ, hC, List.append_assoc]
          clear e hC hand0
          go_wp2_with (at_builtin; refine wpList_app1 rfl _ _ rfl (65 : UInt8) HH.out hb rfl rfl (by first | rfl | kernel_rfl | (simp; rfl)) hln.out ?_; intro v' Wx hux hbx; rw [← hE.out] at hux; clear HH hb hln hE)
          go_roundw
          case rel => exact ⟨8, by omega, by go_num, hux, hbx⟩
          case measure => simp [intOf]
    · obtain rfl : k = 8 := by omega
      go_wp2
      go_ret
      exact ⟨_, HH.out, rfl, hb⟩
end Go.Proofs.YtkebkbiabdlomaaDoor
