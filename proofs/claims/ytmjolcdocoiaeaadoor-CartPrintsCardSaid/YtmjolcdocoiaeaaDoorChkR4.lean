/-
  What the document's memories answers.
-/
import Derived.Test.YtmjolcdocoiaeaaDoorChkR2
import Derived.BigQuiet
import Derived.Deep.QuietTactic
set_option linter.unusedSimpArgs false
set_option linter.unusedVariables false
namespace Go.Proofs.YtmjolcdocoiaeaaDoor
open Go.RowKit
/-- The four memories. -/
def l4 (c : CF) (i : Nat) : Int := [c.pr, c.pn, c.cr, c.cn].getD i 0
theorem may_mem2 (c : CF) (hc : c.fmt = 2) (i : Nat) (hi : i < 4) : (Chk.may c).getD (11 + i) false = Chk.ramOk (l4 c i) := by
  have : i = 0 ∨ i = 1 ∨ i = 2 ∨ i = 3 := by omega
  rcases this with rfl | rfl | rfl | rfl
  · show Chk.workOk c c.pr (!c.bat) = _
    unfold Chk.workOk; rw [if_pos hc]; rfl
  · show Chk.workOk c c.pn c.bat = _
    unfold Chk.workOk; rw [if_pos hc]; rfl
  · show Chk.chrOk c c.cr (Chk.implied c) = _
    unfold Chk.chrOk; rw [if_pos hc]; rfl
  · show Chk.chrOk c c.cn 0 = _
    unfold Chk.chrOk; rw [if_pos hc]; rfl
set_option maxRecDepth 100000 in
set_option maxHeartbeats 1000000 in
theorem memories2_any (cs : Array Value) (c : CF) (C : IsC cs c) (hc : c.fmt = 2) (w : World) :
    Calls Tryd.prog 22 #[.agg cs] w fun e w' => e = .returned (.int .i64 (runNo (Chk.may c) 11 4)) ∧ Below w.heap.size w w' := by
  have hsz := C.size
  go_enter Tryd.func22, Tryd.ntmps22
  go_upto_region 1 with fail
  have hb0 : Below w.heap.size w (w.alloc (.cells cs 24)) := (Below.refl _ _).alloc (Nat.le_refl _) _
  have b0 : Blk (w.alloc (.cells cs 24)) w.heap.size cs 24 := Blk.new w cs _
  generalize w.alloc (.cells cs 24) = W at *
  have d11 := (b0.cell 11).trans C.h11
  have d12 := (b0.cell 12).trans C.h12
  have d13 := (b0.cell 13).trans C.h13
  have d14 := (b0.cell 14).trans C.h14
  clear hsz
  go_cut [3] (fun p wx => ∃ lb : Nat, p = .pointer (some ⟨lb, 0, none⟩) ∧ Blk wx w.heap.size cs 24 ∧ Blk wx lb #[.int .i64 c.pr, .int .i64 c.pn, .int .i64 c.cr, .int .i64 c.cn] 56 ∧ Below w.heap.size w wx)
  case first =>
    go_wp2
    go_meet
    exact ⟨_, rfl, b0.old _, Blk.new _ _ _, hb0.alloc hb0.size _⟩
  case rest =>
  clear d11 d12 d13 d14 b0 hb0
  obtain ⟨lb, rfl, bA, lA, hbA⟩ := hcut
  have d0 := (bA.cell 0).trans C.h0
  rw [hc] at d0
  go_upto_region 4 with fail
  rename_i wz
  go_loop [4] (fun x => ∃ i : Nat, i ≤ 4 ∧ x = .int .i64 i ∧ Hid (∀ j, j < i → (Chk.may c).getD (11 + j) false = true)) (fun x => 4 - (intOf x).toNat)
  case atStart => exact ⟨0, by omega, rfl, fun j hj => absurd hj (Nat.not_lt_zero _)⟩
  case round =>
    obtain ⟨i, hi, rfl, hA⟩ := hrel
    by_cases h4 : i < 4
    · have HC := lA.cell i
      have e4 : (#[.int .i64 c.pr, .int .i64 c.pn, .int .i64 c.cr, .int .i64 c.cn] : Array Value)[i]? = some (.int .i64 (l4 c i)) := by
        have : i = 0 ∨ i = 1 ∨ i = 2 ∨ i = 3 := by omega
        rcases this with rfl | rfl | rfl | rfl <;> rfl
      have dl := HC.trans e4
      have MC0 := fun W : World => memory_any (l4 c i) W
      have hm := may_mem2 c hc i h4
      clear HC e4
      cases hok : Chk.ramOk (l4 c i)
      · have HN : Hid (runNo (Chk.may c) 11 4 = ((11 + i : Nat) : Int)) := runNo_at _ 11 4 i (by show 11 + 4 ≤ 19; decide) h4 (fun j hj => hA.out j hj) (by rw [hm]; exact hok)
        rw [hok] at MC0
        have MC : Hid (∀ W : World, _) := MC0
        clear MC0 hm hok
        generalize l4 c i = v at *
        go_wp2_with (go_at_call 31; go_must (refine (MC.out _).mono ?_; rintro e w2 ⟨rfl, hw2⟩; obtain rfl := hw2.symm))
        go_ret
        exact ⟨retN (by rw [HN.out]; omega), hbA⟩
      · have HM : Hid ((Chk.may c).getD (11 + i) false = true) := by unfold Hid; rw [hm]; exact hok
        rw [hok] at MC0
        have MC : Hid (∀ W : World, _) := MC0
        clear MC0 hm hok
        generalize l4 c i = v at *
        go_wp2_with (go_at_call 31; go_must (refine (MC.out _).mono ?_; rintro e w2 ⟨rfl, hw2⟩; obtain rfl := hw2.symm))
        go_round
        case rel => exact ⟨i + 1, by omega, by go_num, fun j hj => (Nat.lt_succ_iff_lt_or_eq.1 hj).elim (fun h => hA.out j h) (fun h => by rw [h]; exact HM.out)⟩
        case measure => simp [intOf]; omega
    · obtain rfl : i = 4 := by omega
      have HN : Hid (runNo (Chk.may c) 11 4 = -1) := runNo_none _ 11 4 (by show 11 + 4 ≤ 19; decide) (fun j hj => hA.out j hj)
      go_wp2
      go_ret
      exact ⟨by rw [HN.out]; rfl, hbA⟩
/-- The greatest number of units of work RAM. -/
def moN (c : CF) : Int := (Chk.row c.fmt).getD 6 0
theorem work_yes (c : CF) (hc : c.fmt = 0 ∨ c.fmt = 1) (n : Int) : Chk.workOk c n true = unOk n 8192 1 (moN c) := by
  unfold Chk.workOk unOk moN
  rw [if_neg (by omega), if_pos rfl]
  by_cases h : 0 < n
  · rw [Int.tmod_eq_emod_of_nonneg (by omega), Int.tdiv_eq_ediv_of_nonneg (by omega)]
    rw [Bool.eq_iff_iff]
    simp
    omega
  · rw [Bool.eq_iff_iff]
    simp
    omega
theorem work_no (c : CF) (hc : c.fmt = 0 ∨ c.fmt = 1) (n : Int) : Chk.workOk c n false = unOk n 8192 0 0 := by
  unfold Chk.workOk unOk
  rw [if_neg (by omega)]
  rw [Bool.eq_iff_iff]
  simp
  omega
end Go.Proofs.YtmjolcdocoiaeaaDoor
