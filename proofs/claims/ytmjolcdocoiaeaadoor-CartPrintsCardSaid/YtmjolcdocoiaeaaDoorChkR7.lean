/-
  What the document's Check answers: what the program's answers.
-/
import Derived.Test.YtmjolcdocoiaeaaDoorChkR6
import Derived.Test.YtmjolcdocoiaeaaDoorChkR3
import Derived.Test.YtmjolcdocoiaeaaDoorChkD
set_option linter.unusedSimpArgs false
set_option linter.unusedVariables false
namespace Go.Proofs.YtmjolcdocoiaeaaDoor
open Go.RowKit
theorem memories_any (cs : Array Value) (c : CF) (C : IsC cs c) (hf : c.fmt = 0 ∨ c.fmt = 1 ∨ c.fmt = 2) (hpr : -9223372036854775808 ≤ c.pr ∧ c.pr ≤ 9223372036854775807) (hpn : -9223372036854775808 ≤ c.pn ∧ c.pn ≤ 9223372036854775807) (w : World) :
    Calls Tryd.prog 22 #[.agg cs] w fun e w' => e = .returned (.int .i64 (runNo (Chk.may c) 11 4)) ∧ Below w.heap.size w w' := by
  by_cases h2 : c.fmt = 2
  · exact memories2_any cs c C h2 w
  · exact memories1_any cs c C (by omega) hpr hpn w
/-- The three runs' answers put together. -/
def three (a b d : Int) : Int := if a < 0 then (if b < 0 then d else b) else a
theorem firstNo_run (l : List Bool) : ∀ (a : Int), 0 ≤ a → (∀ m : List Bool, Chk.firstNo a (l ++ m) = if Chk.firstNo a l < 0 then Chk.firstNo (a + l.length) m else Chk.firstNo a l) ∧ (Chk.firstNo a l < 0 → Chk.firstNo a l = -1) := by
  induction l with
  | nil => intro a ha; exact ⟨fun m => by simp [Chk.firstNo], fun _ => rfl⟩
  | cons b l ih =>
    intro a ha
    cases b with
    | false => exact ⟨fun m => by rw [List.cons_append, Chk.firstNo, Chk.firstNo]; simp; omega, fun h => by rw [Chk.firstNo] at h; simp at h; omega⟩
    | true =>
      obtain ⟨h1, h2⟩ := ih (a + 1) (by omega)
      refine ⟨fun m => ?_, fun h => ?_⟩
      · rw [List.cons_append, Chk.firstNo, if_pos rfl, h1 m]
        have e : Chk.firstNo a (true :: l) = Chk.firstNo (a + 1) l := by rw [Chk.firstNo, if_pos rfl]
        rw [e, List.length_cons, show a + 1 + (l.length : Int) = a + ((l.length + 1 : Nat) : Int) by omega]
      · rw [Chk.firstNo, if_pos rfl] at h ⊢
        exact h2 h
theorem wrong_three (c : CF) : Chk.firstNo 0 (Chk.may c) = three (runNo (Chk.may c) 1 10) (runNo (Chk.may c) 11 4) (runNo (Chk.may c) 15 4) := by
  have hl := may_size c
  have h0 : (Chk.may c) = true :: (((Chk.may c).drop 1).take 10 ++ (((Chk.may c).drop 11).take 4 ++ ((Chk.may c).drop 15).take 4)) := rfl
  have l1 : (((Chk.may c).drop 1).take 10).length = 10 := rfl
  have l2 : (((Chk.may c).drop 11).take 4).length = 4 := rfl
  unfold runNo three
  rw [show Chk.firstNo 0 (Chk.may c) = Chk.firstNo 1 (((Chk.may c).drop 1).take 10 ++ (((Chk.may c).drop 11).take 4 ++ ((Chk.may c).drop 15).take 4)) from rfl]
  rw [(firstNo_run _ 1 (by decide)).1, l1]
  rw [show (1 : Int) + ((10 : Nat) : Int) = ((11 : Nat) : Int) from rfl, (firstNo_run _ ((11 : Nat) : Int) (by decide)).1, l2]
  rfl
set_option maxRecDepth 100000 in
set_option maxHeartbeats 1000000 in
theorem rcheck_any (cs : Array Value) (c : CF) (C : IsC cs c) (hpr : -9223372036854775808 ≤ c.pr ∧ c.pr ≤ 9223372036854775807) (hpn : -9223372036854775808 ≤ c.pn ∧ c.pn ≤ 9223372036854775807) (w : World) :
    Calls Tryd.prog 14 #[.agg cs] w fun e w' => e = .returned (.tuple #[.int .i64 (ckE c), .int .i64 (ckN c)]) ∧ Below w.heap.size w w' := by
  have hsz := C.size
  go_enter Tryd.func14, Tryd.ntmps14
  go_upto_region 1 with fail
  have hb0 : Below w.heap.size w (w.alloc (.cells cs 24)) := (Below.refl _ _).alloc (Nat.le_refl _) _
  have b0 : Blk (w.alloc (.cells cs 24)) w.heap.size cs 24 := Blk.new w cs _
  generalize w.alloc (.cells cs 24) = W at *
  have d0 := (b0.cell 0).trans C.h0
  clear hsz
  have HE : Hid (ckE c = if 0 ≤ Chk.wrong c then 17 else if 2097152 < Chk.imageLen c then 1 else 0) := rfl
  have HN : Hid (ckN c = if 0 ≤ Chk.wrong c then Chk.wrong c else if 2097152 < Chk.imageLen c then 18 else 0) := rfl
  by_cases hl : c.fmt < 0
  · have HW : Chk.wrong c = 0 := by unfold Chk.wrong Chk.within; rw [decide_eq_false (show ¬ 0 ≤ c.fmt by omega)]; rfl
    rw [HW, if_pos (by decide)] at HE HN
    clear HW
    go_wp2
    go_ret2
    exact ⟨by rw [HE.out, HN.out]; rfl, hb0⟩
  by_cases hh : 2 < c.fmt
  · have HW : Chk.wrong c = 0 := by unfold Chk.wrong Chk.within; rw [decide_eq_false (show ¬ c.fmt ≤ 2 by omega), Bool.and_false]; rfl
    rw [HW, if_pos (by decide)] at HE HN
    clear HW
    go_wp2
    go_ret2
    exact ⟨by rw [HE.out, HN.out]; rfl, hb0⟩
  have hf : Hid (c.fmt = 0 ∨ c.fmt = 1 ∨ c.fmt = 2) := by unfold Hid; omega
  have HW : Chk.wrong c = three (runNo (Chk.may c) 1 10) (runNo (Chk.may c) 11 4) (runNo (Chk.may c) 15 4) := by
    unfold Chk.wrong; rw [if_pos (by unfold Chk.within; simp; omega)]; exact wrong_three c
  have NC : Hid (∀ W : World, _) := fun W : World => numbers_any cs c C c.fmt.toNat (by have := hf.out; omega) (by have := hf.out; omega) W
  have MC : Hid (∀ W : World, _) := fun W : World => memories_any cs c C hf.out hpr hpn W
  have LC : Hid (∀ W : World, _) := fun W : World => lists_any cs c C W
  go_upto_region 3 with fail
  clear d0 hl hh hf
  rw [HW] at HE HN
  clear HW
  generalize runNo (Chk.may c) 1 10 = ra at *
  generalize runNo (Chk.may c) 11 4 = rb at *
  generalize runNo (Chk.may c) 15 4 = rc at *
  go_cut [4] (fun q wx => q = .int .i64 ra ∧ Blk wx w.heap.size cs 24 ∧ Below w.heap.size w wx)
  case first =>
    go_wp2_with (first
      | (refine wpList_load_mid rfl 24 _ rfl w.heap.size 0 rfl cs.toList _ b0.range Tryd.underlying24 rfl (by rw [Array.length_toList, C.size]; exact Tryd.infoCart) ?_; rw [Array.toArray_toList])
      | (go_at_call 21; go_must (refine (NC.out _).mono ?_; rintro e w1 ⟨rfl, hb1⟩)))
    go_meet
    exact ⟨rfl, b0.below b0.lt hb1, hb0.trans (hb1.mono hb0.size)⟩
  case rest =>
  clear NC b0 hb0
  obtain ⟨rfl, bA, hbA⟩ := hcut
  go_upto_if 16 with fail
  go_cut [4] (fun q wx => q = .int .i64 (if ra < 0 then rb else ra) ∧ Blk wx w.heap.size cs 24 ∧ Below w.heap.size w wx)
  case first =>
    by_cases h : ra < 0
    · have e4 : (if ra < 0 then rb else ra) = rb := if_pos h
      have E4 : Hid _ := e4
      clear e4
      go_wp2_with (first
        | (refine wpList_load_mid rfl 24 _ rfl w.heap.size 0 rfl cs.toList _ bA.range Tryd.underlying24 rfl (by rw [Array.length_toList, C.size]; exact Tryd.infoCart) ?_; rw [Array.toArray_toList])
        | (go_at_call 22; go_must (refine (MC.out _).mono ?_; rintro e w1 ⟨rfl, hb1⟩)))
      go_meet
      exact ⟨by rw [E4.out], bA.below bA.lt hb1, hbA.trans (hb1.mono hbA.size)⟩
    · have e4 : (if ra < 0 then rb else ra) = ra := if_neg h
      have E4 : Hid _ := e4
      clear e4
      go_wp2
      go_meet
      exact ⟨by rw [E4.out], bA, hbA⟩
  case rest =>
  clear MC bA hbA
  obtain ⟨rfl, bA, hbA⟩ := hcut
  have H3 : Hid (three ra rb rc = if (if ra < 0 then rb else ra) < 0 then rc else (if ra < 0 then rb else ra)) := by
    unfold Hid three
    by_cases h : ra < 0
    · rw [if_pos h, if_pos h]
    · rw [if_neg h, if_neg h, if_neg h]
  generalize (if ra < 0 then rb else ra) = rd at *
  go_upto_if 20 with fail
  go_cut [4] (fun q wx => q = .int .i64 (three ra rb rc) ∧ Blk wx w.heap.size cs 24 ∧ Below w.heap.size w wx)
  case first =>
    generalize three ra rb rc = rt at *
    by_cases h : rd < 0
    · rw [if_pos h] at H3
      obtain rfl := H3.out
      go_wp2_with (first
        | (refine wpList_load_mid rfl 24 _ rfl w.heap.size 0 rfl cs.toList _ bA.range Tryd.underlying24 rfl (by rw [Array.length_toList, C.size]; exact Tryd.infoCart) ?_; rw [Array.toArray_toList])
        | (go_at_call 23; go_must (refine (LC.out _).mono ?_; rintro e w1 ⟨rfl, hb1⟩)))
      go_meet
      exact ⟨rfl, bA.below bA.lt hb1, hbA.trans (hb1.mono hbA.size)⟩
    · rw [if_neg h] at H3
      obtain rfl := H3.out
      go_wp2
      go_meet
      exact ⟨rfl, bA, hbA⟩
  case rest =>
  clear LC bA hbA H3
  obtain ⟨rfl, bA, hbA⟩ := hcut
  generalize three ra rb rc = rt at *
  by_cases h0 : 0 ≤ rt
  · rw [if_pos h0] at HE HN
    go_wp2
    go_ret2
    exact ⟨by rw [HE.out, HN.out]; rfl, hbA⟩
  rw [if_neg h0] at HE HN
  obtain ⟨a15, k15, e15⟩ := C.h15
  obtain ⟨a16, k16, e16⟩ := C.h16
  obtain ⟨a17, k17, e17⟩ := C.h17
  obtain ⟨a18, k18, e18⟩ := C.h18
  have d15 := (bA.cell 15).trans e15
  have d16 := (bA.cell 16).trans e16
  have d17 := (bA.cell 17).trans e17
  have d18 := (bA.cell 18).trans e18
  have mt := C.mt
  have mp := C.mp
  have mq := C.mq
  have mr := C.mr
  have HI : Hid (Chk.imageLen c = 16 + c.nt + c.np + c.nq + c.nr) := rfl
  by_cases h1 : 2097152 < Chk.imageLen c
  · rw [if_pos h1] at HE HN
    have h1' : (2097152 : Int) < 16 + (c.nt : Int) + (c.np : Int) + (c.nq : Int) + (c.nr : Int) := by rw [HI.out] at h1; omega
    clear h1
    go_wp2
    go_ret2
    exact ⟨by rw [HE.out, HN.out]; rfl, hbA⟩
  · rw [if_neg h1] at HE HN
    have h1' : ¬ (2097152 : Int) < 16 + (c.nt : Int) + (c.np : Int) + (c.nq : Int) + (c.nr : Int) := by rw [HI.out] at h1; omega
    clear h1
    go_wp2
    go_ret2
    exact ⟨by rw [HE.out, HN.out]; rfl, hbA⟩
end Go.Proofs.YtmjolcdocoiaeaaDoor
