/-
  What wrongField and Check answer; conditions: the cells hold a cartridge's numbers and lists, the tables lie in their variables.
-/
import Derived.Test.YtpdbndkckioamaaDoorChkC
set_option linter.unusedSimpArgs false
set_option linter.unusedVariables false
namespace Go.Proofs.YtpdbndkckioamaaDoor
open Go.RowKit
theorem firstNo_skip (l : List Bool) : ∀ (k : Nat) (i : Int), (∀ j, j < k → l.getD j false = true) → k ≤ l.length → Chk.firstNo i l = Chk.firstNo (i + k) (l.drop k) := by
  induction l with
  | nil => intro k i _ hk; have : k = 0 := by simpa using hk
           subst this; simp
  | cons b l ih =>
    intro k i h hk
    cases k with
    | zero => simp
    | succ k =>
      have hb : b = true := h 0 (by omega)
      subst hb
      rw [Chk.firstNo, if_pos rfl, ih k (i + 1) (fun j hj => h (j + 1) (by omega)) (by simpa using hk), List.drop_succ_cons]
      congr 1
      omega
theorem firstNo_at (l : List Bool) (k : Nat) (h : ∀ j, j < k → l.getD j false = true) (hk : k < l.length) (hn : l.getD k false = false) : Chk.firstNo 0 l = (k : Int) := by
  rw [firstNo_skip l k 0 h (by omega), List.drop_eq_getElem_cons hk]
  have : l[k] = false := by simpa [List.getD, hk] using hn
  rw [this, Chk.firstNo]
  simp
theorem firstNo_none (l : List Bool) (h : ∀ j, j < l.length → l.getD j false = true) : Chk.firstNo 0 l = -1 := by
  rw [firstNo_skip l l.length 0 h (Nat.le_refl _), List.drop_length]
  rfl
theorem may_at (c : CF) (w : World) (i : Nat) (hi : i < 19) : Sem.run Tryd.prog (Instr.index 86 (.agg (mayV c)) (.int .i64 (i : Nat))) w = .ok (.bool ((Chk.may c).getD i false)) w := by
  have k0 : Sem.run Tryd.prog (Instr.index 86 (.agg (mayV c)) (.int .i64 (((0 : Nat) : Int)))) w = .ok (.bool ((Chk.may c).getD 0 false)) w := by kernel_rfl
  have k1 : Sem.run Tryd.prog (Instr.index 86 (.agg (mayV c)) (.int .i64 (((1 : Nat) : Int)))) w = .ok (.bool ((Chk.may c).getD 1 false)) w := by kernel_rfl
  have k2 : Sem.run Tryd.prog (Instr.index 86 (.agg (mayV c)) (.int .i64 (((2 : Nat) : Int)))) w = .ok (.bool ((Chk.may c).getD 2 false)) w := by kernel_rfl
  have k3 : Sem.run Tryd.prog (Instr.index 86 (.agg (mayV c)) (.int .i64 (((3 : Nat) : Int)))) w = .ok (.bool ((Chk.may c).getD 3 false)) w := by kernel_rfl
  have k4 : Sem.run Tryd.prog (Instr.index 86 (.agg (mayV c)) (.int .i64 (((4 : Nat) : Int)))) w = .ok (.bool ((Chk.may c).getD 4 false)) w := by kernel_rfl
  have k5 : Sem.run Tryd.prog (Instr.index 86 (.agg (mayV c)) (.int .i64 (((5 : Nat) : Int)))) w = .ok (.bool ((Chk.may c).getD 5 false)) w := by kernel_rfl
  have k6 : Sem.run Tryd.prog (Instr.index 86 (.agg (mayV c)) (.int .i64 (((6 : Nat) : Int)))) w = .ok (.bool ((Chk.may c).getD 6 false)) w := by kernel_rfl
  have k7 : Sem.run Tryd.prog (Instr.index 86 (.agg (mayV c)) (.int .i64 (((7 : Nat) : Int)))) w = .ok (.bool ((Chk.may c).getD 7 false)) w := by kernel_rfl
  have k8 : Sem.run Tryd.prog (Instr.index 86 (.agg (mayV c)) (.int .i64 (((8 : Nat) : Int)))) w = .ok (.bool ((Chk.may c).getD 8 false)) w := by kernel_rfl
  have k9 : Sem.run Tryd.prog (Instr.index 86 (.agg (mayV c)) (.int .i64 (((9 : Nat) : Int)))) w = .ok (.bool ((Chk.may c).getD 9 false)) w := by kernel_rfl
  have k10 : Sem.run Tryd.prog (Instr.index 86 (.agg (mayV c)) (.int .i64 (((10 : Nat) : Int)))) w = .ok (.bool ((Chk.may c).getD 10 false)) w := by kernel_rfl
  have k11 : Sem.run Tryd.prog (Instr.index 86 (.agg (mayV c)) (.int .i64 (((11 : Nat) : Int)))) w = .ok (.bool ((Chk.may c).getD 11 false)) w := by kernel_rfl
  have k12 : Sem.run Tryd.prog (Instr.index 86 (.agg (mayV c)) (.int .i64 (((12 : Nat) : Int)))) w = .ok (.bool ((Chk.may c).getD 12 false)) w := by kernel_rfl
  have k13 : Sem.run Tryd.prog (Instr.index 86 (.agg (mayV c)) (.int .i64 (((13 : Nat) : Int)))) w = .ok (.bool ((Chk.may c).getD 13 false)) w := by kernel_rfl
  have k14 : Sem.run Tryd.prog (Instr.index 86 (.agg (mayV c)) (.int .i64 (((14 : Nat) : Int)))) w = .ok (.bool ((Chk.may c).getD 14 false)) w := by kernel_rfl
  have k15 : Sem.run Tryd.prog (Instr.index 86 (.agg (mayV c)) (.int .i64 (((15 : Nat) : Int)))) w = .ok (.bool ((Chk.may c).getD 15 false)) w := by kernel_rfl
  have k16 : Sem.run Tryd.prog (Instr.index 86 (.agg (mayV c)) (.int .i64 (((16 : Nat) : Int)))) w = .ok (.bool ((Chk.may c).getD 16 false)) w := by kernel_rfl
  have k17 : Sem.run Tryd.prog (Instr.index 86 (.agg (mayV c)) (.int .i64 (((17 : Nat) : Int)))) w = .ok (.bool ((Chk.may c).getD 17 false)) w := by kernel_rfl
  have k18 : Sem.run Tryd.prog (Instr.index 86 (.agg (mayV c)) (.int .i64 (((18 : Nat) : Int)))) w = .ok (.bool ((Chk.may c).getD 18 false)) w := by kernel_rfl
  have : i = 0 ∨ i = 1 ∨ i = 2 ∨ i = 3 ∨ i = 4 ∨ i = 5 ∨ i = 6 ∨ i = 7 ∨ i = 8 ∨ i = 9 ∨ i = 10 ∨ i = 11 ∨ i = 12 ∨ i = 13 ∨ i = 14 ∨ i = 15 ∨ i = 16 ∨ i = 17 ∨ i = 18 := by omega
  rcases this with rfl | rfl | rfl | rfl | rfl | rfl | rfl | rfl | rfl | rfl | rfl | rfl | rfl | rfl | rfl | rfl | rfl | rfl | rfl
  · exact k0
  · exact k1
  · exact k2
  · exact k3
  · exact k4
  · exact k5
  · exact k6
  · exact k7
  · exact k8
  · exact k9
  · exact k10
  · exact k11
  · exact k12
  · exact k13
  · exact k14
  · exact k15
  · exact k16
  · exact k17
  · exact k18
set_option maxRecDepth 100000 in
set_option maxHeartbeats 1000000 in
theorem wrong_any (cs : Array Value) (c : CF) (C : IsC cs c) (hpr : -9223372036854775808 ≤ c.pr ∧ c.pr ≤ 9223372036854775807) (hpn : -9223372036854775808 ≤ c.pn ∧ c.pn ≤ 9223372036854775807) (w : World) (B : Bnd w) (T : Tz w) :
    Calls Tryd.prog 33 #[.agg cs] w fun e w' => e = .returned (.int .i64 (Chk.wrong c)) ∧ Below w.heap.size w w' := by
  have hsz := C.size
  go_enter Tryd.func33, Tryd.ntmps33
  go_upto_region 1 with fail
  have hb0 : Below w.heap.size w (w.alloc (.cells cs 25)) := (Below.refl _ _).alloc (Nat.le_refl _) _
  have b0 : Blk (w.alloc (.cells cs 25)) w.heap.size cs 25 := Blk.new w cs _
  generalize w.alloc (.cells cs 25) = W at *
  have hB := B.below B.lt hb0
  have hT := T.below hb0
  have d0 := (b0.cell 0).trans C.h0
  clear hsz B T
  have WC : Hid (Calls _ _ _ _ _) := within_any c.fmt 2 W
  by_cases hw : Chk.within c.fmt 2 = true
  · have HW : Hid (Chk.wrong c = Chk.firstNo 0 (Chk.may c)) := by unfold Hid Chk.wrong; rw [if_pos hw]
    have hf : c.fmt = 0 ∨ c.fmt = 1 ∨ c.fmt = 2 := by unfold Chk.within at hw; simp at hw; omega
    have MC : Hid (Calls _ _ _ _ _) := mayBe_any cs c C hf hpr hpn W hB hT
    rw [hw] at WC
    clear hw hB hT hf
    go_upto_region 4 with (first
      | (refine wpList_load_mid rfl 25 _ rfl w.heap.size 0 rfl cs.toList _ b0.range Tryd.underlying25 rfl (by rw [Array.length_toList, C.size]; exact Tryd.infoCart) ?_; rw [Array.toArray_toList])
      | (go_at_call 50; go_must (refine WC.out.mono ?_; rintro e w1 ⟨rfl, hw1⟩; obtain rfl := hw1.symm))
      | (go_at_call 51; go_must (refine MC.out.mono ?_; rintro e w1 ⟨rfl, hb1⟩)))
    have hbb := hb0.trans (hb1.mono hb0.size)
    have hl := may_size c
    have MA : Hid (∀ (W : World) (i : Nat), i < 19 → Sem.run Tryd.prog (Instr.index 86 (.agg (mayV c)) (.int .i64 (i : Nat))) W = .ok (.bool ((Chk.may c).getD i false)) W) := fun W i hi => may_at c W i hi
    clear WC MC b0 hb0 hb1 d0
    generalize Chk.may c = L at *
    generalize mayV c = V at *
    go_loop [11] (fun x => ∃ i : Nat, i ≤ 19 ∧ x = .int .i64 i ∧ Hid (∀ j, j < i → L.getD j false = true)) (fun x => 19 - (intOf x).toNat)
    case atStart => exact ⟨0, by omega, rfl, fun j hj => absurd hj (Nat.not_lt_zero _)⟩
    case round =>
      obtain ⟨i, hi, rfl, hA⟩ := hrel
      by_cases h19 : i < 19
      · have hx := MA.out w1 i h19
        have HC : Hid (∀ b, L.getD i false = b → L.getD i false = b) := fun b h => h
        cases hb : L.getD i false
        · have HN : Hid (Chk.firstNo 0 L = (i : Int)) := firstNo_at L i hA.out (by omega) hb
          rw [hb] at hx
          go_wp2
          go_ret
          exact ⟨by rw [HW.out, HN.out]; rfl, hbb⟩
        · have HB : Hid (L.getD i false = true) := hb
          rw [hb] at hx
          go_wp2
          go_round
          case rel => exact ⟨i + 1, by omega, by go_num, fun j hj => (Nat.lt_succ_iff_lt_or_eq.1 hj).elim (fun h => hA.out j h) (fun h => by rw [h]; exact HB.out)⟩
          case measure => simp [intOf]; omega
      · obtain rfl : i = 19 := by omega
        have HN : Hid (Chk.firstNo 0 L = -1) := firstNo_none L (fun j hj => hA.out j (by omega))
        go_wp2
        go_ret
        exact ⟨by rw [HW.out, HN.out]; rfl, hbb⟩
  · have HW : Hid (Chk.wrong c = 0) := by unfold Hid Chk.wrong; rw [if_neg hw]
    have hw' : Chk.within c.fmt 2 = false := by simpa using hw
    rw [hw'] at WC
    clear hw hw' hB hT
    go_wp2_with (go_at_call 50; go_must (refine WC.out.mono ?_; rintro e w1 ⟨rfl, hw1⟩; obtain rfl := hw1.symm))
    go_ret
    exact ⟨by rw [HW.out]; rfl, hb0⟩
/-- What Check answers. -/
def ckE (c : CF) : Int := if 0 ≤ Chk.wrong c then 17 else if 2097152 < Chk.imageLen c then 1 else 0
def ckN (c : CF) : Int := if 0 ≤ Chk.wrong c then Chk.wrong c else if 2097152 < Chk.imageLen c then 18 else 0
set_option maxRecDepth 100000 in
theorem check_any (cs : Array Value) (c : CF) (C : IsC cs c) (hpr : -9223372036854775808 ≤ c.pr ∧ c.pr ≤ 9223372036854775807) (hpn : -9223372036854775808 ≤ c.pn ∧ c.pn ≤ 9223372036854775807) (w : World) (B : Bnd w) (T : Tz w) :
    Calls Tryd.prog 15 #[.agg cs] w fun e w' => e = .returned (.tuple #[.int .i64 (ckE c), .int .i64 (ckN c)]) ∧ Below w.heap.size w w' := by
  have hsz := C.size
  go_enter Tryd.func15, Tryd.ntmps15
  go_upto_region 1 with fail
  have hb0 : Below w.heap.size w (w.alloc (.cells cs 25)) := (Below.refl _ _).alloc (Nat.le_refl _) _
  have b0 : Blk (w.alloc (.cells cs 25)) w.heap.size cs 25 := Blk.new w cs _
  generalize w.alloc (.cells cs 25) = W at *
  have hB := B.below B.lt hb0
  have hT := T.below hb0
  have WC : Hid (Calls _ _ _ _ _) := wrong_any cs c C hpr hpn W hB hT
  have IC : Hid (∀ W : World, Calls _ _ _ _ _) := fun W => imageLen_any cs c C W
  have HE : Hid (ckE c = if 0 ≤ Chk.wrong c then 17 else if 2097152 < Chk.imageLen c then 1 else 0) := rfl
  have HN : Hid (ckN c = if 0 ≤ Chk.wrong c then Chk.wrong c else if 2097152 < Chk.imageLen c then 18 else 0) := rfl
  have hsz' := hsz
  clear hsz B T hB hT
  by_cases h0 : 0 ≤ Chk.wrong c
  · rw [if_pos h0] at HE HN
    generalize Chk.wrong c = x at *
    go_wp2_with (first
      | (refine wpList_load_mid rfl 25 _ rfl w.heap.size 0 rfl cs.toList _ b0.range Tryd.underlying25 rfl (by rw [Array.length_toList, C.size]; exact Tryd.infoCart) ?_; rw [Array.toArray_toList])
      | (go_at_call 33; go_must (refine WC.out.mono ?_; rintro e w1 ⟨rfl, hb1⟩)))
    go_ret2
    exact ⟨by rw [HE.out, HN.out]; rfl, hb0.trans (hb1.mono hb0.size)⟩
  · rw [if_neg h0] at HE HN
    generalize Chk.wrong c = x at *
    by_cases h1 : 2097152 < Chk.imageLen c
    · rw [if_pos h1] at HE HN
      have h1' : (2097152 : Int) < (Chk.imageLen c : Int) := by omega
      clear h1
      generalize Chk.imageLen c = n at *
      go_upto_region 4 with (first
        | (refine wpList_load_mid rfl 25 _ rfl w.heap.size 0 rfl cs.toList _ b0.range Tryd.underlying25 rfl (by rw [Array.length_toList, C.size]; exact Tryd.infoCart) ?_; rw [Array.toArray_toList])
        | (go_at_call 33; go_must (refine WC.out.mono ?_; rintro e w1 ⟨rfl, hb1⟩)))
      have b1 := b0.below b0.lt hb1
      have hbb := hb0.trans (hb1.mono hb0.size)
      clear b0 hb0 hb1 WC
      go_wp2_with (first
        | (refine wpList_load_mid rfl 25 _ rfl w.heap.size 0 rfl cs.toList _ b1.range Tryd.underlying25 rfl (by rw [Array.length_toList, C.size]; exact Tryd.infoCart) ?_; rw [Array.toArray_toList])
        | (go_at_call 34; go_must (refine (IC.out _).mono ?_; rintro e w2 ⟨rfl, hb2⟩)))
      go_ret2
      exact ⟨by rw [HE.out, HN.out]; rfl, hbb.trans (hb2.mono hbb.size)⟩
    · rw [if_neg h1] at HE HN
      have h1' : ¬ (2097152 : Int) < (Chk.imageLen c : Int) := by omega
      clear h1
      generalize Chk.imageLen c = n at *
      go_upto_region 4 with (first
        | (refine wpList_load_mid rfl 25 _ rfl w.heap.size 0 rfl cs.toList _ b0.range Tryd.underlying25 rfl (by rw [Array.length_toList, C.size]; exact Tryd.infoCart) ?_; rw [Array.toArray_toList])
        | (go_at_call 33; go_must (refine WC.out.mono ?_; rintro e w1 ⟨rfl, hb1⟩)))
      have b1 := b0.below b0.lt hb1
      have hbb := hb0.trans (hb1.mono hb0.size)
      clear b0 hb0 hb1 WC
      go_wp2_with (first
        | (refine wpList_load_mid rfl 25 _ rfl w.heap.size 0 rfl cs.toList _ b1.range Tryd.underlying25 rfl (by rw [Array.length_toList, C.size]; exact Tryd.infoCart) ?_; rw [Array.toArray_toList])
        | (go_at_call 34; go_must (refine (IC.out _).mono ?_; rintro e w2 ⟨rfl, hb2⟩)))
      go_ret2
      exact ⟨by rw [HE.out, HN.out]; rfl, hbb.trans (hb2.mono hbb.size)⟩
end Go.Proofs.YtpdbndkckioamaaDoor
