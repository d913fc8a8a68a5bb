/-
  What the document's numbers answers.
-/
import Derived.Test.YtmjolcdocoiaeaaDoorChkR2
set_option linter.unusedSimpArgs false
set_option linter.unusedVariables false
namespace Go.Proofs.YtmjolcdocoiaeaaDoor
open Go.RowKit
set_option maxRecDepth 100000 in
set_option maxHeartbeats 2000000 in
theorem numbers_any (cs : Array Value) (c : CF) (C : IsC cs c) (f : Nat) (hf3 : f < 3) (hfm : c.fmt = (f : Int)) (w : World) :
    Calls Tryd.prog 21 #[.agg cs] w fun e w' => e = .returned (.int .i64 (runNo (Chk.may c) 1 10)) ∧ Below w.heap.size w w' := by
  have hsz := C.size
  go_enter Tryd.func21, Tryd.ntmps21
  go_upto_region 1 with fail
  have hb0 : Below w.heap.size w (w.alloc (.cells cs 24)) := (Below.refl _ _).alloc (Nat.le_refl _) _
  have b0 : Blk (w.alloc (.cells cs 24)) w.heap.size cs 24 := Blk.new w cs _
  generalize w.alloc (.cells cs 24) = W at *
  have d1 := (b0.cell 1).trans C.h1
  have d2 := (b0.cell 2).trans C.h2
  have d6 := (b0.cell 6).trans C.h6
  have d7 := (b0.cell 7).trans C.h7
  have d8 := (b0.cell 8).trans C.h8
  have d9 := (b0.cell 9).trans C.h9
  have d10 := (b0.cell 10).trans C.h10
  clear hsz
  go_cut [3] (fun p wx => ∃ vb : Nat, p = .pointer (some ⟨vb, 0, none⟩) ∧ Blk wx w.heap.size cs 24 ∧ Blk wx vb #[.int .i64 0, .int .i64 c.map, .int .i64 c.sub, .int .i64 0, .int .i64 0, .int .i64 0, .int .i64 c.con, .int .i64 c.kind, .int .i64 c.tim, .int .i64 c.dev, .int .i64 c.misc] 53 ∧ Below w.heap.size w wx)
  case first =>
    go_wp2
    go_meet
    exact ⟨_, rfl, b0.old _, Blk.new _ _ _, hb0.alloc hb0.size _⟩
  case rest =>
  clear d1 d2 d6 d7 d8 d9 d10 b0 hb0
  obtain ⟨vb, rfl, bA, vA, hbA⟩ := hcut
  go_upto_region 3 with fail
  go_loopw [4] (fun x wr => ∃ i : Nat, 1 ≤ i ∧ i ≤ 11 ∧ x = .int .i64 i ∧ Hid (∀ j, 1 ≤ j → j < i → (Chk.may c).getD j false = true) ∧ Blk wr w.heap.size cs 24 ∧ Blk wr vb #[.int .i64 0, .int .i64 c.map, .int .i64 c.sub, .int .i64 0, .int .i64 0, .int .i64 0, .int .i64 c.con, .int .i64 c.kind, .int .i64 c.tim, .int .i64 c.dev, .int .i64 c.misc] 53 ∧ Below w.heap.size w wr) (fun x _ => 11 - (intOf x).toNat)
  case atStart => exact ⟨1, by omega, by omega, rfl, fun j h1 h2 => absurd h2 (by omega), bA, vA, hbA⟩
  case round =>
    clear bA vA hbA
    obtain ⟨i, h1, h11, rfl, hA, bB, vB, hbr⟩ := hrel
    by_cases h10 : i ≤ 10
    · have d0 := (bB.cell 0).trans C.h0
      rw [hfm] at d0
      have HV : Hid ((#[.int .i64 0, .int .i64 c.map, .int .i64 c.sub, .int .i64 0, .int .i64 0, .int .i64 0, .int .i64 c.con, .int .i64 c.kind, .int .i64 c.tim, .int .i64 c.dev, .int .i64 c.misc] : Array Value)[i]? = some (.int .i64 (vvN c i))) := by
        have : i = 1 ∨ i = 2 ∨ i = 3 ∨ i = 4 ∨ i = 5 ∨ i = 6 ∨ i = 7 ∨ i = 8 ∨ i = 9 ∨ i = 10 := by omega
        rcases this with rfl | rfl | rfl | rfl | rfl | rfl | rfl | rfl | rfl | rfl <;> rfl
      have TP : Hid (∀ W : World, Calls _ _ _ _ _) := fun W => top_any i f (by omega) hf3 W
      by_cases h7 : i = 7
      · have hH : hiN c i f = if c.con = 1 then topN 7 f else if c.con = 3 then (if 15 < topN 7 f then 15 else topN 7 f) else 0 := by unfold hiN; rw [if_pos h7]
        subst h7
        by_cases g1 : c.con = 1
        · have HH : Hid (hiN c 7 f = topN 7 f) := by unfold Hid; rw [hH, if_pos g1]
          have C6 := C.h6
          rw [g1] at C6
          generalize topN 7 f = t at *
          cases hok : (decide (0 ≤ vvN c 7) && decide (vvN c 7 ≤ t))
          · have HM : Hid ((Chk.may c).getD 7 false = false) := by unfold Hid; rw [may_num c f hf3 hfm 7 h1 h10, HH.out]; exact hok
            have HN : Hid (runNo (Chk.may c) 1 10 = ((7 : Nat) : Int)) := by
              have := runNo_at (Chk.may c) 1 10 6 (by show 1 + 10 ≤ 19; decide) (by omega) (fun j hj => by rw [Nat.add_comm]; exact hA.out (j + 1) (by omega) (by omega)) (by rw [show 1 + 6 = 7 from rfl]; exact HM.out)
              exact this.trans (by omega)
            have WC0 := rwithin_any (vvN c 7) 0 t
            rw [hok] at WC0
            have WC : Hid (∀ W : World, _) := WC0
            clear WC0 HM HH hok
            generalize vvN c 7 = v at *
            go_wp2_with (first
              | (go_at_call 29; go_must (refine (TP.out _).mono ?_; rintro e w1 ⟨rfl, hb1⟩; have b1 := bB.below bB.lt hb1; have v1 := vB.below vB.lt hb1; have d6 := (b1.cell 6).trans C6; have dv := (v1.cell 7).trans HV.out; have hbb := hbr.trans (hb1.mono hbr.size)))
              | (go_at_call 30; go_must (refine (WC.out _).mono ?_; rintro e w2 ⟨rfl, hw2⟩; obtain rfl := hw2.symm)))
            go_ret
            exact ⟨by rw [HN.out]; rfl, hbb⟩
          · have HM : Hid ((Chk.may c).getD 7 false = true) := by unfold Hid; rw [may_num c f hf3 hfm 7 h1 h10, HH.out]; exact hok
            have WC0 := rwithin_any (vvN c 7) 0 t
            rw [hok] at WC0
            have WC : Hid (∀ W : World, _) := WC0
            clear WC0 HH hok
            generalize vvN c 7 = v at *
            go_wp2_with (first
              | (go_at_call 29; go_must (refine (TP.out _).mono ?_; rintro e w1 ⟨rfl, hb1⟩; have b1 := bB.below bB.lt hb1; have v1 := vB.below vB.lt hb1; have d6 := (b1.cell 6).trans C6; have dv := (v1.cell 7).trans HV.out; have hbb := hbr.trans (hb1.mono hbr.size)))
              | (go_at_call 30; go_must (refine (WC.out _).mono ?_; rintro e w2 ⟨rfl, hw2⟩; obtain rfl := hw2.symm)))
            go_roundw
            case rel => exact ⟨7 + 1, by omega, by omega, by go_num, fun j hj1 hj => (Nat.lt_succ_iff_lt_or_eq.1 hj).elim (fun h => hA.out j hj1 h) (fun h => by rw [h]; exact HM.out), b1, v1, hbb⟩
            case measure => first | (simp [intOf]; done) | (simp [intOf]; omega)
        · by_cases g3 : c.con = 3
          · by_cases gt : 15 < topN 7 f
            · have HH : Hid (hiN c 7 f = 15) := by unfold Hid; rw [hH, if_neg g1, if_pos g3, if_pos gt]
              have C6 := C.h6
              rw [g3] at C6
              generalize topN 7 f = t at *
              cases hok : (decide (0 ≤ vvN c 7) && decide (vvN c 7 ≤ 15))
              · have HM : Hid ((Chk.may c).getD 7 false = false) := by unfold Hid; rw [may_num c f hf3 hfm 7 h1 h10, HH.out]; exact hok
                have HN : Hid (runNo (Chk.may c) 1 10 = ((7 : Nat) : Int)) := by
                  have := runNo_at (Chk.may c) 1 10 6 (by show 1 + 10 ≤ 19; decide) (by omega) (fun j hj => by rw [Nat.add_comm]; exact hA.out (j + 1) (by omega) (by omega)) (by rw [show 1 + 6 = 7 from rfl]; exact HM.out)
                  exact this.trans (by omega)
                have WC0 := rwithin_any (vvN c 7) 0 15
                rw [hok] at WC0
                have WC : Hid (∀ W : World, _) := WC0
                clear WC0 HM HH hok
                generalize vvN c 7 = v at *
                go_wp2_with (first
                  | (go_at_call 29; go_must (refine (TP.out _).mono ?_; rintro e w1 ⟨rfl, hb1⟩; have b1 := bB.below bB.lt hb1; have v1 := vB.below vB.lt hb1; have d6 := (b1.cell 6).trans C6; have dv := (v1.cell 7).trans HV.out; have hbb := hbr.trans (hb1.mono hbr.size)))
                  | (go_at_call 30; go_must (refine (WC.out _).mono ?_; rintro e w2 ⟨rfl, hw2⟩; obtain rfl := hw2.symm)))
                go_ret
                exact ⟨by rw [HN.out]; rfl, hbb⟩
              · have HM : Hid ((Chk.may c).getD 7 false = true) := by unfold Hid; rw [may_num c f hf3 hfm 7 h1 h10, HH.out]; exact hok
                have WC0 := rwithin_any (vvN c 7) 0 15
                rw [hok] at WC0
                have WC : Hid (∀ W : World, _) := WC0
                clear WC0 HH hok
                generalize vvN c 7 = v at *
                go_wp2_with (first
                  | (go_at_call 29; go_must (refine (TP.out _).mono ?_; rintro e w1 ⟨rfl, hb1⟩; have b1 := bB.below bB.lt hb1; have v1 := vB.below vB.lt hb1; have d6 := (b1.cell 6).trans C6; have dv := (v1.cell 7).trans HV.out; have hbb := hbr.trans (hb1.mono hbr.size)))
                  | (go_at_call 30; go_must (refine (WC.out _).mono ?_; rintro e w2 ⟨rfl, hw2⟩; obtain rfl := hw2.symm)))
                go_roundw
                case rel => exact ⟨7 + 1, by omega, by omega, by go_num, fun j hj1 hj => (Nat.lt_succ_iff_lt_or_eq.1 hj).elim (fun h => hA.out j hj1 h) (fun h => by rw [h]; exact HM.out), b1, v1, hbb⟩
                case measure => first | (simp [intOf]; done) | (simp [intOf]; omega)
            · have HH : Hid (hiN c 7 f = topN 7 f) := by unfold Hid; rw [hH, if_neg g1, if_pos g3, if_neg gt]
              have C6 := C.h6
              rw [g3] at C6
              generalize topN 7 f = t at *
              cases hok : (decide (0 ≤ vvN c 7) && decide (vvN c 7 ≤ t))
              · have HM : Hid ((Chk.may c).getD 7 false = false) := by unfold Hid; rw [may_num c f hf3 hfm 7 h1 h10, HH.out]; exact hok
                have HN : Hid (runNo (Chk.may c) 1 10 = ((7 : Nat) : Int)) := by
                  have := runNo_at (Chk.may c) 1 10 6 (by show 1 + 10 ≤ 19; decide) (by omega) (fun j hj => by rw [Nat.add_comm]; exact hA.out (j + 1) (by omega) (by omega)) (by rw [show 1 + 6 = 7 from rfl]; exact HM.out)
                  exact this.trans (by omega)
                have WC0 := rwithin_any (vvN c 7) 0 t
                rw [hok] at WC0
                have WC : Hid (∀ W : World, _) := WC0
                clear WC0 HM HH hok
                generalize vvN c 7 = v at *
                go_wp2_with (first
                  | (go_at_call 29; go_must (refine (TP.out _).mono ?_; rintro e w1 ⟨rfl, hb1⟩; have b1 := bB.below bB.lt hb1; have v1 := vB.below vB.lt hb1; have d6 := (b1.cell 6).trans C6; have dv := (v1.cell 7).trans HV.out; have hbb := hbr.trans (hb1.mono hbr.size)))
                  | (go_at_call 30; go_must (refine (WC.out _).mono ?_; rintro e w2 ⟨rfl, hw2⟩; obtain rfl := hw2.symm)))
                go_ret
                exact ⟨by rw [HN.out]; rfl, hbb⟩
              · have HM : Hid ((Chk.may c).getD 7 false = true) := by unfold Hid; rw [may_num c f hf3 hfm 7 h1 h10, HH.out]; exact hok
                have WC0 := rwithin_any (vvN c 7) 0 t
                rw [hok] at WC0
                have WC : Hid (∀ W : World, _) := WC0
                clear WC0 HH hok
                generalize vvN c 7 = v at *
                go_wp2_with (first
                  | (go_at_call 29; go_must (refine (TP.out _).mono ?_; rintro e w1 ⟨rfl, hb1⟩; have b1 := bB.below bB.lt hb1; have v1 := vB.below vB.lt hb1; have d6 := (b1.cell 6).trans C6; have dv := (v1.cell 7).trans HV.out; have hbb := hbr.trans (hb1.mono hbr.size)))
                  | (go_at_call 30; go_must (refine (WC.out _).mono ?_; rintro e w2 ⟨rfl, hw2⟩; obtain rfl := hw2.symm)))
                go_roundw
                case rel => exact ⟨7 + 1, by omega, by omega, by go_num, fun j hj1 hj => (Nat.lt_succ_iff_lt_or_eq.1 hj).elim (fun h => hA.out j hj1 h) (fun h => by rw [h]; exact HM.out), b1, v1, hbb⟩
                case measure => first | (simp [intOf]; done) | (simp [intOf]; omega)
          · have HH : Hid (hiN c 7 f = 0) := by unfold Hid; rw [hH, if_neg g1, if_neg g3]
            have C6 := C.h6
            have t1 : (c.con == 1) = false := by rw [beq_eq_false_iff_ne]; exact g1
            have t3 : (c.con == 3) = false := by rw [beq_eq_false_iff_ne]; exact g3
            have q1 : (c.con != 1) = true := by rw [bne, t1]; rfl
            have q3 : (c.con != 3) = true := by rw [bne, t3]; rfl
            clear hH
            generalize topN 7 f = t at *
            cases hok : (decide (0 ≤ vvN c 7) && decide (vvN c 7 ≤ 0))
            · have HM : Hid ((Chk.may c).getD 7 false = false) := by unfold Hid; rw [may_num c f hf3 hfm 7 h1 h10, HH.out]; exact hok
              have HN : Hid (runNo (Chk.may c) 1 10 = ((7 : Nat) : Int)) := by
                have := runNo_at (Chk.may c) 1 10 6 (by show 1 + 10 ≤ 19; decide) (by omega) (fun j hj => by rw [Nat.add_comm]; exact hA.out (j + 1) (by omega) (by omega)) (by rw [show 1 + 6 = 7 from rfl]; exact HM.out)
                exact this.trans (by omega)
              have WC0 := rwithin_any (vvN c 7) 0 0
              rw [hok] at WC0
              have WC : Hid (∀ W : World, _) := WC0
              clear WC0 HM HH hok
              generalize vvN c 7 = v at *
              go_wp2_with (first
                | (go_at_call 29; go_must (refine (TP.out _).mono ?_; rintro e w1 ⟨rfl, hb1⟩; have b1 := bB.below bB.lt hb1; have v1 := vB.below vB.lt hb1; have d6 := (b1.cell 6).trans C6; have dv := (v1.cell 7).trans HV.out; have hbb := hbr.trans (hb1.mono hbr.size)))
                | (go_at_call 30; go_must (refine (WC.out _).mono ?_; rintro e w2 ⟨rfl, hw2⟩; obtain rfl := hw2.symm)))
              go_ret
              exact ⟨by rw [HN.out]; rfl, hbb⟩
            · have HM : Hid ((Chk.may c).getD 7 false = true) := by unfold Hid; rw [may_num c f hf3 hfm 7 h1 h10, HH.out]; exact hok
              have WC0 := rwithin_any (vvN c 7) 0 0
              rw [hok] at WC0
              have WC : Hid (∀ W : World, _) := WC0
              clear WC0 HH hok
              generalize vvN c 7 = v at *
              go_wp2_with (first
                | (go_at_call 29; go_must (refine (TP.out _).mono ?_; rintro e w1 ⟨rfl, hb1⟩; have b1 := bB.below bB.lt hb1; have v1 := vB.below vB.lt hb1; have d6 := (b1.cell 6).trans C6; have dv := (v1.cell 7).trans HV.out; have hbb := hbr.trans (hb1.mono hbr.size)))
                | (go_at_call 30; go_must (refine (WC.out _).mono ?_; rintro e w2 ⟨rfl, hw2⟩; obtain rfl := hw2.symm)))
              go_roundw
              case rel => exact ⟨7 + 1, by omega, by omega, by go_num, fun j hj1 hj => (Nat.lt_succ_iff_lt_or_eq.1 hj).elim (fun h => hA.out j hj1 h) (fun h => by rw [h]; exact HM.out), b1, v1, hbb⟩
              case measure => first | (simp [intOf]; done) | (simp [intOf]; omega)
      · have HH : Hid (hiN c i f = topN i f) := by unfold Hid hiN; rw [if_neg h7]
        have t7 : ((i : Int) == 7) = false := by rw [beq_eq_false_iff_ne]; omega
        have C6 := C.h6
        generalize topN i f = t at *
        cases hok : (decide (0 ≤ vvN c i) && decide (vvN c i ≤ t))
        · have HM : Hid ((Chk.may c).getD i false = false) := by unfold Hid; rw [may_num c f hf3 hfm i h1 h10, HH.out]; exact hok
          have HN : Hid (runNo (Chk.may c) 1 10 = (i : Int)) := by
            have := runNo_at (Chk.may c) 1 10 (i - 1) (by show 1 + 10 ≤ 19; decide) (by omega) (fun j hj => by rw [Nat.add_comm]; exact hA.out (j + 1) (by omega) (by omega)) (by rw [show 1 + (i - 1) = i by omega]; exact HM.out)
            exact this.trans (by omega)
          have WC0 := rwithin_any (vvN c i) 0 t
          rw [hok] at WC0
          have WC : Hid (∀ W : World, _) := WC0
          clear WC0 HM HH hok
          generalize vvN c i = v at *
          go_wp2_with (first
            | (go_at_call 29; go_must (refine (TP.out _).mono ?_; rintro e w1 ⟨rfl, hb1⟩; have b1 := bB.below bB.lt hb1; have v1 := vB.below vB.lt hb1; have d6 := (b1.cell 6).trans C6; have dv := (v1.cell i).trans HV.out; have hbb := hbr.trans (hb1.mono hbr.size)))
            | (go_at_call 30; go_must (refine (WC.out _).mono ?_; rintro e w2 ⟨rfl, hw2⟩; obtain rfl := hw2.symm)))
          go_ret
          exact ⟨by rw [HN.out]; rfl, hbb⟩
        · have HM : Hid ((Chk.may c).getD i false = true) := by unfold Hid; rw [may_num c f hf3 hfm i h1 h10, HH.out]; exact hok
          have WC0 := rwithin_any (vvN c i) 0 t
          rw [hok] at WC0
          have WC : Hid (∀ W : World, _) := WC0
          clear WC0 HH hok
          generalize vvN c i = v at *
          go_wp2_with (first
            | (go_at_call 29; go_must (refine (TP.out _).mono ?_; rintro e w1 ⟨rfl, hb1⟩; have b1 := bB.below bB.lt hb1; have v1 := vB.below vB.lt hb1; have d6 := (b1.cell 6).trans C6; have dv := (v1.cell i).trans HV.out; have hbb := hbr.trans (hb1.mono hbr.size)))
            | (go_at_call 30; go_must (refine (WC.out _).mono ?_; rintro e w2 ⟨rfl, hw2⟩; obtain rfl := hw2.symm)))
          go_roundw
          case rel => exact ⟨i + 1, by omega, by omega, by go_num, fun j hj1 hj => (Nat.lt_succ_iff_lt_or_eq.1 hj).elim (fun h => hA.out j hj1 h) (fun h => by rw [h]; exact HM.out), b1, v1, hbb⟩
          case measure => first | (simp [intOf]; done) | (simp [intOf]; omega)
    · obtain rfl : i = 11 := by omega
      have HN : Hid (runNo (Chk.may c) 1 10 = -1) := runNo_none _ 1 10 (by show 1 + 10 ≤ 19; decide) (fun j hj => by rw [Nat.add_comm]; exact hA.out (j + 1) (by omega) (by omega))
      go_wp2
      go_ret
      exact ⟨by rw [HN.out]; rfl, hbr⟩
end Go.Proofs.YtmjolcdocoiaeaaDoor
