/-
  The law RewindPatches returns true of any two lists of bytes.
-/
import Derived.Test.YtbgikffoidaamaaDoorXwRPat
set_option linter.unusedSimpArgs false
set_option linter.unusedVariables false
namespace Go.Proofs.YtbgikffoidaamaaDoor
open Go.RowKit Classical
def lit10 : List Nat := [84, 80, 0, 0, 0, 0, 0, 0, 0, 0]
def lit9 : List Nat := [84, 80, 0, 0, 0, 0, 0, 0, 0]
theorem lit10_is : lit10 = diffL [] [] := by decide +kernel
theorem row_new (W : World) (l : List Nat) (cs : Array Value) (hc : cs = (vals l).toArray) : Row (W.alloc (.cells cs 5)) (some ⟨W.heap.size, 0, none⟩) l := by
  refine .inr ⟨_, 0, rfl, fun i hi => ?_⟩
  rw [Nat.zero_add, (Blk.new W _ 5).cell i, hc]
  simp [vals, hi]
set_option maxRecDepth 100000 in
set_option maxHeartbeats 3200000 in
theorem patches_law (F D : List Nat) (nf nd : Nat) (hF : Bytes F) (hD : Bytes D) (hnf : F.length = nf) (hnd : D.length = nd) (mf : nf ≤ 140737488351232) (mt : nd ≤ 140737488351232) (a ad : Option Addr) (kf kd : Nat) (hkd : nd ≤ kd) (hnil : ad = none → kd = 0) (w : World)
    (RF : Row w a F) (RD : Row w ad D) (tab : Tab w) :
    Calls Tryd.prog 8 #[.slice a nf kf, .slice ad nd kd] w fun e w' => e = .returned (.bool true) ∧ Below w.heap.size w w' := by
  have HN : Hid (F.length = nf ∧ D.length = nd) := ⟨hnf, hnd⟩
  have HB : Hid (Bytes F ∧ Bytes D) := ⟨hF, hD⟩
  have HNIL : Hid (ad = none → kd = 0) := hnil
  have HR : Hid (∀ W, Below w.heap.size w W → Row W a F ∧ Row W ad D ∧ Tab W) := fun W h => ⟨RF.below h, RD.below h, tab.below tab.lt h⟩
  have B1 : Hid (Below w.heap.size w (w.alloc (.cells #[.int .u8 84, .int .u8 80, .int .u8 0, .int .u8 0, .int .u8 0, .int .u8 0, .int .u8 0, .int .u8 0, .int .u8 0, .int .u8 0] 5))) := (Below.refl _ _).alloc (Nat.le_refl _) _
  have R1 : Hid (Row (w.alloc (.cells #[.int .u8 84, .int .u8 80, .int .u8 0, .int .u8 0, .int .u8 0, .int .u8 0, .int .u8 0, .int .u8 0, .int .u8 0, .int .u8 0] 5)) (some ⟨w.heap.size, 0, none⟩) lit10) := row_new w lit10 _ rfl
  clear hF hD hnf hnd RF RD tab hnil
  go_enter Tryd.func8, Tryd.ntmps8
  go_wp2_with fail
  generalize w.alloc (.cells #[.int .u8 84, .int .u8 80, .int .u8 0, .int .u8 0, .int .u8 0, .int .u8 0, .int .u8 0, .int .u8 0, .int .u8 0, .int .u8 0] 5) = w1 at *
  refine (patch_yes [] [] lit10 0 10 0 10 none _ (fun x hx => by cases hx) ⟨(fun x hx => by cases hx), by decide⟩ lit10_is rfl rfl (by decide) (Nat.le_refl _) (fun h => by cases h) w1 (.inl rfl) R1.out (HR.out _ B1.out).2.2).mono ?_
  rintro e w2 ⟨g2, s2, rfl, hs2, -, -, b2⟩
  obtain rfl : s2 = 0 := by simpa using hs2.symm
  have B2 : Hid (Below w.heap.size w w2) := B1.out.trans (b2.mono B1.out.size)
  have B3 : Hid (Below w.heap.size w (w2.alloc (.cells #[.int .u8 84, .int .u8 80, .int .u8 0, .int .u8 0, .int .u8 0, .int .u8 0, .int .u8 0, .int .u8 0, .int .u8 0] 5))) := B2.out.alloc B2.out.size _
  have R3 : Hid (Row (w2.alloc (.cells #[.int .u8 84, .int .u8 80, .int .u8 0, .int .u8 0, .int .u8 0, .int .u8 0, .int .u8 0, .int .u8 0, .int .u8 0] 5)) (some ⟨w2.heap.size, 0, none⟩) lit9) := row_new w2 lit9 _ rfl
  clear hs2 b2 R1 B1
  go_wp2_with fail
  generalize w2.alloc (.cells #[.int .u8 84, .int .u8 80, .int .u8 0, .int .u8 0, .int .u8 0, .int .u8 0, .int .u8 0, .int .u8 0, .int .u8 0] 5) = w3 at *
  refine (patch_no [] lit9 0 9 0 9 none _ (fun x hx => by cases hx) (by unfold Bytes lit9; decide) rfl rfl (by decide) (by decide) (Nat.le_refl _) (fun h => by cases h) w3 (.inl rfl) R3.out (HR.out _ B3.out).2.2 (fun T2 hG e => by have := (diffL_len (F := []) (T := T2) (by decide) hG.2).1; rw [← e] at this; simp [lit9] at this)).mono ?_
  rintro e w4 ⟨rfl, b4⟩
  have B4 : Hid (Below w.heap.size w w4) := B3.out.trans (b4.mono B3.out.size)
  clear b4 R3 B3 B2
  by_cases h1 : 65536 < nf
  · go_wp2_with fail
    refine (patch_long nf nd kf kd a ad h1 w4).mono ?_
    rintro e w5 ⟨rfl, rfl⟩
    go_wp2_with fail
    refine (rpatch_long nf nd kf kd a ad h1 w5).mono ?_
    rintro e w6 ⟨rfl, rfl⟩
    go_wp2_with fail
    refine (same_any [] [] 0 0 (fun x hx => by cases hx) (fun x hx => by cases hx) rfl rfl (by decide) none none 0 0 w6 (.inl rfl) (.inl rfl)).mono ?_
    rintro e w7 ⟨rfl, b7⟩
    rw [sameB_self]
    have B7 : Hid (Below w.heap.size w w7) := B4.out.trans (b7.mono B4.out.size)
    clear b7
    go_wp2
    go_ret
    exact ⟨rfl, B7.out⟩
  have hf : nf ≤ 65536 := by omega
  go_wp2_with fail
  refine (patch_any F D nf nd kf kd a ad HB.out.1 HB.out.2 HN.out.1 HN.out.2 hf (by omega) hkd HNIL.out w4 (HR.out _ B4.out).1 (HR.out _ B4.out).2.1 (HR.out _ B4.out).2.2).mono ?_
  rintro e w5 ⟨b5, h | h⟩
  · obtain ⟨rfl, hno⟩ := h
    have HNO : Hid (∀ T2, Good T2 → D ≠ diffL F T2) := hno
    have B5 : Hid (Below w.heap.size w w5) := B4.out.trans (b5.mono B4.out.size)
    clear hno b5
    go_wp2_with fail
    refine (rpatch_any F D nf nd kf kd a ad HB.out.1 HB.out.2 HN.out.1 HN.out.2 hf (by omega) w5 (HR.out _ B5.out).1 (HR.out _ B5.out).2.1).mono ?_
    rintro e w6 ⟨b6, h | h⟩
    · obtain ⟨rfl, -⟩ := h
      have B6 : Hid (Below w.heap.size w w6) := B5.out.trans (b6.mono B5.out.size)
      clear b6
      go_wp2_with fail
      refine (same_any [] [] 0 0 (fun x hx => by cases hx) (fun x hx => by cases hx) rfl rfl (by decide) none none 0 0 w6 (.inl rfl) (.inl rfl)).mono ?_
      rintro e w7 ⟨rfl, b7⟩
      rw [sameB_self]
      have B7 : Hid (Below w.heap.size w w7) := B6.out.trans (b7.mono B6.out.size)
      clear b7
      go_wp2
      go_ret
      exact ⟨rfl, B7.out⟩
    · obtain ⟨g, s, T, -, -, -, -, hG, hE⟩ := h
      exact absurd hE (HNO.out T hG)
  · obtain ⟨g5, s5, T5, rfl, hs5, hg5, O5, hG5, hE5⟩ := h
    have B5 : Hid (Below w.heap.size w w5) := B4.out.trans (b5.mono B4.out.size)
    have HT5 : Hid (T5.length = s5 ∧ Good T5 ∧ D = diffL F T5) := ⟨hs5, hG5, hE5⟩
    have HO5 : Hid (Own w5 g5 T5) := O5
    have h65 : s5 ≤ 65536 := by rw [← hs5]; exact hG5.2
    clear hs5 O5 hG5 hE5 b5
    go_wp2_with fail
    refine (rpatch_any F D nf nd kf kd a ad HB.out.1 HB.out.2 HN.out.1 HN.out.2 hf (by omega) w5 (HR.out _ B5.out).1 (HR.out _ B5.out).2.1).mono ?_
    rintro e w6 ⟨b6, h | h⟩
    · exact absurd HT5.out.2.2 (h.2 T5 HT5.out.2.1)
    · obtain ⟨g6, s6, T6, rfl, hs6, hg6, O6, hG6, hE6⟩ := h
      obtain rfl : T5 = T6 := diffL_inj (by rw [HN.out.1]; exact hf) HT5.out.2.1 hG6 (HT5.out.2.2.symm.trans hE6)
      obtain rfl : s5 = s6 := by rw [← hs6]; exact HT5.out.1.symm
      have B6 : Hid (Below w.heap.size w w6) := B5.out.trans (b6.mono B5.out.size)
      have HO6 : Hid (Own w6 g6 T5) := O6
      have HO7 : Hid (Own w6 g5 T5) := HO5.out.below HO5.out.lt b6
      clear hs6 O6 hG6 hE6 b6
      go_wp2_with fail
      refine (same_any T5 T5 s5 s5 HT5.out.2.1.1 HT5.out.2.1.1 HT5.out.1 HT5.out.1 (by omega) (some ⟨g5, 0, none⟩) (some ⟨g6, 0, none⟩) s5 s5 w6 HO7.out.row HO6.out.row).mono ?_
      rintro e w7 ⟨rfl, b7⟩
      rw [sameB_self]
      have B7 : Hid (Below w.heap.size w w7) := B6.out.trans (b7.mono B6.out.size)
      clear b7
      go_wp2
      go_ret
      exact ⟨rfl, B7.out⟩
end Go.Proofs.YtbgikffoidaamaaDoor
