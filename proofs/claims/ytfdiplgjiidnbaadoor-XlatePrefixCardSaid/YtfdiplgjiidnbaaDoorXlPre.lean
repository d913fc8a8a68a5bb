/-
  The law XlatePrefix returns true.
-/
import Derived.Test.YtfdiplgjiidnbaaDoorXlPreB
set_option linter.unusedSimpArgs false
set_option linter.unusedVariables false
namespace Go.Proofs.YtfdiplgjiidnbaaDoor
open Go.RowKit Classical
set_option maxRecDepth 100000 in
set_option maxHeartbeats 6400000 in
theorem pre_law (pc : Nat) (C : List Nat) (a1 : Option Addr) (b1 o1 k1 : Nat) (lim les : Int) (w : World) (hpc : pc < 65536) (hl0 : -9223372036854775808 ≤ lim) (hl1 : lim ≤ 9223372036854775807) (hm0 : -9223372036854775808 ≤ les) (hm1 : les ≤ 9223372036854775807) (hk9 : k1 ≤ 140737488351232)
    (HC : CodeAt w a1 k1 C b1 o1) (T : Tabs w) (RT : Rtab w) :
    Calls Tryd.prog 4 #[.int .u16 (pc : Nat), .slice a1 C.length k1, .int .i64 lim, .int .i64 les] w fun e w' => e = .returned (.bool true) ∧ Below w.heap.size w w' := by
  obtain ⟨P, hor, hP, hP6⟩ := or15 pc hpc
  obtain ⟨N, hN⟩ : ∃ N, 8192 - P % 8192 = N := ⟨_, rfl⟩
  have hN1 : 1 ≤ N ∧ N ≤ 8192 := by omega
  have hNi : (8192 : Int) - (P : Int) % 8192 = (N : Int) := by omega
  have HNN : Hid (8192 - P % 8192 = N) := hN
  have hc1 := HC.le; have hc2 := HC.m
  have hsp := spanV_bd lim 1 64 (by decide)
  obtain ⟨s, hs⟩ : ∃ s : Nat, spanV lim 1 64 = (s : Int) := ⟨(spanV lim 1 64).toNat, by omega⟩
  have hs1 : 1 ≤ s ∧ s ≤ 64 := by omega
  have SPN : Hid (∀ W, Calls Tryd.prog 7 #[.int .i64 lim, .int .i64 1, .int .i64 64] W fun e w' => e = .returned (.int .i64 (s : Nat)) ∧ w' = W) := fun W => by
    have := span_any lim 1 64 W hl0 hl1 (by decide) (by decide) (by decide)
    rwa [hs] at this
  have hsr := spanV_bd les 1 (s : Nat) (by omega)
  obtain ⟨r, hr⟩ : ∃ r : Nat, spanV les 1 (s : Nat) = (r : Int) := ⟨(spanV les 1 (s : Nat)).toNat, by omega⟩
  have hr1 : 1 ≤ r ∧ r ≤ s := by omega
  have SPR : Hid (∀ W, Calls Tryd.prog 7 #[.int .i64 les, .int .i64 1, .int .i64 (s : Nat)] W fun e w' => e = .returned (.int .i64 (r : Nat)) ∧ w' = W) := fun W => by
    have := span_any les 1 (s : Nat) W hm0 hm1 (by decide) (by omega) (by omega)
    rwa [hr] at this
  clear hs hsp hN hsr hr
  obtain ⟨c', hc'⟩ : ∃ c', min C.length N = c' := ⟨_, rfl⟩
  have HC2 : Hid (CodeAt w a1 k1 (C.take c') b1 o1 ∧ (C.take c').length = c' ∧ c' ≤ N) := ⟨HC.take c', by rw [List.length_take]; omega, by omega⟩
  have ha1 : N < C.length → ∃ b o, a1 = some ⟨b, o, none⟩ := fun h => by
    rcases HC.at' with e | e
    · rw [e] at h; simp at h
    · exact ⟨_, _, e⟩
  clear HC
  generalize C.length = cl at *
  generalize C.take c' = L at *
  obtain ⟨n, m, t, at', le, kk, PR, PD, PD0⟩ := pre_of P 0 s r L hP6 hs1.2 hr1.2 HC2.out.1.by'
  have HT1 := PR.T1
  rw [HC2.out.2.1] at HT1
  have TA : Hid (∀ W, Below w.heap.size w W → Calls _ _ _ W _) := fun W hb => tr_bank P s 0 L a1 b1 o1 k1 W hP hP6 hs1.1 hs1.2 (by decide) (by decide) (by rw [HC2.out.2.1, HNN.out]; exact HC2.out.2.2) (HC2.out.1.on hb) (T.on hb) (RT.on hb)
  have TB : Hid (∀ W, Below w.heap.size w W → Calls _ _ _ W _) := fun W hb => tr_bank P r 0 L a1 b1 o1 k1 W hP hP6 hr1.1 (by omega) (by decide) (by decide) (by rw [HC2.out.2.1, HNN.out]; exact HC2.out.2.2) (HC2.out.1.on hb) (T.on hb) (RT.on hb)
  have TD : Hid (∀ W, Below w.heap.size w W → Calls _ _ _ W _) := fun W hb => tr_bank P s 0 (L.take t) a1 b1 o1 k1 W hP hP6 hs1.1 hs1.2 (by decide) (by decide) (by rw [List.length_take, HC2.out.2.1, HNN.out]; have := HC2.out.2.2; omega) ((HC2.out.1.on hb).take t) (T.on hb) (RT.on hb)
  rw [HC2.out.2.1] at TA TB
  rw [List.length_take, HC2.out.2.1, Nat.min_eq_left HT1] at TD
  generalize bkOf P 0 s (L.take t) = BD at *
  have HPR : Hid (Pre L s r (bkOf P 0 s L) (bkOf P 0 r L) n m t at' le kk) := PR
  clear PR
  generalize bkOf P 0 s L = BA at *
  generalize bkOf P 0 r L = BB at *
  have TE : Hid (∀ W b v, Below w.heap.size w W → Code W b 0 (List.replicate (N + 1) 0) → b < W.heap.size + 1 → v = Value.slice (some ⟨b, 0, none⟩) (N + 1) (N + 1) → Calls _ _ _ W _) := fun W b v hb hc hlt hv => tr_long P N s W b v hP hP6 hs1.1 hs1.2 HNN.out (T.on hb) (RT.on hb) hc hlt hv
  have TF : Hid (∀ W b v, Below w.heap.size w W → Code W b 0 [169, 1, 234, 0] → b < W.heap.size + 1 → v = Value.slice (some ⟨b, 0, none⟩) 4 4 → Calls _ _ _ W _) := fun W b v hb hc hlt hv => tr_four W b v (T.on hb) (RT.on hb) hc hlt hv
  have HROW : Hid (RowAt w a1 L ∧ L.length = c' ∧ CodeAt w a1 k1 L b1 o1) := ⟨HC2.out.1.row, HC2.out.2.1, HC2.out.1⟩
  have hcN := HC2.out.2.2
  clear HC2 T RT hP
  go_enter Tryd.func4, Tryd.ntmps4
  go_upto_if 34 with fail
  go_cut [1] (fun v wx => v = .slice a1 c' k1 ∧ wx = w)
  case first =>
    by_cases h : N < cl
    · have hi : (N : Int) < (cl : Int) := by omega
      have hk : (N : Int) ≤ (k1 : Int) := by omega
      have hk0 : ¬ k1 = 0 := by omega
      obtain ⟨b, o, rfl⟩ := ha1 h
      obtain rfl : N = c' := by omega
      go_wp2
      go_meet
      exact ⟨rfl, rfl⟩
    · have hi : ¬ (N : Int) < (cl : Int) := by omega
      obtain rfl : cl = c' := by omega
      go_wp2
      go_meet
      exact ⟨rfl, rfl⟩
  case rest =>
  obtain ⟨rfl, hwc⟩ := hcut
  rw [hwc]
  clear hwc
  have hck : c' ≤ k1 := by omega
  clear ha1 hor hc' hNi
  go_upto_region 6 with (go_at_call 7; go_must (refine (SPN.out _).mono ?_; rintro e W1 ⟨rfl, hw1⟩; obtain rfl := hw1.symm))
  clear SPN
  go_upto_region 7 with (go_at_call 7; go_must (refine (SPR.out _).mono ?_; rintro e W1 ⟨rfl, hw1⟩; obtain rfl := hw1.symm))
  clear SPR
  have CO : Hid (Calls _ _ _ _ _) := copied_x L c' HROW.out.2.1 (by omega) a1 k1 w HROW.out.1
  go_upto_region 8 with (go_at_call 10; go_must (refine CO.out.mono ?_; rintro e W0 ⟨rfl, hC0, hb0⟩))
  clear CO
  have hg0 : w.heap.size < W0.heap.size + 1 := by have := hb0.size; omega
  go_cut [11, 12] (fun p e wx => ∃ q va vc, p = .pointer (some ⟨q, 0, none⟩) ∧ e = .int .i64 0 ∧ Bl W0 #[.int .u16 (P : Nat), .int .i64 0, .string BA.s, .int .i64 BA.ni, .slice va BA.l.length vc, .int .i64 BA.lo, .int .i64 BA.hi] q wx)
  case first =>
    go_wp2_with (go_at_call 8; go_must (refine (TA.out _ hb0).mono ?_; rintro e W1 ⟨va, vc, rfl, r1, hb1⟩))
    go_meet
    exact ⟨_, va, vc, rfl, rfl, Bl.laid hb1⟩
  case rest =>
  clear TA
  obtain ⟨q1, va, vc, rfl, rfl, F⟩ := hcut
  generalize wc = W1 at *
  have hb1 := hb0.trans (F.hb.mono hb0.size)
  go_upto_region 9 with fail
  exact pre_tail P N s r c' k1 n m t q1 b1 o1 a1 va vc L BA BB BD at' le kk w W0 W1 hN1 hs1 hr1 HT1 hcN hck hk9 HPR HROW PD PD0 TD TE TF TB F hC0 hb0 hb1 hg0 _ _ _ _ _ _ _ _ _ _ _ _ _ _ _ _ _ _ _ _ _ _ _ _ _ _ _ _ _ _ _ _ _ _ _ _ _ _ _ _ _ _ _ _ _ _ _ _ _ _ _ _ _ _ _ _ _ _ _ _ _ _ _ _ _ _ _ _ _ _ _ _ _ _ _ _ _ _ _ _ _ _ _ _ _ _ _ _ _ _ _ _ _ _ _ _ _ _ _ _ _ _ _ _ _ _ _ _ _ _ _ _ _ _ _ _ _ _ _ _ _ _ _ _ _ _ _ _ _ _ _ _ _ _ _ _ _ _ _ _ _ _ _ _ _ _ _ _ _ _ _ _ _ _ _ _ _ _ _ _ _ _ _ _ _ _ _ _ _ _ _ _ _ _ _ _ _ _ _ _ _ _ _ _ _ _ _ _ _ _ _ _ _ _ _ _ _ _ _ _ _ _ _ _ _ _ _ _ _ _ _ _ _ _ _ _ _ _ _ _ _ _ _ _ _ _ _ _ _ _ _ _ _ _ _ _ _ _ _ _ _ _ _ _ _ _ _ _ _ _ _ _ _ _ _ (by assumption)
end Go.Proofs.YtfdiplgjiidnbaaDoor
