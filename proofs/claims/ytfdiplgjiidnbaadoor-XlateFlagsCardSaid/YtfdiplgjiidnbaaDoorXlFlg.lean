/-
  The law XlateFlags returns true.
-/
import Derived.Test.YtfdiplgjiidnbaaDoorXlFlgT
set_option linter.unusedSimpArgs false
set_option linter.unusedVariables false
namespace Go.Proofs.YtfdiplgjiidnbaaDoor
open Go.RowKit Classical
set_option maxRecDepth 100000 in
set_option maxHeartbeats 8000000 in
theorem flg_law (pc : Nat) (C : List Nat) (a1 : Option Addr) (b1 o1 k1 : Nat) (lim : Int) (w : World) (hpc : pc < 65536) (hl0 : -9223372036854775808 ≤ lim) (hl1 : lim ≤ 9223372036854775807)
    (HC : CodeAt w a1 k1 C b1 o1) (T : Tabs w) (RT : Rtab w) :
    Calls Tryd.prog 5 #[.int .u16 (pc : Nat), .slice a1 C.length k1, .int .i64 lim] w fun e w' => e = .returned (.bool true) ∧ Below w.heap.size w w' := by
  obtain ⟨P, hor, hP, hP6⟩ := or15 pc hpc
  obtain ⟨N, hN⟩ : ∃ N, 8192 - P % 8192 = N := ⟨_, rfl⟩
  have hN1 : 1 ≤ N ∧ N ≤ 8192 := by omega
  have hNi : (8192 : Int) - (P : Int) % 8192 = (N : Int) := by omega
  have HNN : Hid (8192 - P % 8192 = N) := hN
  have hc1 := HC.le; have hc2 := HC.m
  have hsp := spanV_bd lim 1 64 (by decide)
  obtain ⟨s, hs⟩ : ∃ s : Nat, spanV lim 1 64 = (s : Int) := ⟨(spanV lim 1 64).toNat, by omega⟩
  have hs1 : 1 ≤ s ∧ s ≤ 64 := by omega
  have SPN : Hid (∀ W, Calls Tryd.prog 7 #[.int .i64 lim, .int .i64 1, .int .i64 64] W fun e w' => e = .returned (.int .i64 (s : Nat)) ∧ w' = W) := fun W => by
    have := span_any lim 1 64 W hl0 hl1 (by decide) (by decide) (by decide)
    rwa [hs] at this
  clear hs hsp hN
  obtain ⟨c', hc'⟩ : ∃ c', min C.length N = c' := ⟨_, rfl⟩
  have HC2 : Hid (CodeAt w a1 k1 (C.take c') b1 o1 ∧ (C.take c').length = c' ∧ c' ≤ N) := ⟨HC.take c', by rw [List.length_take]; omega, by omega⟩
  have ha1 : N < C.length → ∃ b o, a1 = some ⟨b, o, none⟩ := fun h => by
    rcases HC.at' with e | e
    · rw [e] at h; simp at h
    · exact ⟨_, _, e⟩
  clear HC
  generalize C.length = cl at *
  generalize C.take c' = L at *
  have TA : Hid (∀ W, Below w.heap.size w W → Calls _ _ _ W _) := fun W hb => tr_bank P s 7 L a1 b1 o1 k1 W hP hP6 hs1.1 hs1.2 (by decide) (by decide) (by rw [HC2.out.2.1, HNN.out]; exact HC2.out.2.2) (HC2.out.1.on hb) (T.on hb) (RT.on hb)
  rw [HC2.out.2.1] at TA
  have FG : Hid (Fg (bkOf P 7 s L).l (bkOf P 7 s L).ni) := fg_of P 7 s L hP6 hs1.2 HC2.out.1.by'
  have BKL : Hid ((bkOf P 7 s L).l.length ≤ 256) := bk_len hs1.2
  have HT : Hid (Tabs w) := T
  have TS : Hid (∀ W b v, Below w.heap.size w W → Code W b 0 six → b < W.heap.size + 1 → v = Value.slice (some ⟨b, 0, none⟩) 6 6 → Calls _ _ _ W _) := fun W b v hb hc hlt hv => tr_six W b v (T.on hb) (RT.on hb) hc hlt hv
  generalize bkOf P 7 s L = BK at *
  clear HC2 T RT hP
  go_enter Tryd.func5, Tryd.ntmps5
  go_upto_if 28 with fail
  go_cut [1] (fun v wx => v = .slice a1 c' k1 ∧ wx = w)
  case first =>
    by_cases h : N < cl
    · have hi : (N : Int) < (cl : Int) := by omega
      have hk : (N : Int) ≤ (k1 : Int) := by omega
      have hk0 : ¬ k1 = 0 := by omega
      obtain ⟨b, o, rfl⟩ := ha1 h
      obtain rfl : N = c' := by omega
      go_wp2
      go_meet
      exact ⟨rfl, rfl⟩
    · have hi : ¬ (N : Int) < (cl : Int) := by omega
      obtain rfl : cl = c' := by omega
      go_wp2
      go_meet
      exact ⟨rfl, rfl⟩
  case rest =>
  obtain ⟨rfl, hwc⟩ := hcut
  rw [hwc]
  clear hwc
  clear ha1 hor hc' hNi hc1 hc2
  go_upto_region 5 with fail
  go_cut [8, 9] (fun p e wx => ∃ q va vc, p = .pointer (some ⟨q, 0, none⟩) ∧ e = .int .i64 0 ∧ Ob w #[.int .u16 (P : Nat), .int .i64 7, .string BK.s, .int .i64 BK.ni, .slice va BK.l.length vc, .int .i64 BK.lo, .int .i64 BK.hi] q (.slice va BK.l.length vc) BK.l wx)
  case first =>
    go_wp2_with (first
      | (go_at_call 7; go_must (refine (SPN.out _).mono ?_; rintro e W1 ⟨rfl, hw1⟩; obtain rfl := hw1.symm))
      | (go_at_call 8; go_must (refine (TA.out _ (Below.refl _ _)).mono ?_; rintro e W1 ⟨va, vc, rfl, r1, hb1⟩)))
    go_meet
    exact ⟨_, va, vc, rfl, rfl, Ob.laid r1 hb1⟩
  case rest =>
  clear TA SPN
  obtain ⟨q, va, vc, rfl, rfl, F⟩ := hcut
  generalize wc = W1 at *
  have hn9 := BKL.out
  obtain ⟨n, hn⟩ : ∃ n, BK.l.length = n := ⟨_, rfl⟩
  have HN : Hid (BK.l.length = n) := hn
  rw [hn] at F hn9
  clear hn BKL
  have HF : Hid (∀ W, Below W1.heap.size W1 W → W.ownsRow w.heap.size 35 7 (.slice va n vc) n (mflat BK.l) ∧ W.cell? ⟨q, 4, none⟩ = some (.slice va n vc) ∧ W.cell? ⟨q, 3, none⟩ = some (.int .i64 BK.ni) ∧ Below w.heap.size w W) := fun W hb => by
    have F2 := F.on hb
    refine ⟨?_, F2.b.cell 4, F2.b.cell 3, F2.hb⟩
    have := F2.r
    rwa [HN.out] at this
  have hform := orow_form ((HF.out W1 (Below.refl _ _)).1)
  obtain ⟨va', vc', ev, hva⟩ := hform
  cases ev
  clear F
  go_upto_region 10 with fail
  go_loopw [10, 11] (fun x i wr => ∃ j : Nat, j ≤ n ∧ i = .int .i64 (j : Nat) ∧ x = .int .i64 ((cntA BK.l j : Nat) : Int) ∧ Below W1.heap.size W1 wr) (fun _ i _ => n - (intOf i).toNat)
  case atStart => exact ⟨0, Nat.zero_le _, rfl, rfl, Below.refl _ _⟩
  case round =>
    obtain ⟨j, hj, rfl, rfl, hb⟩ := hrel
    obtain ⟨R, f4, f3, hbw⟩ := HF.out wr hb
    by_cases hlt : j < n
    · obtain ⟨g, rfl⟩ := hva (by omega)
      obtain ⟨m, hm⟩ : ∃ m, BK.l[j]? = some m := ⟨_, List.getElem?_eq_getElem (by rw [HN.out]; exact hlt)⟩
      have e1 : ∀ t, t < 7 → wr.cell? ⟨g, j * 7 + t, none⟩ = m.cells[t]? := fun t ht => by
        rw [orow_cell R (j * 7 + t) (by omega)]; exact mflat_at hm t ht
      have HM : Hid (BK.l[j]? = some m) := hm
      have HCS : Hid (cntA BK.l (j + 1) = cntA BK.l j + if m.kd = 4 then 1 else 0) := cntA_step hm
      have y0 : wr.cell? ⟨g, j * 7, none⟩ = some (.int .u8 ((m.kd : Nat) : Int)) := e1 0 (by decide)
      have y1 : wr.cell? ⟨g, j * 7 + 1, none⟩ = some (.int .i64 m.op) := e1 1 (by decide)
      have y2 : wr.cell? ⟨g, j * 7 + 2, none⟩ = some (.int .i64 ((m.md : Nat) : Int)) := e1 2 (by decide)
      have y3 : wr.cell? ⟨g, j * 7 + 3, none⟩ = some (.int .u16 m.arg) := e1 3 (by decide)
      have y4 : wr.cell? ⟨g, j * 7 + 4, none⟩ = some (.int .u8 m.fl) := e1 4 (by decide)
      have y5 : wr.cell? ⟨g, j * 7 + 5, none⟩ = some (.int .i64 ((m.num : Nat) : Int)) := e1 5 (by decide)
      have y6 : wr.cell? ⟨g, j * 7 + 6, none⟩ = some (.int .i64 ((m.cyc : Nat) : Int)) := e1 6 (by decide)
      have HZ := FG.out.z j m hm
      have HA := FG.out.a j m hm
      have hcb := cntA_le BK.l j
      obtain ⟨kd, op, md, arg, fl, num, cyc⟩ := m
      simp only at y0 y1 y2 y3 y4 y5 y6 HZ HA HCS
      clear e1 hm R
      have hlti : (j : Int) < (n : Int) := by omega
      obtain ⟨cA, hcA⟩ : ∃ cA, cntA BK.l j = cA := ⟨_, rfl⟩
      have HCA : Hid (cntA BK.l j = cA) := hcA
      rw [hcA] at hcb ⊢
      clear hcA
      go_upto_region 13 with fail
      clear y0 y1 y2 y3 y4 y5 y6 f4 f3
      have hB1 : Below W1.heap.size W1 (wr.alloc (.cells #[.int .u8 ((kd : Nat) : Int), .int .i64 op, .int .i64 ((md : Nat) : Int), .int .u16 arg, .int .u8 fl, .int .i64 ((num : Nat) : Int), .int .i64 ((cyc : Nat) : Int)] 35)) := hb.alloc hb.size _
      have Z1 : Blk (wr.alloc (.cells #[.int .u8 ((kd : Nat) : Int), .int .i64 op, .int .i64 ((md : Nat) : Int), .int .u16 arg, .int .u8 fl, .int .i64 ((num : Nat) : Int), .int .i64 ((cyc : Nat) : Int)] 35)) wr.heap.size #[.int .u8 ((kd : Nat) : Int), .int .i64 op, .int .i64 ((md : Nat) : Int), .int .u16 arg, .int .u8 fl, .int .i64 ((num : Nat) : Int), .int .i64 ((cyc : Nat) : Int)] 35 := Blk.new wr _ _
      have hbq : W1.heap.size ≤ wr.heap.size := hb.size
      generalize wr.alloc (.cells #[.int .u8 ((kd : Nat) : Int), .int .i64 op, .int .i64 ((md : Nat) : Int), .int .u16 arg, .int .u8 fl, .int .i64 ((num : Nat) : Int), .int .i64 ((cyc : Nat) : Int)] 35) = W2 at *
      obtain ⟨bq, hbq2⟩ : ∃ bq, wr.heap.size = bq := ⟨_, rfl⟩
      rw [hbq2] at Z1 hbq ⊢
      clear hbq2 hb hbw
      have x0 : W2.cell? ⟨bq, 0, none⟩ = some (.int .u8 ((kd : Nat) : Int)) := Z1.cell 0
      have x1 : W2.cell? ⟨bq, 1, none⟩ = some (.int .i64 op) := Z1.cell 1
      have x4 : W2.cell? ⟨bq, 4, none⟩ = some (.int .u8 fl) := Z1.cell 4
      by_cases hk : kd = 4
      · subst hk
        obtain ⟨x, hx, hx8, hbit⟩ := HA rfl
        subst hx
        have STC : Hid (∀ W, Below W1.heap.size W1 W → Calls _ _ _ W _) := fun W hbW => sets_any op W (HT.out.on (HF.out W hbW).2.2.2).s
        have SNC : Hid (∀ (b : Nat) W, b < 8 → Below W1.heap.size W1 W → Calls _ _ _ W _) := fun b W hb8 hbW => seen_any BK.l n j num ((2 ^ b : Nat) : Int) w.heap.size g vc W HN.out (by omega) (HF.out W hbW).1 hlt ⟨4, op, md, arg, (x : Int), num, cyc⟩ HM.out rfl (HT.out.on (HF.out W hbW).2.2.2)
        have HB : Hid (∀ b, b < 8 → x.testBit b = (hasB (st op) ((2 ^ b : Nat) : Int) && seenB num ((2 ^ b : Nat) : Int) (BK.l.drop j))) := hbit
        clear HZ HA hbit
        go_upto_region 20 with (go_at_call 13; go_must (refine (STC.out _ hB1).mono ?_; rintro e W3 ⟨rfl, hw3⟩; obtain rfl := hw3.symm))
        clear STC x0 x1
        go_loopw [13, 15] (fun v i wz => ∃ k : Nat, k ≤ 8 ∧ i = .int .i64 (k : Nat) ∧ v = .int .u8 ((x % 2 ^ k : Nat) : Int) ∧ Below W2.heap.size W2 wz) (fun _ i _ => 8 - (intOf i).toNat)
        case atStart => exact ⟨0, by omega, rfl, by simp [Nat.mod_one], Below.refl _ _⟩
        case round =>
          obtain ⟨k, hk8, rfl, rfl, hb3⟩ := hrel
          by_cases hk7 : k < 8
          · have hk7i : (k : Int) < 8 := by omega
            have hbW : Below W1.heap.size W1 wr := hB1.trans (hb3.mono hB1.size)
            obtain ⟨-, f4, -, -⟩ := HF.out wr hbW
            have SN : Hid (Calls _ _ _ _ _) := SNC.out k wr hk7 hbW
            have HBK := HB.out k hk7
            have HMS : Hid (x % 2 ^ (k + 1) = x % 2 ^ k + if x.testBit k = true then 2 ^ k else 0) := mod_step x hx8 k hk7
            have HOR : bits .or .u8 ((x % 2 ^ k : Nat) : Int) ((2 ^ k : Nat) : Int) = ((x % 2 ^ k + 2 ^ k : Nat) : Int) := by
              have h1 : x % 2 ^ k < 256 := Nat.lt_of_le_of_lt (Nat.mod_le _ _) hx8
              have h2 : 2 ^ k < 256 := by have := Nat.pow_lt_pow_right (a := 2) (by decide) hk7; omega
              rw [u8_or_nat _ _ h1 h2, or_step x hx8 k hk7]
            have h2k : (2 : Int) ^ k % 256 = ((2 ^ k : Nat) : Int) := by
              have h2 : 2 ^ k < 256 := by have := Nat.pow_lt_pow_right (a := 2) (by decide) hk7; omega
              rw [show ((2 : Int) ^ k) = ((2 ^ k : Nat) : Int) by simp]
              omega
            obtain ⟨f, hf⟩ : ∃ f, ((2 ^ k : Nat) : Int) = f := ⟨_, rfl⟩
            obtain ⟨xk, hxk⟩ : ∃ xk, ((x % 2 ^ k : Nat) : Int) = xk := ⟨_, rfl⟩
            obtain ⟨xn, hxn⟩ : ∃ xn, ((x % 2 ^ k + 2 ^ k : Nat) : Int) = xn := ⟨_, rfl⟩
            rw [hf] at SN HBK HOR h2k
            rw [hxk, hxn] at HOR
            rw [hxk]
            have HX : Hid (((x % 2 ^ k : Nat) : Int) = xk ∧ ((x % 2 ^ k + 2 ^ k : Nat) : Int) = xn) := ⟨hxk, hxn⟩
            clear hf hxk hxn
            rcases has_cases (st op) f with ⟨hsf, z, ez, z1, z2⟩ | ⟨hsf, ez⟩
            · rw [hsf, Bool.true_and] at HBK
              generalize seenB num f (BK.l.drop j) = sB at *
              cases sB
              · have HV : Hid (((x % 2 ^ (k + 1) : Nat) : Int) = xk) := by
                  unfold Hid; rw [HMS.out, HBK, if_neg (by decide), Nat.add_zero]; exact HX.out.1
                clear HBK HOR z2
                go_wp2_with (go_at_call 14; go_must (refine SN.out.mono ?_; rintro e W4 ⟨rfl, hb4⟩))
                go_roundw
                case rel => exact ⟨k + 1, by omega, by go_num, by rw [HV.out], hb3.trans (hb4.mono hb3.size)⟩
                case measure => simp [intOf]; omega
              · have HV : Hid (((x % 2 ^ (k + 1) : Nat) : Int) = xn) := by
                  unfold Hid; rw [HMS.out, HBK, if_pos rfl]; exact HX.out.2
                clear HBK z2
                go_wp2_with (go_at_call 14; go_must (refine SN.out.mono ?_; rintro e W4 ⟨rfl, hb4⟩))
                go_roundw
                case rel => exact ⟨k + 1, by omega, by go_num, by rw [HV.out], hb3.trans (hb4.mono hb3.size)⟩
                case measure => simp [intOf]; omega
            · have HV : Hid (((x % 2 ^ (k + 1) : Nat) : Int) = xk) := by
                unfold Hid; rw [HMS.out, HBK, hsf, Bool.false_and, if_neg (by decide), Nat.add_zero]; exact HX.out.1
              clear HBK HOR SN f4
              go_wp2
              go_roundw
              case rel => exact ⟨k + 1, by omega, by go_num, by rw [HV.out], hb3⟩
              case measure => simp [intOf]; omega
          · obtain rfl : k = 8 := by omega
            have hbW : Below W1.heap.size W1 wr := hB1.trans (hb3.mono hB1.size)
            have x4' := (hb3.cell (p := ⟨bq, 4, none⟩) (cell_lt x4)).trans x4
            rw [show x % 2 ^ 8 = x from Nat.mod_eq_of_lt hx8]
            have hxx : (((x : Nat) : Int) != ((x : Nat) : Int)) = false := by simp
            clear x4 SNC
            go_wp2
            go_roundw
            case rel => exact ⟨j + 1, by omega, by go_num, by rw [HCS.out, if_pos trivial, HCA.out]; go_num, hbW⟩
            case measure => simp [intOf]; omega
      · have hz := HZ hk
        subst hz
        have hkf : (((kd : Nat) : Int) != 4) = true := by simp; omega
        go_wp2
        go_roundw
        case rel => exact ⟨j + 1, by omega, by go_num, by rw [HCS.out, if_neg hk, HCA.out]; rfl, hB1⟩
        case measure => simp [intOf]; omega
    · obtain rfl : j = n := by omega
      have hcl : (((cntA BK.l j : Nat) : Int)) ≤ BK.ni := by
        have := FG.out.c
        have h2 : cntA BK.l j = (BK.l.filter (fun m => m.kd = 4)).length := by
          unfold cntA; rw [List.take_of_length_le (by rw [HN.out]; exact Nat.le_refl _)]
        rw [h2]; exact this
      generalize cntA BK.l j = cA at *
      go_upto_region 27 with fail
      clear f4 f3 R
      go_cut [17, 18] (fun p e wx => ∃ q2 g2 z2, p = .pointer (some ⟨q2, 0, none⟩) ∧ e = .int .i64 0 ∧ wx.cell? ⟨q2, 4, none⟩ = some (.slice (some ⟨g2, 0, none⟩) 4 z2) ∧ wx.cell? ⟨g2, 11, none⟩ = some (.int .u8 0) ∧ wx.cell? ⟨g2, 25, none⟩ = some (.int .u8 130) ∧ Below W1.heap.size W1 wx)
      case first =>
        have hb8' : Below w.heap.size w (wr.alloc (.cells #[.int .u8 169, .int .u8 1, .int .u8 169, .int .u8 2, .int .u8 234, .int .u8 0] 5)) := hbw.alloc hbw.size _
        have hb8 : Below W1.heap.size W1 (wr.alloc (.cells #[.int .u8 169, .int .u8 1, .int .u8 169, .int .u8 2, .int .u8 234, .int .u8 0] 5)) := hb.alloc hb.size _
        have hc4 : Code (wr.alloc (.cells #[.int .u8 169, .int .u8 1, .int .u8 169, .int .u8 2, .int .u8 234, .int .u8 0] 5)) wr.heap.size 0 six := fun i hi => by
          have hB := Blk.new wr #[.int .u8 169, .int .u8 1, .int .u8 169, .int .u8 2, .int .u8 234, .int .u8 0] 5
          rw [Nat.zero_add, hB.cell i]
          rcases (show i = 0 ∨ i = 1 ∨ i = 2 ∨ i = 3 ∨ i = 4 ∨ i = 5 by have : i < 6 := hi; omega) with rfl | rfl | rfl | rfl | rfl | rfl <;> rfl
        go_wp2_with (go_at_call 8; go_must (refine (TS.out _ wr.heap.size _ hb8' hc4 (by simp; omega) rfl).mono ?_; rintro e Wa ⟨⟨g2, z2, s2, z3, z4, z5, rfl, c11, c25⟩, hba⟩; have hba' := hb8.trans (hba.mono hb8.size); clear hba))
        go_meet
        have hB := Blk.new Wa #[.int .u16 32768, .int .i64 7, .string s2, .int .i64 z3, .slice (some ⟨g2, 0, none⟩) 4 z2, .int .i64 z4, .int .i64 z5] 27
        exact ⟨_, g2, z2, rfl, rfl, hB.cell 4, ((Below.refl Wa.heap.size Wa).alloc (Nat.le_refl _) _).cell (p := ⟨g2, 11, none⟩) (cell_lt c11) |>.trans c11, ((Below.refl Wa.heap.size Wa).alloc (Nat.le_refl _) _).cell (p := ⟨g2, 25, none⟩) (cell_lt c25) |>.trans c25, hba'.alloc hba'.size _⟩
      case rest =>
      clear hbw hb TS
      obtain ⟨q2, g2, z2, rfl, rfl, c4, c11, c25, hb⟩ := hcut
      generalize wc = Wa at *
      obtain ⟨-, -, f3, hbw⟩ := HF.out Wa hb
      have hcd : decide (((cA : Nat) : Int) ≤ BK.ni) = true := decide_eq_true hcl
      go_wp2
      go_ret
      exact ⟨rfl, hbw⟩
end Go.Proofs.YtfdiplgjiidnbaaDoor
