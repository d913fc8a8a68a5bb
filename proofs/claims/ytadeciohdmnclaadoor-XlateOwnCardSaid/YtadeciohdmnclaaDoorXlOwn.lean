/-
  The law XlateOwn returns true.
-/
import Derived.Test.YtadeciohdmnclaaDoorXlOwnS
set_option linter.unusedSimpArgs false
set_option linter.unusedVariables false
namespace Go.Proofs.YtadeciohdmnclaaDoor
open Go.RowKit Classical
/-- A block of a law's own, and its list. -/
structure Ow (w : World) (C : Array Value) (q : Nat) (v : Value) (l : List Mic) (W : World) : Prop where
  b : Blk W q C 27
  r : W.ownsRow w.heap.size 35 7 v l.length (mflat l)
  hb : Below w.heap.size w W
  lt : w.heap.size ≤ q
theorem Ow.on {w W W' : World} {C : Array Value} {q : Nat} {v : Value} {l : List Mic} (h : Ow w C q v l W) (hb : Below W.heap.size W W') : Ow w C q v l W' := ⟨h.b.below h.b.lt hb, orow_keep h.r hb, h.hb.trans (hb.mono h.hb.size), h.lt⟩
theorem Ow.laid {w W : World} {C : Array Value} {v : Value} {l : List Mic} (r : W.ownsRow w.heap.size 35 7 v l.length (mflat l)) (hb : Below w.heap.size w W) : Ow w C W.heap.size v l (W.alloc (.cells C 27)) :=
  ⟨Blk.new W _ _, World.ownsRow.alloc r _, hb.alloc hb.size _, hb.size⟩
set_option maxRecDepth 100000 in
set_option maxHeartbeats 6400000 in
theorem own_law (pc : Nat) (C O : List Nat) (a1 a2 : Option Addr) (b1 o1 k1 b2 o2 k2 : Nat) (lim : Int) (w : World) (hpc : pc < 65536) (hl0 : -9223372036854775808 ≤ lim) (hl1 : lim ≤ 9223372036854775807)
    (HC : CodeAt w a1 k1 C b1 o1) (HO : CodeAt w a2 k2 O b2 o2) (T : Tabs w) (RT : Rtab w) :
    Calls Tryd.prog 3 #[.int .u16 (pc : Nat), .slice a1 C.length k1, .slice a2 O.length k2, .int .i64 lim] w fun e w' => e = .returned (.bool true) ∧ Below w.heap.size w w' := by
  obtain ⟨P, hor, hP, hP6⟩ := or15 pc hpc
  obtain ⟨N, hN⟩ : ∃ N, 8192 - P % 8192 = N := ⟨_, rfl⟩
  have hN1 : 1 ≤ N ∧ N ≤ 8192 := by omega
  have hNi : (8192 : Int) - (P : Int) % 8192 = (N : Int) := by omega
  have HNN : Hid (8192 - P % 8192 = N) := hN
  have hc1 := HC.le; have hc2 := HC.m; have hd1 := HO.le; have hd2 := HO.m
  have hsp := spanV_bd lim 1 64 (by decide)
  obtain ⟨s, hs⟩ : ∃ s : Nat, spanV lim 1 64 = (s : Int) := ⟨(spanV lim 1 64).toNat, by omega⟩
  have hs1 : 1 ≤ s ∧ s ≤ 64 := by omega
  have SPN : Hid (∀ W, Calls Tryd.prog 7 #[.int .i64 lim, .int .i64 1, .int .i64 64] W fun e w' => e = .returned (.int .i64 (s : Nat)) ∧ w' = W) := fun W => by
    have := span_any lim 1 64 W hl0 hl1 (by decide) (by decide) (by decide)
    rwa [hs] at this
  clear hs hsp hN
  obtain ⟨c', hc'⟩ : ∃ c', min C.length N = c' := ⟨_, rfl⟩
  obtain ⟨d', hd'⟩ : ∃ d', min O.length N = d' := ⟨_, rfl⟩
  have HC2 : Hid (CodeAt w a1 k1 (C.take c') b1 o1 ∧ (C.take c').length = c' ∧ c' ≤ N) := ⟨HC.take c', by rw [List.length_take]; omega, by omega⟩
  have HO2 : Hid (CodeAt w a2 k2 (O.take d') b2 o2 ∧ (O.take d').length = d' ∧ d' ≤ N) := ⟨HO.take d', by rw [List.length_take]; omega, by omega⟩
  have TC : Hid (∀ W, Below w.heap.size w W → Calls _ _ _ W _) := fun W hb => tr_bank P s 3 (C.take c') a1 b1 o1 k1 W hP hP6 hs1.1 hs1.2 (by decide) (by decide) (by rw [HC2.out.2.1, HNN.out]; exact HC2.out.2.2) (HC2.out.1.on hb) (T.on hb) (RT.on hb)
  have TO : Hid (∀ W, Below w.heap.size w W → Calls _ _ _ W _) := fun W hb => tr_bank P s 3 (O.take d') a2 b2 o2 k2 W hP hP6 hs1.1 hs1.2 (by decide) (by decide) (by rw [HO2.out.2.1, HNN.out]; exact HO2.out.2.2) (HO2.out.1.on hb) (T.on hb) (RT.on hb)
  have BKL : Hid ((bkOf P 3 s (C.take c')).l.length ≤ 256 ∧ (bkOf P 3 s (O.take d')).l.length ≤ 256) := ⟨bk_len hs1.2, bk_len hs1.2⟩
  have BKS : Hid ((decide (0 < (((bkOf P 3 s (C.take c')).l.length : Nat) : Int))) = decide (0 < (bkOf P 3 s (C.take c')).ni)) := bk_some hP6 hs1.2 HC2.out.1.by'
  rw [HC2.out.2.1] at TC
  rw [HO2.out.2.1] at TO
  generalize bkOf P 3 s (C.take c') = BC at *
  generalize bkOf P 3 s (O.take d') = BO at *
  have ha1 : N < C.length → ∃ b o, a1 = some ⟨b, o, none⟩ := fun h => by
    rcases HC.at' with e | e
    · rw [e] at h; simp at h
    · exact ⟨_, _, e⟩
  have ha2 : N < O.length → ∃ b o, a2 = some ⟨b, o, none⟩ := fun h => by
    rcases HO.at' with e | e
    · rw [e] at h; simp at h
    · exact ⟨_, _, e⟩
  clear HC2 HO2 HC HO T RT hP
  generalize C.length = cl at *
  generalize O.length = ol at *
  go_enter Tryd.func3, Tryd.ntmps3
  go_upto_if 29 with fail
  go_cut [1] (fun v wx => v = .slice a1 c' k1 ∧ wx = w)
  case first =>
    by_cases h : N < cl
    · have hi : (N : Int) < (cl : Int) := by omega
      have hk : (N : Int) ≤ (k1 : Int) := by omega
      have hk0 : ¬ k1 = 0 := by omega
      obtain ⟨b, o, rfl⟩ := ha1 h
      obtain rfl : N = c' := by omega
      go_wp2
      go_meet
      exact ⟨rfl, rfl⟩
    · have hi : ¬ (N : Int) < (cl : Int) := by omega
      obtain rfl : cl = c' := by omega
      go_wp2
      go_meet
      exact ⟨rfl, rfl⟩
  case rest =>
  obtain ⟨rfl, hwc⟩ := hcut
  rw [hwc]
  clear hwc
  go_upto_if 36 with fail
  go_cut [2] (fun v wx => v = .slice a2 d' k2 ∧ wx = w)
  case first =>
    by_cases h : N < ol
    · have hi : (N : Int) < (ol : Int) := by omega
      have hk : (N : Int) ≤ (k2 : Int) := by omega
      have hk0 : ¬ k2 = 0 := by omega
      obtain ⟨b, o, rfl⟩ := ha2 h
      obtain rfl : N = d' := by omega
      go_wp2
      go_meet
      exact ⟨rfl, rfl⟩
    · have hi : ¬ (N : Int) < (ol : Int) := by omega
      obtain rfl : ol = d' := by omega
      go_wp2
      go_meet
      exact ⟨rfl, rfl⟩
  case rest =>
  obtain ⟨rfl, hwc⟩ := hcut
  rw [hwc]
  clear hwc
  clear ha1 ha2 hor hc1 hd1 hc' hd' hNi
  go_upto_region 8 with (go_at_call 7; go_must (refine (SPN.out _).mono ?_; rintro e W1 ⟨rfl, hw1⟩; obtain rfl := hw1.symm))
  clear SPN
  go_cut [10, 11] (fun p e wx => ∃ q va vc, p = .pointer (some ⟨q, 0, none⟩) ∧ e = .int .i64 0 ∧ Ow w #[.int .u16 (P : Nat), .int .i64 3, .string BO.s, .int .i64 BO.ni, .slice va BO.l.length vc, .int .i64 BO.lo, .int .i64 BO.hi] q (.slice va BO.l.length vc) BO.l wx)
  case first =>
    go_wp2_with (go_at_call 8; go_must (refine (TO.out _ (Below.refl _ _)).mono ?_; rintro e W1 ⟨va, vc, rfl, r1, hb1⟩))
    go_meet
    exact ⟨_, va, vc, rfl, rfl, Ow.laid r1 hb1⟩
  case rest =>
  obtain ⟨q1, va, vc, rfl, rfl, F⟩ := hcut
  generalize wc = W1 at *
  go_upto_region 9 with fail
  go_cut [12, 13] (fun p e wx => ∃ q ua uc, p = .pointer (some ⟨q, 0, none⟩) ∧ e = .int .i64 0 ∧ Ow W1 #[.int .u16 (P : Nat), .int .i64 3, .string BC.s, .int .i64 BC.ni, .slice ua BC.l.length uc, .int .i64 BC.lo, .int .i64 BC.hi] q (.slice ua BC.l.length uc) BC.l wx)
  case first =>
    go_wp2_with (go_at_call 8; go_must (refine (TC.out _ F.hb).mono ?_; rintro e W2 ⟨ua, uc, rfl, r2, hb2⟩))
    go_meet
    exact ⟨_, ua, uc, rfl, rfl, Ow.laid r2 hb2⟩
  case rest =>
  clear TC
  obtain ⟨q2, ua, uc, rfl, rfl, G⟩ := hcut
  generalize wc = W2 at *
  have g1 : W2.cell? ⟨q2, 1, none⟩ = some (.int .i64 3) := G.b.cell 1
  go_upto_region 13 with fail
  clear g1
  have hn2 := BKL.out.1
  obtain ⟨n, hn⟩ : ∃ n, BC.l.length = n := ⟨_, rfl⟩
  have HN : Hid (BC.l.length = n) := hn
  rw [hn] at hn2
  rw [hn] at G
  clear hn
  obtain ⟨BB, hBB⟩ : ∃ BB : Array Value, BB = #[.int .u16 (P : Nat), .int .i64 3, .string BC.s, .int .i64 BC.ni, .slice ua n uc, .int .i64 BC.lo, .int .i64 BC.hi] := ⟨_, rfl⟩
  have HB4 : Hid (BB[4]? = some (.slice ua n uc)) := by unfold Hid; rw [hBB]; rfl
  have HB3 : Hid (BB[3]? = some (.int .i64 BC.ni)) := by unfold Hid; rw [hBB]; rfl
  rw [← hBB] at G
  clear hBB
  have hform := orow_form G.r
  rw [HN.out] at hform
  obtain ⟨ua', uc', eu, hua⟩ := hform
  cases eu
  go_loopw [14] (fun i wr => ∃ m : Nat, m ≤ n ∧ i = .int .i64 (m : Nat) ∧ Ow W1 BB q2 (.slice ua n uc) (mkA BC.l m) wr) (fun i _ => n - (intOf i).toNat)
  case atStart => exact ⟨0, Nat.zero_le _, rfl, G⟩
  case round =>
    clear G
    obtain ⟨m, hm, rfl, G⟩ := hrel
    have d4 := (G.b.cell 4).trans HB4.out
    by_cases hlt : m < n
    · obtain ⟨g, rfl⟩ := hua (by omega)
      have hlti : (m : Int) < (n : Int) := by omega
      have hml : m < (mkA BC.l m).length := by rw [mkA_len, HN.out]; exact hlt
      obtain ⟨x, hx⟩ : ∃ x, (mkA BC.l m)[m]? = some x := ⟨_, List.getElem?_eq_getElem hml⟩
      have HX : Hid (mkA BC.l (m + 1) = (mkA BC.l m).set m (x.putA (((40000 + m : Nat) : Int)))) := mkA_succ hx
      have RW : wr.ownsRow W1.heap.size 35 7 (.slice (some ⟨g, 0, none⟩) n uc) n (mflat (mkA BC.l m)) := by
        have := G.r; rw [mkA_len, HN.out] at this; exact this
      have d3 : wr.cell? ⟨g, m * 7 + 3, none⟩ = some (.int .u16 x.arg) := by
        rw [orow_cell RW (m * 7 + 3) (by omega), mflat_at hx 3 (by decide)]; rfl
      have f3 := orow_free RW (m * 7 + 3)
      have hw16 : IntKind.u16.wrap (40000 + (m : Int)) = (((40000 + m : Nat) : Int)) := by rw [wrap16]; omega
      have HG : Hid (Ow W1 BB q2 (.slice (some ⟨g, 0, none⟩) n uc) (mkA BC.l (m + 1)) (wr.setCell ⟨g, m * 7 + 3, none⟩ (.int .u16 (((40000 + m : Nat) : Int))))) := by
        have hge := (orow_base RW).1
        refine ⟨G.b.other (fun e => orow_type RW G.b (by decide) (by rw [e]; rfl)) _ _, ?_, G.hb.setCell (p := ⟨g, m * 7 + 3, none⟩) hge _, G.lt⟩
        rw [mkA_len, HN.out, HX.out, ← mflat_set hx]
        exact orow_set RW _ (by omega) _
      clear hx HX RW G hml
      go_wp2
      go_roundw
      case rel => exact ⟨m + 1, by omega, by go_num, HG.out⟩
      case measure => simp [intOf]; omega
    · obtain rfl : m = n := by omega
      clear hlt hm
      have RW : wr.ownsRow W1.heap.size 35 7 (.slice ua m uc) m (mflat (mkA BC.l m)) := by
        have := G.r; rw [mkA_len, HN.out] at this; exact this
      have HRW : Hid (wr.ownsRow W1.heap.size 35 7 (.slice ua m uc) m (mflat (mkA BC.l m))) := RW
      clear RW
      have hbase := G.hb.size
      go_upto_region 16 with fail
      go_cut [15] (fun v wx => wx.ownsRow W1.heap.size 35 7 v (m + 1) (mflat (mkA BC.l m) ++ (#[.int .u8 0, .int .i64 0, .int .i64 0, .int .u16 0, .int .u8 0, .int .i64 (-5), .int .i64 0] : Array Value).toList) ∧ Ow W1 BB q2 (.slice ua m uc) (mkA BC.l m) wx)
      case first =>
        go_wp2_with (at_builtin; refine wpList_appMicO rfl _ _ rfl HRW.out hbase rfl rfl (cs := #[.int .u8 0, .int .i64 0, .int .i64 0, .int .u16 0, .int .u8 0, .int .i64 (-5), .int .i64 0]) rfl (List.all_eq_true.1 rfl) (by omega) ?_; intro v' Wx r1 r2 hk hbx)
        go_meet
        exact ⟨r1, ⟨(hk q2 G.b.lt (orow_type HRW.out G.b (by decide))).trans G.b, by rw [mkA_len, HN.out]; exact r2, G.hb.trans hbx, G.lt⟩⟩
      case rest =>
      clear HRW d4 hbase G
      obtain ⟨R5, G⟩ := hcut
      generalize wc = W3 at *
      obtain ⟨xa, xc, ex, hxa⟩ := orow_form R5
      subst ex
      obtain ⟨g5, rfl⟩ := hxa (by omega)
      clear hxa
      have hbw : Below w.heap.size w W3 := F.hb.trans (G.hb.mono F.hb.size)
      have HF : Hid (Ow w #[.int .u16 (P : Nat), .int .i64 3, .string BO.s, .int .i64 BO.ni, .slice va BO.l.length vc, .int .i64 BO.lo, .int .i64 BO.hi] q1 (.slice va BO.l.length vc) BO.l W1) := F
      clear F
      go_upto_region 17 with fail
      go_cut [16, 17] (fun p e wx => ∃ q ta tc, p = .pointer (some ⟨q, 0, none⟩) ∧ e = .int .i64 0 ∧ Ow W3 #[.int .u16 (P : Nat), .int .i64 3, .string BO.s, .int .i64 BO.ni, .slice ta BO.l.length tc, .int .i64 BO.lo, .int .i64 BO.hi] q (.slice ta BO.l.length tc) BO.l wx)
      case first =>
        go_wp2_with (go_at_call 8; go_must (refine (TO.out _ hbw).mono ?_; rintro e W4 ⟨ta, tc, rfl, r4, hb4⟩))
        go_meet
        exact ⟨_, ta, tc, rfl, rfl, Ow.laid r4 hb4⟩
      case rest =>
      clear TO hbw
      obtain ⟨q3, ta, tc, rfl, rfl, K⟩ := hcut
      generalize wc = W4 at *
      have hno := BKL.out.2
      have e4 : W4.cell? ⟨q3, 4, none⟩ = some (.slice ta BO.l.length tc) := K.b.cell 4
      have HKR : Hid (W4.ownsRow W3.heap.size 35 7 (.slice ta BO.l.length tc) BO.l.length (mflat BO.l)) := K.r
      have hbase := K.hb.size
      go_upto_region 18 with fail
      go_cut [18] (fun v wx => wx.ownsRow W3.heap.size 35 7 v (BO.l.length + 1) (mflat BO.l ++ (#[.int .u8 0, .int .i64 0, .int .i64 0, .int .u16 0, .int .u8 0, .int .i64 (-6), .int .i64 0] : Array Value).toList) ∧ Ow W3 #[.int .u16 (P : Nat), .int .i64 3, .string BO.s, .int .i64 BO.ni, .slice ta BO.l.length tc, .int .i64 BO.lo, .int .i64 BO.hi] q3 (.slice ta BO.l.length tc) BO.l wx)
      case first =>
        go_wp2_with (at_builtin; refine wpList_appMicO rfl _ _ rfl HKR.out hbase rfl rfl (cs := #[.int .u8 0, .int .i64 0, .int .i64 0, .int .u16 0, .int .u8 0, .int .i64 (-6), .int .i64 0]) rfl (List.all_eq_true.1 rfl) (by omega) ?_; intro v' Wx r1 r2 hk hbx)
        go_meet
        exact ⟨r1, ⟨(hk q3 K.b.lt (orow_type HKR.out K.b (by decide))).trans K.b, r2, K.hb.trans hbx, K.lt⟩⟩
      case rest =>
      clear HKR e4 hbase K
      obtain ⟨R6, K⟩ := hcut
      generalize wc = W5 at *
      obtain ⟨ya, yc, ey, hya⟩ := orow_form R6
      subst ey
      obtain ⟨g6, rfl⟩ := hya (by omega)
      clear hya
      have F5 : Ow w #[.int .u16 (P : Nat), .int .i64 3, .string BO.s, .int .i64 BO.ni, .slice va BO.l.length vc, .int .i64 BO.lo, .int .i64 BO.hi] q1 (.slice va BO.l.length vc) BO.l W5 := (HF.out.on G.hb).on K.hb
      have HG5 : Hid (Ow W1 BB q2 (.slice ua m uc) (mkA BC.l m) W5) := G.on K.hb
      have HR5 : Hid (W5.ownsRow W1.heap.size 35 7 (.slice (some ⟨g5, 0, none⟩) (m + 1) xc) (m + 1) (mflat (mkA BC.l m) ++ (#[.int .u8 0, .int .i64 0, .int .i64 0, .int .u16 0, .int .u8 0, .int .i64 (-5), .int .i64 0] : Array Value).toList)) := orow_keep R5 K.hb
      have e4 : W5.cell? ⟨q3, 4, none⟩ = some (.slice ta BO.l.length tc) := K.b.cell 4
      have i6 : W5.cell? ⟨g6, BO.l.length * 7 + 5, none⟩ = some (.int .i64 (-6)) := by
        rw [orow_cell R6 (BO.l.length * 7 + 5) (by omega), List.getElem?_append_right (by rw [mflat_len]; omega), mflat_len, Nat.add_sub_cancel_left]; rfl
      have BL : Hid (Calls _ _ _ _ _) := blocks_yes (P : Nat) 3 BO.s BO.ni BO.lo BO.hi BO.l BO.l.length w.heap.size W3.heap.size (.slice va BO.l.length vc) (.slice ta BO.l.length tc) W5 rfl (by omega) F5.r K.r
      clear R6 R5 G HF
      have hg6 : g6 < W5.heap.size := cell_lt i6
      generalize BO.l.length = no at *
      have hno1 : (no : Int) < (no : Int) + 1 := by omega
      have hno9 : no ≤ 256 := hno
      clear hno
      go_upto_region 21 with (first
        | (refine wpList_load_want (by rfl) 27 _ rfl q1 0 rfl _ _ F5.b.range' Tryd.underlying27 rfl (by kernel_rfl) ?_; rw [Array.toArray_toList])
        | (refine wpList_load_want (by rfl) 27 _ rfl q3 0 rfl _ _ K.b.range' Tryd.underlying27 rfl (by kernel_rfl) ?_; rw [Array.toArray_toList])
        | (go_at_call 9; go_must (refine BL.out.mono ?_; rintro e W6 ⟨rfl, hb6⟩; have i6' := (hb6.cell (p := ⟨g6, no * 7 + 5, none⟩) hg6).trans i6; have e4' := (hb6.cell (p := ⟨q3, 4, none⟩) (cell_lt e4)).trans e4; clear i6 e4)))
      have hbF : Below w.heap.size w W6 := F5.hb.trans (hb6.mono F5.hb.size)
      have HG6 : Hid (Ow W1 BB q2 (.slice ua m uc) (mkA BC.l m) W6) := HG5.out.on hb6
      have HR6 : Hid (W6.ownsRow W1.heap.size 35 7 (.slice (some ⟨g5, 0, none⟩) (m + 1) xc) (m + 1) (mflat (mkA BC.l m) ++ (#[.int .u8 0, .int .i64 0, .int .i64 0, .int .u16 0, .int .u8 0, .int .i64 (-5), .int .i64 0] : Array Value).toList)) := orow_keep HR5.out hb6
      clear HG5 HR5 F5 K BL hb6 i6' e4' hg6
      have d4 := (HG6.out.b.cell 4).trans HB4.out
      go_upto_region 22 with fail
      go_loopw [19] (fun i wr => ∃ j : Nat, j ≤ m ∧ i = .int .i64 (j : Nat) ∧ wr = W6) (fun i _ => m - (intOf i).toNat)
      case atStart => exact ⟨0, Nat.zero_le _, rfl, rfl⟩
      case round =>
        obtain ⟨j, hj, rfl, hwr⟩ := hrel
        subst hwr
        by_cases hjm : j < m
        · obtain ⟨g, rfl⟩ := hua (by omega)
          obtain ⟨x, hx1, hx2⟩ := mkA_at BC.l m j hjm (by rw [HN.out]; exact hjm)
          have c1 : wr.cell? ⟨g, j * 7 + 3, none⟩ = some (.int .u16 (((40000 + j : Nat) : Int))) := by
            have hr := HG6.out.r
            rw [mkA_len, HN.out] at hr
            rw [orow_cell hr (j * 7 + 3) (by omega), mflat_at hx1 3 (by decide), ← hx2]; rfl
          have c2 : wr.cell? ⟨g5, j * 7 + 3, none⟩ = some (.int .u16 (((40000 + j : Nat) : Int))) := by
            rw [orow_cell HR6.out (j * 7 + 3) (by omega), List.getElem?_append_left (by rw [mflat_len, mkA_len, HN.out]; omega), mflat_at hx1 3 (by decide), ← hx2]; rfl
          have hw16 : IntKind.u16.wrap (40000 + (j : Int)) = (((40000 + j : Nat) : Int)) := by rw [wrap16]; omega
          have hji : (j : Int) < (m : Int) := by omega
          have hji2 : (j : Int) < (m : Int) + 1 := by omega
          clear hx1 hx2 x
          obtain ⟨X4, hX4⟩ : ∃ X4 : Int, (((40000 + j : Nat) : Int)) = X4 := ⟨_, rfl⟩
          rw [hX4] at c1 c2 hw16
          clear hX4
          go_wp2
          go_roundw
          case rel => exact ⟨j + 1, by omega, by go_num, trivial⟩
          case measure => simp [intOf]; omega
        · obtain rfl : j = m := by omega
          have i5 : wr.cell? ⟨g5, j * 7 + 5, none⟩ = some (.int .i64 (-5)) := by
            rw [orow_cell HR6.out (j * 7 + 5) (by omega), List.getElem?_append_right (by rw [mflat_len, mkA_len, HN.out]; omega), mflat_len, mkA_len, HN.out, Nat.add_sub_cancel_left]; rfl
          have d3 := (HG6.out.b.cell 3).trans HB3.out
          have hk := BKS.out
          rw [HN.out] at hk
          have hji2 : (j : Int) < (j : Int) + 1 := by omega
          by_cases hz : 0 < (j : Int)
          · have hz2 : 0 < BC.ni := by rw [decide_eq_true hz] at hk; exact of_decide_eq_true hk.symm
            clear hk
            have hzn : 0 < j := by omega
            go_wp2
            go_ret
            exact ⟨by first | rfl | (show Ending.returned (.bool (decide (0 < j))) = _; rw [decide_eq_true hzn]), hbF⟩
          · have hz2 : ¬ 0 < BC.ni := by rw [decide_eq_false hz] at hk; exact of_decide_eq_false hk.symm
            clear hk
            have hzn : ¬ 0 < j := by omega
            go_wp2
            go_ret
            exact ⟨by first | rfl | (show Ending.returned (.bool (!decide (0 < j))) = _; rw [decide_eq_false hzn]; rfl), hbF⟩
end Go.Proofs.YtadeciohdmnclaaDoor
