/-
  The document's Diff of any two lists of bytes.
-/
import Derived.Test.YtlckjbangdnejaaDoorXwRNum
import Derived.Test.YtlckjbangdnejaaDoorRefCrc
set_option linter.unusedSimpArgs false
set_option linter.unusedVariables false
namespace Go.Proofs.YtlckjbangdnejaaDoor
open Go.RowKit Classical
theorem rdiff_long (F T : List Nat) (nf nt : Nat) (h : 65536 < nf ∨ 65536 < nt) (hf : nf ≤ 140737488351232) (ht : nt ≤ 140737488351232) (a b : Option Addr) (kf kt : Nat) (w : World) :
    Calls Tryd.prog 43 #[.slice a nf kf, .slice b nt kt] w fun e w' => e = .returned (.slice none 0 0) ∧ w' = w := by
  by_cases h1 : 65536 < nf
  · have i1 : (65536 : Int) < (nf : Int) := by omega
    go_enter Tryd.func43, Tryd.ntmps43
    go_wp2
    go_ret
    exact ⟨rfl, rfl⟩
  · have i1 : ¬ (65536 : Int) < (nf : Int) := by omega
    have i2 : (65536 : Int) < (nt : Int) := by omega
    go_enter Tryd.func43, Tryd.ntmps43
    go_wp2
    go_ret
    exact ⟨rfl, rfl⟩
theorem row_sum (W : World) (c : Nat) (hc : c < 4294967296) : Row (W.alloc (.cells #[.int .u8 0, .int .u8 0, .int .u8 ((c : Int) % 256), .int .u8 ((c : Int) / 256 % 256), .int .u8 ((c : Int) / 65536 % 256), .int .u8 ((c : Int) / 16777216)] 5)) (some ⟨W.heap.size, 0, none⟩) ([0, 0] ++ sum4 c) := by
  refine .inr ⟨_, 0, rfl, fun i hi => ?_⟩
  rw [Nat.zero_add, (Blk.new W _ 5).cell i]
  match i, hi with
  | 0, _ => rfl
  | 1, _ => rfl
  | 2, _ => exact congrArg (fun x => some (Value.int .u8 x)) (by simp [sum4])
  | 3, _ => exact congrArg (fun x => some (Value.int .u8 x)) (by simp [sum4])
  | 4, _ => exact congrArg (fun x => some (Value.int .u8 x)) (by simp [sum4])
  | 5, _ => exact congrArg (fun x => some (Value.int .u8 x)) (by simp [sum4]; omega)
  | i + 6, h => exact absurd h (by simp [sum4])
theorem Tx.full {W : World} {base : Nat} {v : Value} {l : List Nat} (h : Tx W base v l) : ∃ a k, v = .slice a l.length k ∧ l.length ≤ k ∧ RowF base W a l ∧ ∀ p, a = some p → base ≤ p.block ∧ p.block < W.heap.size := by
  obtain ⟨a, k, e, hr⟩ := h.rowF
  refine ⟨a, k, e, ?_, hr, fun p hp => h.block _ (by rw [e, hp]; rfl)⟩
  rcases h.2 with ⟨e2, h0⟩ | ⟨g, cap, cur, e2, _, _, hn, _⟩
  · omega
  · rw [e] at e2; cases e2; exact hn
set_option maxRecDepth 100000 in
set_option maxHeartbeats 3200000 in
theorem rdiff_any (F T : List Nat) (nf nt : Nat) (hF : Bytes F) (hT : Bytes T) (hnf : F.length = nf) (hnt : T.length = nt) (lf : nf ≤ 65536) (lt : nt ≤ 65536) (a b : Option Addr) (kf kt : Nat) (w : World)
    (RF : Row w a F) (RT : Row w b T) :
    Calls Tryd.prog 43 #[.slice a nf kf, .slice b nt kt] w (DfOk w (diffL F T)) := by
  have HN : Hid (F.length = nf ∧ T.length = nt) := ⟨hnf, hnt⟩
  have HB : Hid (Bytes F ∧ Bytes T) := ⟨hF, hT⟩
  have HR : Hid (∀ W, Below w.heap.size w W → Row W a F ∧ Row W b T) := fun W h => ⟨RF.below h, RT.below h⟩
  have HD : Hid (diffL F T = [84, 80] ++ RwM.num nf ++ RwM.num nt ++ RwM.rb (RwM.xr F T) ++ ([0, 0] ++ sum4 (crc T))) := by unfold Hid diffL; rw [hnf, hnt, RwM.num_zero]; simp only [List.append_assoc]; rfl
  have HC : Hid (crc T < 4294967296) := crc_lt hT
  clear hF hT hnf hnt RF RT
  go_enter Tryd.func43, Tryd.ntmps43
  go_upto_region 3 with fail
  obtain ⟨v0, hv0⟩ : ∃ v0, v0 = Value.slice (some ⟨w.heap.size, 0, none⟩) 2 2 := ⟨_, rfl⟩
  have hb1 : Below w.heap.size w (w.alloc (.cells #[.int .u8 84, .int .u8 80] 5)) := (Below.refl _ _).alloc (Nat.le_refl _) _
  have T1 : Hid (Tx (w.alloc (.cells #[.int .u8 84, .int .u8 80] 5)) w.heap.size v0 [84, 80]) :=
    ⟨rfl, .inr ⟨w.heap.size, 2, _, hv0, Nat.le_refl _, heap_alloc_new w _, Nat.le_refl _, by decide, rfl, rfl⟩⟩
  have hs1 : (w.alloc (.cells #[.int .u8 84, .int .u8 80] 5)).heap.size = w.heap.size + 1 := World.size_alloc _ _
  go_wp2_with fail
  rw [← hv0]
  clear hv0
  generalize w.alloc (.cells #[.int .u8 84, .int .u8 80] 5) = w1 at *
  refine (rnumber_any nf (by omega) w1).mono ?_
  rintro e w2 ⟨x2, rfl, X2, b2⟩
  have hb2 : Below w.heap.size w w2 := hb1.trans (b2.mono (by omega))
  have hs2 := b2.size
  obtain ⟨a2, k2, rfl, hk2, r2, p2⟩ := X2.full
  have HL2 : Hid ((RwM.num nf).length ≤ 3) := (RwM.num_len nf (by omega)).2.1
  have HT2 : Hid (Tx w2 w.heap.size v0 [84, 80]) := T1.out.on b2
  have HR2 : Hid (Row w2 a2 (RwM.num nf)) := r2.row
  clear X2 b2 T1 r2 p2 hk2
  go_wp2_with (refine wpList_ap rfl _ _ rfl HT2.out (Gr.refl _ _) (by omega) rfl rfl rfl HR2.out (by have := HL2.out; simp; omega) ?_; intro v3 w3 T3 G3 hs3)
  have hb3 : Below w.heap.size w w3 := below_gr hb2 G3 (by omega) HT2.out
  clear G3 HR2 HT2 hb2
  refine (rnumber_any nt (by omega) w3).mono ?_
  rintro e w4 ⟨x4, rfl, X4, b4⟩
  have hb4 : Below w.heap.size w w4 := hb3.trans (b4.mono (by omega))
  have hs4 := b4.size
  obtain ⟨a4, k4, rfl, hk4, r4, p4⟩ := X4.full
  have HL4 : Hid ((RwM.num nt).length ≤ 3) := (RwM.num_len nt (by omega)).2.1
  have HT4 : Hid (Tx w4 w.heap.size v3 ([84, 80] ++ RwM.num nf)) := T3.on b4
  have HR4 : Hid (Row w4 a4 (RwM.num nt)) := r4.row
  clear X4 b4 T3 r4 p4 hk4
  go_wp2_with (refine wpList_ap rfl _ _ rfl HT4.out (Gr.refl _ _) (by omega) rfl rfl rfl HR4.out (by have := HL2.out; have := HL4.out; simp; omega) ?_; intro v5 w5 T5 G5 hs5)
  have hb5 : Below w.heap.size w w5 := below_gr hb4 G5 (by omega) HT4.out
  clear G5 HR4 HT4 hb4 hb3
  refine (apart_any F T nf nt HB.out.1 HB.out.2 HN.out.1 HN.out.2 lf lt a b kf kt w5 (HR.out _ hb5).1 (HR.out _ hb5).2).mono ?_
  rintro e w6 ⟨x6, rfl, X6, b6⟩
  have hb6 : Below w.heap.size w w6 := hb5.trans (b6.mono (by omega))
  have hs6 := b6.size
  obtain ⟨ax, kx, rfl, hkx, r6, p6⟩ := X6.full
  obtain ⟨X, hX⟩ : ∃ X, X = RwM.xr F T := ⟨_, rfl⟩
  have hxl : (RwM.xr F T).length = nt := by rw [RwM.xr_len, HN.out.2]
  rw [hxl] at hkx
  rw [hxl]
  have HX : Hid (X.length = nt ∧ Bytes X) := ⟨by rw [hX]; exact hxl, by rw [hX]; exact RwM.xr_bytes HB.out.1 HB.out.2⟩
  have HT6 : Hid (Tx w6 w.heap.size v5 ([84, 80] ++ RwM.num nf ++ RwM.num nt)) := T5.on b6
  have HR6 : Hid (Row w6 ax X) := by rw [hX]; exact r6.row
  have HAB : Hid (∀ p, ax = some p → v5.ownBlock ≠ some p.block) := fun p hp e => by have := (p6 p hp).1; have := (T5.block _ e).2; omega
  have HL : Hid (([84, 80] ++ RwM.num nf ++ RwM.num nt).length ≤ 8) := by have := HL2.out; have := HL4.out; unfold Hid; simp; omega
  obtain ⟨L, hL⟩ : ∃ L, L = [84, 80] ++ RwM.num nf ++ RwM.num nt := ⟨_, rfl⟩
  rw [← hX, ← hL] at HD
  rw [← hL] at HT6 HL
  have HXL : Hid ((RwM.rb X).length ≤ 65540) := by have := (RwM.rb_len nt X (by have := HX.out.1; omega) lt).1; have := HX.out.1; unfold Hid; omega
  clear X6 b6 T5 r6 p6 hL hX hxl HL2 HL4 hb5
  go_upto_region 8 with fail
  go_loopw [5, 7] (fun p i wr => ∃ (k : Nat) (pre : List Nat), k ≤ nt ∧ i = .int .i64 k ∧ Hid (pre ++ RwM.rb (X.drop k) = L ++ RwM.rb X) ∧ Hid (Tx wr w.heap.size p pre) ∧ Hid (Gr w6 v5 wr p) ∧ w.heap.size ≤ wr.heap.size) (fun _ i _ => nt - (intOf i).toNat)
  case atStart => exact ⟨0, L, by omega, rfl, by unfold Hid; rw [List.drop_zero], HT6, Gr.refl _ _, by omega⟩
  case round =>
    obtain ⟨k, pre, hk, rfl, hE, hT, hG, hsz⟩ := hrel
    have HRr : Hid (Row wr ax X) := hG.out.row HR6.out HAB.out
    have HPL : Hid (pre.length ≤ 65548) := by
      have a := congrArg List.length hE.out
      have b := HL.out
      have c := HXL.out
      simp only [List.length_append] at a
      unfold Hid; omega
    obtain ⟨f, hf⟩ : ∃ f, f = k + RwM.zs (X.drop k) := ⟨_, rfl⟩
    have HF : Hid (k + RwM.zs (X.drop k) = f) := hf.symm
    have hfn : f ≤ nt := by have h1 := RwM.zs_le (X.drop k); have h2 := HX.out.1; rw [List.length_drop] at h1; omega
    clear hf
    go_upto_region 9 with fail
    go_loop [8] (fun x => ∃ i : Nat, i ≤ nt ∧ x = .int .i64 i ∧ Hid (i + RwM.zs (X.drop i) = f)) (fun x => nt - (intOf x).toNat)
    case atStart => exact ⟨k, hk, rfl, HF⟩
    case round =>
      obtain ⟨i, hi, rfl, hEi⟩ := hrel
      have hif : i ≤ f := by have := hEi.out; omega
      by_cases h : i < f
      · have kx' : i < X.length := by rw [HX.out.1]; omega
        have hy0 : X.getD i 0 = 0 := by
          apply Classical.byContradiction
          intro hn
          have a := RwM.zs_drop X i kx'
          rw [if_neg hn] at a
          have b := hEi.out
          omega
        have HE2 : Hid (i + 1 + RwM.zs (X.drop (i + 1)) = f) := by
          have a := RwM.zs_drop X i kx'
          rw [if_pos hy0] at a
          have b := hEi.out
          unfold Hid; omega
        rcases HRr.out with e | ⟨bx, ox, rfl, hc⟩
        · rw [e] at kx'; exact absurd kx' (Nat.not_lt_zero _)
        have hcell := hc i kx'
        rw [hy0] at hcell
        have ki : (i : Int) < (nt : Int) := by omega
        clear hc kx' hy0
        go_wp2
        go_round
        case rel => exact ⟨i + 1, by omega, by go_num, HE2⟩
        case measure => simp [intOf]; omega
      · obtain rfl : i = f := by omega
        by_cases hfe : i = nt
        · have HEE : Hid (pre = L ++ RwM.rb X) := by
            have a := hE.out
            rw [RwM.rb_end (by rw [List.length_drop]; have := HF.out; have := HX.out.1; omega), List.append_nil] at a
            exact a
          have ki : ¬ (i : Int) < (nt : Int) := by omega
          have kff : ((i : Int) == (nt : Int)) = true := by rw [hfe]; exact beq_self_eq_true _
          have hbr : Below w.heap.size w wr := below_gr hb6 hG.out (by omega) HT6.out
          have HBR : Hid (Below w.heap.size w wr) := hbr
          go_upto_region 19 with fail
          go_wp2_with fail
          have hcr := refCrc_any T HB.out.2 (by have := HN.out.2; omega) b kt wr (HR.out wr HBR.out).2
          rw [HN.out.2] at hcr
          refine hcr.mono ?_
          rintro e w7 ⟨rfl, rfl⟩
          clear hcr
          obtain ⟨c, hc⟩ : ∃ c, c = crc T := ⟨_, rfl⟩
          rw [← hc] at HD HC ⊢
          clear hc
          have hcl := HC.out
          go_wp2_with (refine wpList_ap rfl _ _ rfl (Tx.on hT.out ((Below.refl _ _).alloc (Nat.le_refl _) _)) (hG.out.alloc _) (by simp; omega) rfl rfl rfl (row_sum _ c hcl) (by have := HPL.out; simp [sum4]; omega) ?_; intro v8 w8 T8 G8 hs8)
          go_ret
          exact ⟨_, rfl, by rw [HD.out, ← HEE.out]; exact T8, below_gr hb6 G8 (by omega) HT6.out⟩
        · have kx' : i < X.length := by have := HX.out.1; omega
          have hyn : X.getD i 0 ≠ 0 := by
            intro hn
            have a := RwM.zs_drop X i kx'
            rw [if_pos hn] at a
            have b := hEi.out
            omega
          have HRr2 : Hid (Row wr ax X) := HRr
          rcases HRr.out with e | ⟨bx, ox, rfl, hcx⟩
          · rw [e] at kx'; exact absurd kx' (Nat.not_lt_zero _)
          have hcell := hcx i kx'
          have hyb : ((X.getD i 0 : Int) == 0) = false := by rw [beq_eq_false_iff_ne]; omega
          have ki : (i : Int) < (nt : Int) := by omega
          have kff : ((i : Int) == (nt : Int)) = false := by rw [beq_eq_false_iff_ne]; omega
          generalize X.getD i 0 = y at *
          have HZ : Hid (RwM.zs (X.drop k) ≠ (X.drop k).length) := by have := HF.out; have := HX.out.1; unfold Hid; rw [List.length_drop]; omega
          obtain ⟨z, hz⟩ : ∃ z, z = RwM.zs (X.drop k) := ⟨_, rfl⟩
          obtain ⟨n, hn⟩ : ∃ n, n = RwM.rn (X.drop k) := ⟨_, rfl⟩
          obtain ⟨g, hg⟩ : ∃ g, g = i + 1 + RwM.rl (X.drop (i + 1)) := ⟨_, rfl⟩
          have hn1 : 1 ≤ n := by rw [hn]; exact RwM.rn_pos _
          have hfz : k + z = i := by rw [hz]; exact HF.out
          have hzn : k + z + n ≤ nt := by have h1 := RwM.rn_le HZ.out; have h2 := HX.out.1; rw [List.length_drop, ← hz, ← hn] at h1; omega
          have hgn : i + n = g := by
            have := RwM.rn_drop X k
            rw [← hn, ← hz, hfz] at this
            rw [hg, this]; omega
          have HRB : Hid (RwM.rb (X.drop k) = RwM.num z ++ (RwM.num n ++ ((X.drop i).take n ++ RwM.rb (X.drop g)))) := by
            have h1 := RwM.rb_run HZ.out
            rw [← hz, ← hn, List.drop_drop, List.drop_drop, hfz, show k + (z + n) = g by omega] at h1
            exact h1
          have HGG : Hid (i + 1 + RwM.rl (X.drop (i + 1)) = g) := hg.symm
          have HA : Hid (k + z = i ∧ i + n = g ∧ z < 2097152 ∧ n < 2097152) := ⟨hfz, hgn, by omega, by omega⟩
          have e1 : (i : Int) - (k : Int) = (z : Int) := by omega
          have e2 : (g : Int) - (i : Int) = (n : Int) := by omega
          have hki : k ≤ i := by omega
          have hig : i < g := by omega
          have hgx : g ≤ nt := by omega
          have hfc : i < kx := by omega
          have hgc : g ≤ kx := by omega
          clear HZ HF hz hn hg hfz hgn hzn hn1 hyn kx' hcx
          go_upto_region 13 with fail
          rcases HR6.out with e | ⟨bx', ox', ex, hc0⟩
          · have := HX.out.1; rw [e] at this; simp at this; omega
          obtain ⟨rfl, rfl⟩ : bx = bx' ∧ ox = ox' := by cases ex; exact ⟨rfl, rfl⟩
          have HU : Hid (u5.ownBlock ≠ some bx) := hG.out.apart (cell_lt (p := ⟨bx, ox + i, none⟩) (hc0 i (by have := HX.out.1; omega))) (HAB.out _ rfl)
          clear hc0 ex
          go_loop [9] (fun x => ∃ s : Nat, i + 1 ≤ s ∧ s ≤ nt ∧ x = .int .i64 s ∧ Hid (s + RwM.rl (X.drop s) = g)) (fun x => nt - (intOf x).toNat)
          case atStart => exact ⟨i + 1, by omega, by omega, by go_num, HGG⟩
          case round =>
            obtain ⟨s, hs1', hs2', rfl, hEs⟩ := hrel
            have hsg : s ≤ g := by have := hEs.out; omega
            by_cases h2 : s < g
            · have sx : s < X.length := by have := HX.out.1; omega
              have HQ : Hid (RwM.quiet (X.drop s) = false) := by
                cases hq : RwM.quiet (X.drop s) with
                | false => rfl
                | true =>
                  have a := RwM.rl_drop X s sx
                  rw [if_pos hq] at a
                  have b := hEs.out
                  omega
              have HE2 : Hid (s + 1 + RwM.rl (X.drop (s + 1)) = g) := by
                have a := RwM.rl_drop X s sx
                rw [if_neg (by rw [HQ.out]; decide)] at a
                have b := hEs.out
                unfold Hid; omega
              have si : (s : Int) < (nt : Int) := by omega
              clear sx
              go_wp2_with fail
              refine (quiet_any X nt HX.out.2 HX.out.1 (by omega) s (by omega) _ kx wr HRr2.out).mono ?_
              rintro e w9 ⟨rfl, rfl⟩
              rw [HQ.out]
              go_wp2
              go_round
              case rel => exact ⟨s + 1, by omega, by omega, by go_num, HE2⟩
              case measure => simp [intOf]; omega
            · obtain rfl : s = g := by omega
              have HQ : Hid (s < nt → RwM.quiet (X.drop s) = true) := fun hlt => by
                cases hq : RwM.quiet (X.drop s) with
                | true => rfl
                | false =>
                  have a := RwM.rl_drop X s (by have := HX.out.1; omega)
                  rw [if_neg (by rw [hq]; decide)] at a
                  have b := hEs.out
                  omega
              go_upto_region 13 with fail
              go_cut [62] (fun v wx => v = .bool false ∧ wx = wr)
              case first =>
                by_cases h3 : s < nt
                · have si : (s : Int) < (nt : Int) := by omega
                  have HQ2 : Hid (RwM.quiet (X.drop s) = true) := HQ.out h3
                  go_wp2_with fail
                  refine (quiet_any X nt HX.out.2 HX.out.1 (by omega) s (by omega) _ kx wr HRr2.out).mono ?_
                  rintro e w9 ⟨rfl, rfl⟩
                  rw [HQ2.out]
                  go_wp2
                  go_meet
                  exact ⟨rfl, rfl⟩
                · have si : ¬ (s : Int) < (nt : Int) := by omega
                  go_wp2
                  go_meet
                  exact ⟨rfl, rfl⟩
              case rest =>
              obtain ⟨rfl, hwc⟩ := hcut
              rw [hwc]
              clear hwc
              go_wp2_with fail
              refine (rnumber_any z HA.out.2.2.1 wr).mono ?_
              rintro e w7 ⟨x7, rfl, X7, b7⟩
              have hs7 := b7.size
              obtain ⟨a7, k7, rfl, hk7, r7, p7⟩ := X7.full
              have HL7 : Hid ((RwM.num z).length ≤ 3) := (RwM.num_len z HA.out.2.2.1).2.1
              have HT7 : Hid (Tx w7 w.heap.size u5 pre) := hT.out.on b7
              have HR7 : Hid (Row w7 a7 (RwM.num z)) := r7.row
              have HG7 : Hid (Gr w6 v5 w7 u5) := hG.out.on b7
              clear X7 b7 r7 p7 hk7 HRr HRr2
              go_wp2_with (refine wpList_ap rfl _ _ rfl HT7.out HG7.out (by omega) rfl rfl rfl HR7.out (by have := HL7.out; have := HPL.out; omega) ?_; intro v8 w8 T8 G8 hs8)
              clear HT7 HG7 HR7
              refine (rnumber_any n HA.out.2.2.2 w8).mono ?_
              rintro e w9 ⟨x9, rfl, X9, b9⟩
              have hs9 := b9.size
              obtain ⟨a9, k9, rfl, hk9, r9, p9⟩ := X9.full
              have HL9 : Hid ((RwM.num n).length ≤ 3) := (RwM.num_len n HA.out.2.2.2).2.1
              have HT9 : Hid (Tx w9 w.heap.size v8 (pre ++ RwM.num z)) := T8.on b9
              have HR9 : Hid (Row w9 a9 (RwM.num n)) := r9.row
              have HG9 : Hid (Gr w6 v5 w9 v8) := G8.on b9
              clear X9 b9 r9 p9 hk9 T8 G8
              have HL10 : Hid (((X.drop i).take n).length = s - i) := by have := HX.out.1; have := HA.out.2.1; unfold Hid; simp only [List.length_take, List.length_drop]; omega
              have HX10 : Hid (∀ W v, Gr w6 v5 W v → Row W (some ⟨bx, ox + i, none⟩) ((X.drop i).take n)) := fun W v hg => by
                rcases hg.row HR6.out HAB.out with e | ⟨b', off', e, hc⟩
                · exact .inl (by rw [e]; simp)
                · cases e
                  refine .inr ⟨bx, ox + i, rfl, fun j hj => ?_⟩
                  simp only [List.length_take, List.length_drop] at hj
                  have h1 := hc (i + j) (by omega)
                  rw [← Nat.add_assoc] at h1
                  rw [h1]
                  simp [List.getD, List.getElem?_take, List.getElem?_drop, show j < n by omega]
              go_wp2_with (first
                | (refine wpList_ap rfl _ _ rfl HT9.out HG9.out (by omega) rfl rfl rfl HR9.out (by have := HL7.out; have := HL9.out; have := HPL.out; simp only [List.length_append]; omega) ?_; intro v10 w10 T10 G10 hs10; clear HT9 HG9 HR9)
                | (refine wpList_ap rfl _ _ rfl T10 G10 hs10 rfl rfl HL10.out (HX10.out _ _ G10) (by have := HL7.out; have := HL9.out; have := HPL.out; have := HL10.out; simp only [List.length_append]; omega) ?_; intro v11 w11 T11 G11 hs11))
              go_roundw
              case rel =>
                refine ⟨s, _, by omega, rfl, ?_, T11, G11, hs11⟩
                unfold Hid
                rw [← hE.out, HRB.out]
                simp only [List.append_assoc]
              case measure => simp [intOf]; omega
end Go.Proofs.YtlckjbangdnejaaDoor
