/-
  The law CartCut returns true; conditions: the numbers are ints.
-/
import Derived.Test.YtilhlbnicmmaoaaPcuImg
import Derived.StillTailTactics
set_option linter.unusedSimpArgs false
set_option linter.unusedVariables false
namespace Go.Proofs.Ytilhlbnicmmaoaa
open Go.RowKit
theorem tdiv4 (n : Int) (h1 : -9223372036854775808 ≤ n) (h2 : n ≤ 9223372036854775807) : -9223372036854775808 ≤ n.tdiv 4 ∧ n.tdiv 4 ≤ 9223372036854775807 := by
  rcases Int.le_total 0 n with h | h
  · rw [Int.tdiv_eq_ediv_of_nonneg h]; omega
  · obtain ⟨m, rfl⟩ : ∃ m, n = -m := ⟨-n, by omega⟩
    rw [Int.neg_tdiv, Int.tdiv_eq_ediv_of_nonneg (by omega)]; omega
theorem infoHead : (Try.prog.info? 24).map (·.size) = some 22 := by kernel_rfl
theorem copied_own (n : Nat) (l : List Nat) (hn : l.length = n) (hl : Bytes l) (hlen : n ≤ 140737488351232) (a : Option Addr) (cap : Nat) (w : World) (hrow : Row w a l) :
    Calls Try.prog 7 #[.slice a n cap] w fun e w' => ∃ g, e = .returned (.slice (some ⟨g, 0, none⟩) n n) ∧ w.heap.size ≤ g ∧ Own w' g l ∧ Below w.heap.size w w' := by
  subst hn
  exact copied_any l hl hlen a cap w hrow
theorem xor_turn (x t : Nat) (hx : x < 256) (h1 : 1 ≤ t) (h2 : t < 256) : ∃ v : Nat, bits BinOp.xor IntKind.u8 (x : Int) (t : Int) = (v : Int) ∧ v < 256 ∧ v ≠ x := by
  refine ⟨x ^^^ t, u8_xor_nat x t hx h2, Nat.xor_lt_two_pow (n := 8) hx h2, fun h => ?_⟩
  have h3 : x ^^^ (x ^^^ t) = x ^^^ x := by rw [h]
  rw [← Nat.xor_assoc, Nat.xor_self, Nat.zero_xor] at h3
  omega
theorem bytes_set {L : List Nat} (h : Bytes L) (i v : Nat) (hv : v < 256) : Bytes (L.set i v) := fun y hy => by
  rcases List.mem_or_eq_of_mem_set hy with h1 | h1
  · exact h y h1
  · rw [h1]; exact hv
/-- The law's block with a cartridge that is none. -/
structure Nc (w : World) (g : Nat) (xs : Array Value) (W : World) : Prop where
  b : Blk W g xs 30
  c : Cl W xs noC [] [] [] []
  bl : Below w.heap.size w W
theorem Nc.below {w W W' : World} {g : Nat} {xs : Array Value} (K : Nc w g xs W) (hb : Below W.heap.size W W') : Nc w g xs W' := ⟨K.b.below K.b.lt hb, K.c.below hb, K.bl.trans (hb.mono K.bl.size)⟩
set_option maxRecDepth 100000 in
set_option maxHeartbeats 6400000 in
theorem cut_law (hs : Array Value) (f : Int) (bl : List Nat) (p q : Int) (tr : Bool) (r fl : Int) (cut turn : Int) (w : World) (HH0 : IsH hs f bl p q tr r fl)
    (hf : -9223372036854775808 ≤ f ∧ f  ≤ 9223372036854775807) (hp : -9223372036854775808 ≤ p ∧ p  ≤ 9223372036854775807) (hq : -9223372036854775808 ≤ q ∧ q  ≤ 9223372036854775807) (hr : -9223372036854775808 ≤ r ∧ r  ≤ 9223372036854775807) (hfl : -9223372036854775808 ≤ fl ∧ fl  ≤ 9223372036854775807) (hc : -9223372036854775808 ≤ cut ∧ cut  ≤ 9223372036854775807) (ht : -9223372036854775808 ≤ turn ∧ turn  ≤ 9223372036854775807) :
    Calls Try.prog 3 #[.agg hs, .int .i64 cut, .int .i64 turn] w fun e w' => e = .returned (.bool true) ∧ Below w.heap.size w w' := by
  have IMG : Hid (∀ W : World, Calls _ _ _ _ _) := fun W => image_any hs f bl p q tr r fl W HH0 hf hp hq hr hfl
  have HS : Hid (hs.size = 22) := HH0.size
  have hsz := HH0.size
  have HCT : Hid ((-9223372036854775808 ≤ cut ∧ cut  ≤ 9223372036854775807) ∧ (-9223372036854775808 ≤ turn ∧ turn  ≤ 9223372036854775807)) := ⟨hc, ht⟩
  clear HH0 hf hp hq hr hfl hc ht
  go_enter Try.func3, Try.ntmps3
  go_upto_region 1 with fail
  have b0 : Blk (w.alloc (.cells hs 24)) w.heap.size hs 24 := Blk.new w hs _
  have hb0 : Below w.heap.size w (w.alloc (.cells hs 24)) := (Below.refl _ _).alloc (Nat.le_refl _) _
  generalize w.alloc (.cells hs 24) = W0 at *
  clear hsz
  go_cut [7, 8] (fun p q wx => ∃ (L : List Nat) (a : Option Addr) (n k fin : Nat), p = .slice a n k ∧ q = .int .i64 (fin : Nat) ∧ L.length = n ∧ Im L fin ∧ Row wx a L ∧ n ≤ k ∧ Below w.heap.size w wx)
  case first =>
    go_wp2_with (first
      | (refine wpList_load_mid rfl 24 _ rfl w.heap.size 0 rfl hs.toList _ b0.range Try.underlying24 rfl (by rw [Array.length_toList, HS.out]; exact infoHead) ?_; rw [Array.toArray_toList])
      | (go_at_call 4; go_must (refine (IMG.out _).mono ?_; rintro e W1 ⟨L, a, n, k, fin, rfl, hlen, im, rf, hk, hb1⟩)))
    go_meet
    exact ⟨L, a, n, k, fin, rfl, rfl, hlen, im, rf.row, hk, hb0.trans (hb1.mono hb0.size)⟩
  case rest =>
  clear IMG b0 hb0
  obtain ⟨L, a, n, k, fin, rfl, rfl, hlen, im, hr0, hk, hb1⟩ := hcut
  generalize wc = W1 at *
  have h16 : 16 ≤ fin := by rw [← im.fe]; exact fin_ge _
  have hfn : fin ≤ n := by rw [← hlen]; exact im.le
  have hmx : n ≤ 2097152 := by rw [← hlen]; exact im.max
  have HIM : Hid (Im L fin ∧ L.length = n) := ⟨im, hlen⟩
  have HBT : Hid (∀ k, Bytes (L.take k)) := fun k y hy => im.bys y (List.mem_of_mem_take hy)
  obtain ⟨b, off, rfl⟩ : ∃ b off, a = some ⟨b, off, none⟩ := by
    rcases hr0 with e | ⟨b, off, e, _⟩
    · rw [e] at hlen; simp at hlen; omega
    · exact ⟨b, off, e⟩
  have HRW : Hid (Row W1 (some ⟨b, off, none⟩) L) := hr0
  clear im hlen hr0
  go_upto_region 2 with fail
  have hsp := spanV_bd cut 0 ((fin : Int) - 1) (by omega)
  go_wp2_with fail
  refine (span_any cut 0 ((fin : Int) - 1) W1 HCT.out.1.1 HCT.out.1.2 (by omega) (by omega) (by omega)).mono ?_
  rintro e W1 ⟨rfl, rfl⟩
  generalize spanV cut 0 ((fin : Int) - 1) = sp at *
  obtain ⟨kk, rfl⟩ := Int.eq_ofNat_of_zero_le hsp.1
  have hkf : kk < fin := by omega
  clear hsp
  go_upto_region 3 with fail
  have HRT : Hid (Row W1 (some ⟨b, off, none⟩) (L.take kk) ∧ (L.take kk).length = kk) := by
    refine ⟨?_, by rw [List.length_take, HIM.out.2]; omega⟩
    have := HRW.out.sub 0 kk (by rw [HIM.out.2]; omega)
    rw [List.drop_zero, Nat.add_zero] at this
    exact this
  have HKF : Hid (kk < fin) := hkf
  have CP : Hid (∀ cap : Nat, Calls _ _ _ _ _) := fun cap => copied_own kk (L.take kk) HRT.out.2 (HBT.out kk) (by omega) (some ⟨b, off, none⟩) cap W1 HRT.out.1
  have g1 : (kk : Int) ≤ (k : Int) := by omega
  have g1n : kk ≤ k := by omega
  have g2 : ¬ k = 0 := by omega
  have HPZ : Hid (pz (L.take kk) = (11, kk)) := HIM.out.1.cut hkf
  have HPC : Hid (((pC (L.take kk) = noC ∧ pT (L.take kk) = []) ∧ (pP (L.take kk) = [] ∧ pQ (L.take kk) = [])) ∧ pR (L.take kk) = []) := by
    have hz : ¬ (pz (L.take kk)).1 = 0 := by rw [HPZ.out]; show ¬ (11 : Nat) = 0; decide
    unfold pC pT pP pQ pR
    exact ⟨⟨⟨if_neg hz, if_neg hz⟩, if_neg hz, if_neg hz⟩, if_neg hz⟩
  clear hkf
  go_cut [10, 11, 12] (fun p q r wx => ∃ g xs, p = .pointer (some ⟨g, 0, none⟩) ∧ q = .int .i64 11 ∧ r = .int .i64 (kk : Nat) ∧ Nc w g xs wx ∧ Row wx (some ⟨b, off, none⟩) L ∧ w.heap.size ≤ g)
  case first =>
    go_wp2_with (first
      | (go_at_call 7; go_must (refine (CP.out _).mono ?_; rintro e W5 ⟨g5, rfl, hg5, ho5, hb5⟩; have hb05 := hb1.trans (hb5.mono hb1.size); have r5 := HRW.out.below hb5))
      | (go_at_call 6; go_must (refine (parse_g (L.take kk) (HBT.out kk) (some ⟨g5, 0, none⟩) kk kk W5 HRT.out.2 (Nat.le_refl _) ho5.row).mono ?_; rintro e W6 ⟨xs, rfl, XL, hb6⟩; rw [HPC.out.1.1.1, HPC.out.1.1.2, HPC.out.1.2.1, HPC.out.1.2.2, HPC.out.2] at XL; rw [HPZ.out]; have HX6 : Hid (xs.size = 19 ∧ xs.all (·.oneCell') = true) := ⟨XL.c.size, XL.c.one⟩; have hb06 := hb05.trans (hb6.mono hb05.size); have r6 := r5.below hb6))
      | (refine wpList_store_mid rfl 30 _ _ rfl _ 0 xs rfl rfl ((Blk.new _ _ _).there _ (by first | exact HX6.out.1.symm | (rw [HX6.out.1]; rfl))) (by rw [HX6.out.1]; exact Try.infoCart) HX6.out.2 ?_))
    go_meet
    have hl : Below W6.heap.size W6 ((W6.alloc (.cells Z19 30)).setCells W6.heap.size 0 xs.toList) := setCells_below (Nat.le_refl _) _ _ _ _ ((Below.refl _ _).alloc (Nat.le_refl _) _)
    exact ⟨_, xs, rfl, rfl, rfl, ⟨(Blk.new W6 Z19 30).setAll (L := xs) (by rw [HX6.out.1]; rfl), XL.below hl, hb06.trans (hl.mono hb06.size)⟩, r6.below hl, hb06.size⟩
  case rest =>
  clear CP HRW hb1 g1 g1n g2 HPC HPZ HRT
  obtain ⟨g10, xs, rfl, rfl, rfl, N0, rw0, hgw⟩ := hcut
  have HGW : Hid (w.heap.size ≤ g10) := hgw
  clear hgw
  generalize wc = W2 at *
  go_upto_region 4 with fail
  have HXS : Hid (xs.size = 19) := N0.c.c.size
  have EQ1 : Hid (Calls _ _ _ _ _) := equal_yes xs Z19 noC [] [] [] [] W2 N0.c (cl_no W2)
  have HRW : Hid (Row W2 (some ⟨b, off, none⟩) L) := rw0
  clear rw0
  go_wp2_with (refine wpList_load_want (by rfl) 30 _ rfl g10 0 rfl xs.toList _ N0.b.range Try.underlying30 rfl (by rw [Array.length_toList, HXS.out]; exact Try.infoCart) ?_; rw [Array.toArray_toList])
  refine EQ1.out.mono ?_
  rintro e W3 ⟨rfl, hb3⟩
  replace N0 := N0.below hb3
  have HRW3 : Hid (Row W3 (some ⟨b, off, none⟩) L) := HRW.out.below hb3
  clear EQ1 HRW hb3
  go_upto_region 6 with fail
  have hst := spanV_bd turn 0 3 (by omega)
  go_wp2_with fail
  refine (span_any turn 0 3 W3 HCT.out.2.1 HCT.out.2.2 (by omega) (by omega) (by omega)).mono ?_
  rintro e W3 ⟨rfl, rfl⟩
  generalize spanV turn 0 3 = st at *
  obtain ⟨ii, rfl⟩ := Int.eq_ofNat_of_zero_le hst.1
  have hi4 : ii < 4 := by omega
  clear hst
  go_upto_region 7 with fail
  go_wp2_with fail
  refine (copied_own n L HIM.out.2 HIM.out.1.bys (by omega) (some ⟨b, off, none⟩) k W3 HRW3.out).mono ?_
  rintro e W4 ⟨gd, rfl, hgd, hod, hbd⟩
  have hg10 : g10 < W3.heap.size := N0.b.lt
  replace N0 := N0.below hbd
  clear HRW3 hbd
  go_upto_region 8 with fail
  obtain ⟨x, hx⟩ : ∃ x, L.getD ii 0 = x := ⟨_, rfl⟩
  have hxb : x < 256 := by
    rw [← hx, List.getD_eq_getElem?_getD]
    cases e : L[ii]? with
    | none => decide
    | some v => exact HIM.out.1.bys v (List.mem_of_getElem? e)
  have hsp := spanV_bd (turn.tdiv 4) 0 254 (by omega)
  have td := tdiv4 turn HCT.out.2.1 HCT.out.2.2
  have SC : Hid (∀ W : World, Calls _ _ _ _ _) := fun W => span_any (turn.tdiv 4) 0 254 W td.1 td.2 (by omega) (by omega) (by omega)
  generalize spanV (turn.tdiv 4) 0 254 = sp at *
  obtain ⟨tt, rfl⟩ := Int.eq_ofNat_of_zero_le hsp.1
  obtain ⟨v, ev, lv, nv⟩ := xor_turn x (1 + tt) hxb (by omega) (by omega)
  rw [show ((1 + tt : Nat) : Int) = 1 + (tt : Int) by omega] at ev
  have ew : IntKind.u8.wrap (1 + (tt : Int)) = 1 + (tt : Int) := by rw [IntKind.wrap_u8']; omega
  have ew2 : IntKind.i64.wrap (1 + (tt : Int)) = 1 + (tt : Int) := by rw [IntKind.wrap_i64]; omega
  have HV : Hid (v < 256 ∧ v ≠ L.getD ii 0) := ⟨lv, by rw [hx]; exact nv⟩
  have cx : W4.cell? ⟨gd, ii, none⟩ = some (.int .u8 ((x : Nat) : Int)) := by rw [← hx]; exact hod.cell ii (by rw [HIM.out.2]; omega)
  have fx := hod.free ii
  have hi0 : (0 : Int) ≤ (ii : Int) := by omega
  have hin : (ii : Int) < (n : Int) := by omega
  have hinN : ii < n := by omega
  have ewq : IntKind.i64.wrap (turn.tdiv 4) = turn.tdiv 4 := by rw [IntKind.wrap_i64]; omega
  have HIN : Hid ((L.set ii v).length = n ∧ Bytes (L.set ii v)) := ⟨by rw [List.length_set]; exact HIM.out.2, bytes_set HIM.out.1.bys ii v lv⟩
  have HPZ : Hid (pz (L.set ii v) = (10, ii)) := HIM.out.1.turn hi4 HV.out.2
  have HPC : Hid (((pC (L.set ii v) = noC ∧ pT (L.set ii v) = []) ∧ (pP (L.set ii v) = [] ∧ pQ (L.set ii v) = [])) ∧ pR (L.set ii v) = []) := by
    have hz : ¬ (pz (L.set ii v)).1 = 0 := by rw [HPZ.out]; show ¬ (10 : Nat) = 0; decide
    unfold pC pT pP pQ pR
    exact ⟨⟨⟨if_neg hz, if_neg hz⟩, if_neg hz, if_neg hz⟩, if_neg hz⟩
  clear hx lv nv hsp hxb td
  refine wp_region_still_tail 13 (by kernel_rfl) (by kernel_rfl) ?_
  simp only [List.take_succ_cons, List.take_zero, List.drop_succ_cons, List.drop_zero]
  repeat still_step
  still_call (SC.out _)
  repeat still_step
  refine wpStill_nil ?_
  change wpList _ _ _ _ _ W4.drew
  have hod2 : Own W4.drew gd L := hod
  have cx2 : W4.drew.cell? ⟨gd, ii, none⟩ = some (.int .u8 ((x : Nat) : Int)) := cx
  have fx2 := hod2.free ii
  have N1 := N0.below (Below.refl W4.heap.size W4).drew
  clear hod cx fx N0 SC ev ew ew2 ewq
  generalize W4.drew = W5 at *
  have hod3 := hod2.set ii v
  have hne : g10 ≠ gd := by omega
  have b3 := N1.b.other hne ii (.int .u8 ((v : Nat) : Int))
  have bl3 := N1.bl.setCell (p := ⟨gd, ii, none⟩) (by have := HGW.out; show w.heap.size ≤ gd; omega) (.int .u8 ((v : Nat) : Int))
  have HXS2 : Hid (xs.size = 19) := HXS
  go_upto_region 9 with fail
  clear cx2 fx2 N1 hod2
  generalize W5.setCell ⟨gd, ii, none⟩ (.int .u8 ((v : Nat) : Int)) = W6 at *
  have PG : Hid (Calls _ _ _ _ _) := parse_g (L.set ii v) HIN.out.2 (some ⟨gd, 0, none⟩) n n W6 HIN.out.1 (Nat.le_refl _) hod3.row
  go_cut [11, 12] (fun q r wx => ∃ ys, q = .int .i64 10 ∧ r = .int .i64 (ii : Nat) ∧ Nc w g10 ys wx)
  case first =>
    go_wp2_with (first
      | (go_at_call 6; go_must (refine PG.out.mono ?_; rintro e W7 ⟨ys, rfl, YL, hb7⟩; rw [HPC.out.1.1.1, HPC.out.1.1.2, HPC.out.1.2.1, HPC.out.1.2.2, HPC.out.2] at YL; rw [HPZ.out]; have HY : Hid (ys.size = 19 ∧ ys.all (·.oneCell') = true) := ⟨YL.c.size, YL.c.one⟩; have b7 := b3.below b3.lt hb7; have hb07 := bl3.trans (hb7.mono bl3.size)))
      | (refine wpList_store_mid rfl 30 _ _ rfl g10 0 ys rfl rfl (by exact b7.there _ (by rw [HY.out.1]; exact HXS2.out)) (by rw [HY.out.1]; exact Try.infoCart) HY.out.2 ?_))
    go_meet
    have hls : Below w.heap.size w (W7.setCells g10 0 ys.toList) := setCells_below HGW.out _ _ _ _ hb07
    exact ⟨ys, rfl, rfl, ⟨b7.setAll (L := ys) (by rw [HY.out.1, HXS2.out]), ⟨YL.c, rfl, rfl, rfl, rfl, YL.rt.imp fun _ h => h.imp fun _ h => ⟨h.1, .inl rfl⟩, YL.rp.imp fun _ h => h.imp fun _ h => ⟨h.1, .inl rfl⟩, YL.rq.imp fun _ h => h.imp fun _ h => ⟨h.1, .inl rfl⟩, YL.rr.imp fun _ h => h.imp fun _ h => ⟨h.1, .inl rfl⟩⟩, hls⟩⟩
  case rest =>
  clear PG b3 bl3 hod3
  obtain ⟨ys, rfl, rfl, N2⟩ := hcut
  generalize wc = W8 at *
  go_upto_region 10 with fail
  have HYS : Hid (ys.size = 19) := N2.c.c.size
  have EQ2 : Hid (Calls _ _ _ _ _) := equal_yes ys Z19 noC [] [] [] [] W8 N2.c (cl_no W8)
  go_wp2_with (refine wpList_load_want (by rfl) 30 _ rfl g10 0 rfl ys.toList _ N2.b.range Try.underlying30 rfl (by rw [Array.length_toList, HYS.out]; exact Try.infoCart) ?_; rw [Array.toArray_toList])
  refine EQ2.out.mono ?_
  rintro e W9 ⟨rfl, hb9⟩
  replace N2 := N2.below hb9
  clear EQ2 hb9
  go_wp2
  go_ret
  exact ⟨rfl, N2.bl⟩
end Go.Proofs.Ytilhlbnicmmaoaa
