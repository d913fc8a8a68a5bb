/-
  What the document's Parse answers; conditions: the image lies in memory, its four first bytes in the document's table.
-/
import Derived.Test.YtilhlbnicmmaoaaDoorPre5s
set_option linter.unusedSimpArgs false
set_option linter.unusedVariables false
namespace Go.Proofs.YtilhlbnicmmaoaaDoor
open Go.RowKit
set_option maxRecDepth 20000 in
set_option maxHeartbeats 4000000 in
theorem rparse_ahead (L : List Nat) (a : Option Addr) (n k : Nat) (w : World) (hI : L.length = n) (hlen : n ≤ 140737488355328) (hr : Row w a L) (M : MgW w) (hz : (fz L).1 ≠ 0) :
    Calls Tryd.prog 9 #[.slice a n k] w (PaG L w) := by
  have HPZ : Hid (pz L = fz L) := fz_no hz
  have FC : Hid (∀ W : World, Below w.heap.size w W → Calls _ _ _ _ _) := fun W hb => rfront_g L a n k hI hlen W (hr.below hb) (M.below hb)
  obtain ⟨x, hx⟩ : ∃ x, (fz L).1 = x := ⟨_, rfl⟩
  obtain ⟨y, hy⟩ : ∃ x, (fz L).2 = x := ⟨_, rfl⟩
  have HXY : Hid (pz L = (x, y)) := by unfold Hid; rw [HPZ.out, ← hx, ← hy]
  have HX0 : Hid (x ≠ 0) := by rw [← hx]; exact hz
  have hx0 : ((x : Int) != 0) = true := by rw [bne_iff_ne]; have := HX0.out; omega
  rw [hx, hy] at FC
  have HZ1 : Hid (Z19.all (·.oneCell') = true) := by unfold Hid; kernel_rfl
  clear hx hy HPZ hI hr M hz
  go_enter Tryd.func9, Tryd.ntmps9
  go_upto_region 1 with fail
  have hb0 : Below w.heap.size w (w.alloc (.cells Z19 25)) := (Below.refl _ _).alloc (Nat.le_refl _) _
  have z0 : Blk (w.alloc (.cells Z19 25)) w.heap.size Z19 25 := Blk.new w Z19 _
  generalize w.alloc (.cells Z19 25) = W0 at *
  have FC1 : Hid (Calls _ _ _ _ _) := FC.out W0 hb0
  clear FC
  go_wp2_with fail
  refine FC1.out.mono ?_
  rintro e W1 ⟨rfl, hb1⟩
  have z1 := z0.below z0.lt hb1
  have hbw := hb0.trans (hb1.mono hb0.size)
  clear FC1 z0 hb0 hb1
  go_wp2_with (refine wpList_store_mid rfl 25 _ _ rfl w.heap.size 0 Z19 rfl rfl (by exact z1.there _ rfl) (by exact Tryd.infoCart) HZ1.out ?_)
  refine ret_agg3 (m := w.heap.size) (L := Z19) (x := .int .i64 (x : Nat)) (y := .int .i64 (y : Nat)) Tryd.results9 (by rfl) (by rfl) (by rfl) (z1.setAll (L := Z19) rfl) Tryd.underlying25 rfl (by exact Tryd.infoCart) ?_
  exact PaG.no HXY.out HX0.out (setCells_below (Nat.le_refl _) _ _ _ _ hbw)
set_option maxRecDepth 20000 in
set_option maxHeartbeats 4000000 in
theorem rparse_on (L : List Nat) (hB : Bytes L) (b off n k : Nat) (w : World) (hI : L.length = n) (hr : Row w (some ⟨b, off, none⟩) L) (M : MgW w) (hz : (fz L).1 = 0) :
    Calls Tryd.prog 9 #[.slice (some ⟨b, off, none⟩) n k] w (PaG L w) := by
  obtain ⟨hn, h16, hfz, hpz⟩ := fz_yes hz
  rw [hI] at hn h16 hpz
  have FC : Hid (∀ W : World, Below w.heap.size w W → Calls Tryd.prog 27 #[.slice (some ⟨b, off, none⟩) n k] W fun e w' => e = .returned (.tuple #[.int .i64 0, .int .i64 0]) ∧ Below W.heap.size W w') := fun W hb => by
    have := rfront_g L (some ⟨b, off, none⟩) n k hI (by omega) W (hr.below hb) (M.below hb)
    rw [hfz] at this
    exact this
  obtain ⟨h, hh⟩ : ∃ h, hdOf L = h := ⟨_, rfl⟩
  have HOK : h.Ok := by rw [← hh]; exact hd_ok L (by exact hB)
  have HHC : Hid (∀ W : World, Row W (some ⟨b, off, none⟩) L → Calls _ _ _ _ _) := fun W H => rheader_g h HOK b off n k h16 W (by rw [← hh]; exact hd_at H (by omega))
  rw [hh] at hpz
  have HPZ : Hid (pz L = h.e n) := hpz
  obtain ⟨c, hc⟩ : ∃ c, h.cf h.cr 0 0 0 0 = c := ⟨_, rfl⟩
  have HC : Hid (h.cf h.cr 0 0 0 0 = c) := hc
  rw [hc] at HHC
  obtain ⟨vt, hvt⟩ : ∃ vt, c.vert = vt := ⟨_, rfl⟩
  obtain ⟨fo, hfo⟩ : ∃ vt, c.four = vt := ⟨_, rfl⟩
  obtain ⟨ba, hba⟩ : ∃ vt, c.bat = vt := ⟨_, rfl⟩
  have HVB : Hid ((c.vert = vt ∧ c.four = fo) ∧ c.bat = ba) := ⟨⟨hvt, hfo⟩, hba⟩
  rw [hvt, hfo, hba] at HHC
  have GP := rpg_or h
  have GQ := rch_or h
  obtain ⟨pg, hpg⟩ : ∃ pg, rpg h = pg := ⟨_, rfl⟩
  obtain ⟨ch, hch⟩ : ∃ pg, rch h = pg := ⟨_, rfl⟩
  obtain ⟨tr, htr⟩ : ∃ tr, h.tr = tr := ⟨_, rfl⟩
  obtain ⟨bd, hbd⟩ : ∃ tr, h.bad = tr := ⟨_, rfl⟩
  rw [hpg, hch, htr, hbd] at HHC
  rw [hpg] at GP
  rw [hch] at GQ
  have HBD : Hid (h.bad = bd) := hbd
  have HTR : Hid (h.tr = tr) := htr
  have HGP : Hid _ := GP
  have HGQ : Hid _ := GQ
  have ltr : tr ≤ 512 := by rw [← htr]; unfold Hq.tr; split <;> omega
  have HIL : Hid (L.length = n) := hI
  have HH : Hid (hdOf L = h) := hh
  have HZ1 : Hid (Z19.all (·.oneCell') = true) := by unfold Hid; kernel_rfl
  have HRW : Hid (Row w (some ⟨b, off, none⟩) L) := hr
  obtain ⟨HS, hHS⟩ : ∃ HS, hC c vt fo ba (tr : Nat) pg ch (bd : Nat) = HS := ⟨_, rfl⟩
  have HHS : Hid (hC c vt fo ba (tr : Nat) pg ch (bd : Nat) = HS) := hHS
  have HSO : Hid (HS.size = 23 ∧ HS.all (·.oneCell') = true) := by rw [← hHS]; exact hN_ok _ _ _ _ _ _ _ _ _ _ _ _ _ _ _ _ _ _ _
  rw [hHS] at HHC
  clear hHS hpg hch htr hbd hvt hfo hba hc hpz hz hfz M hh HOK hB hI GP GQ hr
  go_enter Tryd.func9, Tryd.ntmps9
  go_upto_region 1 with fail
  have hb0 : Below w.heap.size w (w.alloc (.cells Z19 25)) := (Below.refl _ _).alloc (Nat.le_refl _) _
  have z0 : Blk (w.alloc (.cells Z19 25)) w.heap.size Z19 25 := Blk.new w Z19 _
  generalize w.alloc (.cells Z19 25) = W0 at *
  have FC1 : Hid (Calls _ _ _ _ _) := FC.out W0 hb0
  clear FC
  go_wp2_with fail
  refine FC1.out.mono ?_
  rintro e W1 ⟨rfl, hb1⟩
  have z1 := z0.below z0.lt hb1
  have hbw := hb0.trans (hb1.mono hb0.size)
  clear FC1 z0 hb0 hb1
  go_upto_region 4 with fail
  have HC1 : Hid (Calls _ _ _ _ _) := HHC.out W1 (HRW.out.below hbw)
  clear HHC
  go_wp2_with fail
  refine HC1.out.mono ?_
  rintro e W2 ⟨rfl, hb2⟩
  have z2 := z1.below z1.lt hb2
  have hbw2 := hbw.trans (hb2.mono hbw.size)
  clear HC1 z1 hbw hb2
  go_upto_region 5 with (refine wpList_store_mid rfl 60 _ _ rfl W2.heap.size 0 HS rfl rfl ((Blk.new W2 Z23 60).there _ HSO.out.1.symm) (by rw [HSO.out.1]; exact infoHed) HSO.out.2 ?_)
  have K1 : Rp w L (some ⟨b, off, none⟩) HS W2.heap.size ((W2.alloc (.cells Z23 60)).setCells W2.heap.size 0 HS.toList) := by
    have hb : Below W2.heap.size W2 ((W2.alloc (.cells Z23 60)).setCells W2.heap.size 0 HS.toList) := setCells_below (Nat.le_refl _) _ _ _ _ ((Below.refl _ _).alloc (Nat.le_refl _) _)
    exact ⟨z2.below z2.lt hb, (Blk.new W2 Z23 60).setAll (L := HS) HSO.out.1, z2.lt, (HRW.out.below hbw2).below hb, hbw2.trans (hb.mono hbw2.size)⟩
  generalize (W2.alloc (.cells Z23 60)).setCells W2.heap.size 0 HS.toList = W3 at *
  generalize W2.heap.size = g at *
  clear z2 hbw2
  have K1 : Rp w L (some ⟨b, off, none⟩) (hC c vt fo ba (tr : Nat) pg ch (bd : Nat)) g W3 := by rw [HHS.out]; exact K1
  clear HHS HSO
  have d19 := (K1.b.cell 19).trans (show _ = some (.int .i64 ((tr : Nat) : Int)) from rfl)
  have d20 := (K1.b.cell 20).trans (show _ = some (.int .i64 pg) from rfl)
  have d21 := (K1.b.cell 21).trans (show _ = some (.int .i64 ch) from rfl)
  have d22 := (K1.b.cell 22).trans (show _ = some (.int .i64 ((bd : Nat) : Int)) from rfl)
  by_cases hbd : bd = 0
  case neg =>
    have HE : Hid (pz L = (12, bd)) := by unfold Hid; rw [HPZ.out]; unfold Hq.e; rw [HBD.out, if_pos hbd]
    have hb' : (0 : Int) < (bd : Int) := by omega
    clear d19 d20 d21
    go_upto_region 6 with fail
    have s0 := K1.b.drew
    have kz := K1.z.drew
    have kg := K1.hg
    have khb := K1.hb
    clear K1 d22
    obtain ⟨H4, hH4⟩ : ∃ H4, hC c vt fo ba (tr : Nat) pg ch (bd : Nat) = H4 := ⟨_, rfl⟩
    have HH4 : Hid (H4[22]? = some (.int .i64 ((bd : Nat) : Int))) := by rw [← hH4]; rfl
    rw [hH4] at s0
    clear hH4
    refine wp_region_held (S := fun v => Blk v g H4 60) (by kernel_rfl) ?_
    refine takeH (i := 0) (v := .agg Z19) _ rfl (by kernel_rfl) (by kernel_rfl) (by kernel_rfl) (fun _ _ _ h => h) (.inl ⟨by kernel_rfl, fun _ _ => by kernel_rfl⟩) s0 rfl ?_
    refine takeH (i := 1) (v := .pointer (some ⟨g, 22, none⟩)) _ rfl (by kernel_rfl) (by kernel_rfl) (by kernel_rfl) (fun _ _ _ h => h) (.inl ⟨by kernel_rfl, fun _ _ => by kernel_rfl⟩) s0 rfl ?_
    refine takeH (i := 2) (v := .int .i64 ((bd : Nat) : Int)) _ rfl (by kernel_rfl) (by kernel_rfl) (by kernel_rfl) (fun _ _ _ h => h) (.inl ⟨by kernel_rfl, fun v hv => by have c : v.cell? ⟨g, 22, none⟩ = some (.int .i64 ((bd : Nat) : Int)) := (Blk.cell hv 22).trans HH4.out; go_simp⟩) s0 rfl ?_
    refine wpAnyH_all (rs := [3]) (by kernel_rfl) (by simp) ?_
    intro i hi
    obtain rfl : i = 3 := by simpa using hi
    refine wpOp_store rfl (by kernel_rfl) 25 (.tmp 2) (.tmp 25) rfl w.heap.size 0 (.agg Z19) Z19 (by kernel_rfl) (by kernel_rfl) rfl (kz.there 19 rfl) (by exact Tryd.infoCart) HZ1.out _ rfl ?_
    intro W4 eW4
    have s1 : Blk W4 g H4 60 := by rw [eW4]; exact s0.otherCells (by omega) _ _
    have z4 : Blk W4 w.heap.size Z19 25 := by rw [eW4]; exact kz.setAll (L := Z19) rfl
    have hb4 : Below w.heap.size w W4 := by rw [eW4]; exact setCells_below (Nat.le_refl _) _ _ _ _ khb.drew
    refine ⟨s1, ?_⟩
    clear hi eW4 s0 kz khb
    refine takeH (i := 4) (v := .int .i64 12) _ rfl (by kernel_rfl) (by kernel_rfl) (by kernel_rfl) (fun _ _ _ h => h) (.inl ⟨by kernel_rfl, fun _ _ => by kernel_rfl⟩) s1 rfl ?_
    refine takeH (i := 5) (v := .int .i64 ((bd : Nat) : Int)) _ rfl (by kernel_rfl) (by kernel_rfl) (by kernel_rfl) (fun _ _ _ h => h) (.inl ⟨by kernel_rfl, fun _ _ => by kernel_rfl⟩) s1 rfl ?_
    refine wpAnyH_done (by kernel_rfl) ?_ _
    go_wp2
    refine ret_agg3 (m := w.heap.size) (L := Z19) (x := .int .i64 12) (y := .int .i64 ((bd : Nat) : Int)) Tryd.results9 (by rfl) (by rfl) (by rfl) z4 Tryd.underlying25 rfl (by exact Tryd.infoCart) ?_
    exact PaG.no HE.out (by decide) hb4
  subst hbd
  have HB0 : Hid (h.bad = 0) := HBD.out
  replace d22 : W3.cell? ⟨g, 22, none⟩ = some (.int .i64 0) := d22
  go_upto_region 7 with fail
  clear d22
  by_cases hp : h.prg = 0 ∨ 1048576 < h.prg
  · have HE : Hid (pz L = (13, 4)) := by unfold Hid; rw [HPZ.out]; unfold Hq.e; rw [if_neg (fun x => x HB0.out), if_pos hp]
    by_cases hq : pg ≤ 0
    · clear d19 d21
      go_wp2_with (refine wpList_store_mid rfl 25 _ _ rfl w.heap.size 0 Z19 rfl rfl (by exact K1.z.there _ rfl) (by exact Tryd.infoCart) HZ1.out ?_)
      refine ret_agg3 (m := w.heap.size) (L := Z19) (x := .int .i64 (13 : Int)) (y := .int .i64 (4 : Int)) Tryd.results9 (by rfl) (by rfl) (by rfl) (K1.z.setAll (L := Z19) rfl) Tryd.underlying25 rfl (by exact Tryd.infoCart) ?_
      exact PaG.no HE.out (by decide) (setCells_below (Nat.le_refl _) _ _ _ _ K1.hb)
    · have hq2 : 1048576 < pg := by rcases HGP.out with e | e <;> omega
      clear d19 d21
      go_wp2_with (refine wpList_store_mid rfl 25 _ _ rfl w.heap.size 0 Z19 rfl rfl (by exact K1.z.there _ rfl) (by exact Tryd.infoCart) HZ1.out ?_)
      refine ret_agg3 (m := w.heap.size) (L := Z19) (x := .int .i64 (13 : Int)) (y := .int .i64 (4 : Int)) Tryd.results9 (by rfl) (by rfl) (by rfl) (K1.z.setAll (L := Z19) rfl) Tryd.underlying25 rfl (by exact Tryd.infoCart) ?_
      exact PaG.no HE.out (by decide) (setCells_below (Nat.le_refl _) _ _ _ _ K1.hb)
  have HP0 : Hid (¬ (h.prg = 0 ∨ 1048576 < h.prg)) := hp
  obtain ⟨pp, hpp⟩ : ∃ pp, h.prg = pp := ⟨_, rfl⟩
  have HPP : Hid (h.prg = pp) := hpp
  have epg : pg = (pp : Int) := by rcases HGP.out with e | e <;> omega
  rw [hpp] at hp
  subst epg
  have hp1 : ¬ (pp : Int) ≤ 0 := by omega
  have hp2 : ¬ (1048576 : Int) < (pp : Int) := by omega
  clear hp hpp HGP
  go_upto_region 9 with fail
  by_cases hp : 524288 < h.chr
  · have HE : Hid (pz L = (14, 5)) := by unfold Hid; rw [HPZ.out]; unfold Hq.e; rw [if_neg (fun x => x HB0.out), if_neg HP0.out, if_pos hp]
    by_cases hq : ch < 0
    · clear d19 d20
      go_wp2_with (refine wpList_store_mid rfl 25 _ _ rfl w.heap.size 0 Z19 rfl rfl (by exact K1.z.there _ rfl) (by exact Tryd.infoCart) HZ1.out ?_)
      refine ret_agg3 (m := w.heap.size) (L := Z19) (x := .int .i64 (14 : Int)) (y := .int .i64 (5 : Int)) Tryd.results9 (by rfl) (by rfl) (by rfl) (K1.z.setAll (L := Z19) rfl) Tryd.underlying25 rfl (by exact Tryd.infoCart) ?_
      exact PaG.no HE.out (by decide) (setCells_below (Nat.le_refl _) _ _ _ _ K1.hb)
    · have hq2 : 524288 < ch := by rcases HGQ.out with e | e <;> omega
      clear d19 d20
      go_wp2_with (refine wpList_store_mid rfl 25 _ _ rfl w.heap.size 0 Z19 rfl rfl (by exact K1.z.there _ rfl) (by exact Tryd.infoCart) HZ1.out ?_)
      refine ret_agg3 (m := w.heap.size) (L := Z19) (x := .int .i64 (14 : Int)) (y := .int .i64 (5 : Int)) Tryd.results9 (by rfl) (by rfl) (by rfl) (K1.z.setAll (L := Z19) rfl) Tryd.underlying25 rfl (by exact Tryd.infoCart) ?_
      exact PaG.no HE.out (by decide) (setCells_below (Nat.le_refl _) _ _ _ _ K1.hb)
  have HQ0 : Hid (¬ 524288 < h.chr) := hp
  obtain ⟨qq, hqq⟩ : ∃ qq, h.chr = qq := ⟨_, rfl⟩
  have HQQ : Hid (h.chr = qq) := hqq
  have ech : ch = (qq : Int) := by rcases HGQ.out with e | e <;> omega
  rw [hqq] at hp
  subst ech
  have hq1 : ¬ (qq : Int) < 0 := by omega
  have hq2 : ¬ (524288 : Int) < (qq : Int) := by omega
  clear hqq HGQ
  obtain ⟨s1, hs1⟩ : ∃ s1, 16 + tr = s1 := ⟨_, rfl⟩
  obtain ⟨s2, hs2⟩ : ∃ s2, s1 + pp = s2 := ⟨_, rfl⟩
  obtain ⟨fi, hfi⟩ : ∃ fi, s2 + qq = fi := ⟨_, rfl⟩
  have x1 : (16 : Int) + (tr : Int) = (s1 : Int) := by omega
  have x2 : (s1 : Int) + (pp : Int) = (s2 : Int) := by omega
  have x3 : (s2 : Int) + (qq : Int) = (fi : Int) := by omega
  have lf1 : s1 ≤ 528 := by omega
  have lf2 : s2 ≤ 1049104 := by omega
  have lfi : fi ≤ 1573392 := by omega
  have HFI : Hid (h.fin = fi) := by unfold Hid; show 16 + h.tr + h.prg + h.chr = fi; rw [HTR.out, HPP.out, HQQ.out]; omega
  have HSS : Hid ((16 + tr = s1 ∧ s1 + pp = s2) ∧ s2 + qq = fi) := ⟨⟨hs1, hs2⟩, hfi⟩
  clear hs1 hs2 hfi hp
  go_upto_region 12 with fail
  by_cases hsh : n < fi
  · have HE : Hid (pz L = (11, n)) := by unfold Hid; rw [HPZ.out]; unfold Hq.e; rw [if_neg (fun x => x HB0.out), if_neg HP0.out, if_neg HQ0.out, HFI.out, if_pos hsh]
    have hs' : (n : Int) < (fi : Int) := by omega
    clear d19 d20 d21
    go_wp2_with (refine wpList_store_mid rfl 25 _ _ rfl w.heap.size 0 Z19 rfl rfl (by exact K1.z.there _ rfl) (by exact Tryd.infoCart) HZ1.out ?_)
    refine ret_agg3 (m := w.heap.size) (L := Z19) (x := .int .i64 (11 : Int)) (y := .int .i64 ((n : Nat) : Int)) Tryd.results9 (by rfl) (by rfl) (by rfl) (K1.z.setAll (L := Z19) rfl) Tryd.underlying25 rfl (by exact Tryd.infoCart) ?_
    exact PaG.no HE.out (by decide) (setCells_below (Nat.le_refl _) _ _ _ _ K1.hb)
  have hs' : ¬ (n : Int) < (fi : Int) := by omega
  obtain ⟨rr, hrr⟩ : ∃ rr, n - fi = rr := ⟨_, rfl⟩
  have x4 : (n : Int) - (fi : Int) = (rr : Int) := by omega
  have lrr : rr ≤ 2097152 := by omega
  have HRR : Hid (n - fi = rr ∧ fi + rr = n) := ⟨hrr, by omega⟩
  have HRT := rt_or h n (by rw [HFI.out]; omega) c HC.out
  rw [HFI.out, hrr] at HRT
  have HEE : Hid (pz L = if h.f = 2 ∧ h.b14 % 4 = 0 ∧ fi < n then (15, fi) else if rr < h.least then (11, n) else (0, 0)) := by unfold Hid; rw [HPZ.out]; unfold Hq.e; rw [if_neg (fun x => x HB0.out), if_neg HP0.out, if_neg HQ0.out, HFI.out, if_neg hsh, hrr]
  rw [← HEE.out] at HRT
  obtain ⟨re, hre⟩ : ∃ re, rtE c (rr : Int) = re := ⟨_, rfl⟩
  have HCN : Hid (IsC (cN c) c) := isN c (by rw [← HC.out]; exact ⟨⟨⟨rfl, rfl⟩, rfl⟩, rfl⟩)
  have RC : Hid (∀ W : World, Calls Tryd.prog 29 #[.agg (cN c).toList.toArray, .int .i64 (rr : Nat)] W fun e w' => e = .returned (.int .i64 re) ∧ Below W.heap.size W w') := fun W => by
    have := rrest_g (cN c) c HCN.out (rr : Int) W
    rw [hre] at this
    rw [Array.toArray_toList]
    exact this
  rw [hre] at HRT
  have HRE : Hid _ := HRT
  have r19 : Hid (W3.rangeAt g 0 (cN c).toList) := range19 HVB.out.1.1 HVB.out.1.2 HVB.out.2 K1.b
  have HL19 : Hid ((cN c).toList.length = 19) := rfl
  clear hrr hre hsh HRT HEE
  go_upto_region 14 with fail
  obtain ⟨CN, hCN⟩ : ∃ CN, cN c = CN := ⟨_, rfl⟩
  have HCNC : Hid (cN c = CN) := hCN
  have HCO : Hid (CN.all (·.oneCell') = true) := by rw [← hCN]; exact HCN.out.one
  rw [hCN] at r19 HL19 RC
  clear hCN
  go_wp2_with (refine wpList_load_mid rfl 25 _ rfl g 0 rfl CN.toList _ r19.out Tryd.underlying25 rfl (by rw [HL19.out]; exact Tryd.infoCart) ?_)
  refine (RC.out _).mono ?_
  rintro e W4 ⟨rfl, hb4⟩
  have K2 := K1.on hb4
  clear RC K1 hb4 r19 d19 d20 d21
  rcases HRE.out with ⟨e1, e2⟩ | ⟨e1, e2⟩ | ⟨e1, e2⟩
  · subst e1
    have HE : Hid (pz L = (11, n)) := e2
    clear e2 HRE
    go_wp2_with (refine wpList_store_mid rfl 25 _ _ rfl w.heap.size 0 Z19 rfl rfl (by exact K2.z.there _ rfl) (by exact Tryd.infoCart) HZ1.out ?_)
    refine ret_agg3 (m := w.heap.size) (L := Z19) (x := .int .i64 (11 : Int)) (y := .int .i64 ((n : Nat) : Int)) Tryd.results9 (by rfl) (by rfl) (by rfl) (K2.z.setAll (L := Z19) rfl) Tryd.underlying25 rfl (by exact Tryd.infoCart) ?_
    exact PaG.no HE.out (by decide) (setCells_below (Nat.le_refl _) _ _ _ _ K2.hb)
  · subst e1
    have HE : Hid (pz L = (15, fi)) := e2
    clear e2 HRE
    go_wp2_with (refine wpList_store_mid rfl 25 _ _ rfl w.heap.size 0 Z19 rfl rfl (by exact K2.z.there _ rfl) (by exact Tryd.infoCart) HZ1.out ?_)
    refine ret_agg3 (m := w.heap.size) (L := Z19) (x := .int .i64 (15 : Int)) (y := .int .i64 ((fi : Nat) : Int)) Tryd.results9 (by rfl) (by rfl) (by rfl) (K2.z.setAll (L := Z19) rfl) Tryd.underlying25 rfl (by exact Tryd.infoCart) ?_
    exact PaG.no HE.out (by decide) (setCells_below (Nat.le_refl _) _ _ _ _ K2.hb)
  subst e1
  have HE : Hid (pz L = (0, 0)) := e2
  clear e2 HRE
  have r19 : Hid (W4.rangeAt g 0 CN.toList) := by unfold Hid; rw [← HCNC.out]; exact range19 HVB.out.1.1 HVB.out.1.2 HVB.out.2 K2.b
  go_upto_region 19 with fail
  go_upto_region 20 with (first
    | refine wpList_load_mid rfl 25 _ rfl g 0 rfl CN.toList _ r19.out Tryd.underlying25 rfl (by rw [HL19.out]; exact Tryd.infoCart) ?_
    | refine wpList_store_mid rfl 25 _ _ rfl W4.heap.size 0 CN rfl rfl ((Blk.new W4 Z19 25).there _ (by rw [← Array.length_toList (xs := CN), HL19.out]; rfl)) (by rw [← Array.length_toList, HL19.out]; exact Tryd.infoCart) HCO.out ?_)
  have K3 : Rq w L (some ⟨b, off, none⟩) (hC c vt fo ba (tr : Nat) (pp : Nat) (qq : Nat) ((0 : Nat) : Int)) g W4.heap.size CN ((W4.alloc (.cells Z19 25)).setCells W4.heap.size 0 CN.toList) := by
    have hb : Below W4.heap.size W4 ((W4.alloc (.cells Z19 25)).setCells W4.heap.size 0 CN.toList) := setCells_below (Nat.le_refl _) _ _ _ _ ((Below.refl _ _).alloc (Nat.le_refl _) _)
    exact ⟨K2.on hb, (Blk.new W4 Z19 25).setAll (L := CN) (by rw [← Array.length_toList (xs := CN), HL19.out]; rfl), K2.b.lt⟩
  clear K2 r19
  generalize (W4.alloc (.cells Z19 25)).setCells W4.heap.size 0 CN.toList = W5 at *
  generalize W4.heap.size = gc at *
  rw [← HCNC.out] at K3
  have K3 : Rq w L (some ⟨b, off, none⟩) (hC c vt fo ba (tr : Nat) (pp : Nat) (qq : Nat) ((0 : Nat) : Int)) g gc (#[.int .i64 c.fmt, .int .i64 c.map, .int .i64 c.sub, .bool c.vert, .bool c.four, .bool c.bat, .int .i64 c.con, .int .i64 c.kind, .int .i64 c.tim, .int .i64 c.dev, .int .i64 c.misc, .int .i64 c.pr, .int .i64 c.pn, .int .i64 c.cr, .int .i64 c.cn, .slice none 0 0, .slice none 0 0, .slice none 0 0, .slice none 0 0]) W5 := K3
  clear HCNC HCO HL19
  have PC1 : Hid (∀ W : World, Row W (some ⟨b, off, none⟩) L → Calls _ _ _ _ _) := fun W r => piece_r L (some ⟨b, off, none⟩) n k 16 tr HIL.out hn (by have := HSS.out; have := HRR.out; omega) W r
  have PC2 : Hid (∀ W : World, Row W (some ⟨b, off, none⟩) L → Calls _ _ _ _ _) := fun W r => piece_r L (some ⟨b, off, none⟩) n k s1 pp HIL.out hn (by have := HSS.out; have := HRR.out; omega) W r
  have PC3 : Hid (∀ W : World, Row W (some ⟨b, off, none⟩) L → Calls _ _ _ _ _) := fun W r => piece_r L (some ⟨b, off, none⟩) n k s2 qq HIL.out hn (by have := HSS.out; have := HRR.out; omega) W r
  have PC4 : Hid (∀ W : World, Row W (some ⟨b, off, none⟩) L → Calls _ _ _ _ _) := fun W r => piece_r L (some ⟨b, off, none⟩) n k fi rr HIL.out hn (by have := HRR.out; omega) W r
  have d19 := (K3.k.b.cell 19).trans (show _ = some (.int .i64 ((tr : Nat) : Int)) from rfl)
  have d20 := (K3.k.b.cell 20).trans (show _ = some (.int .i64 ((pp : Nat) : Int)) from rfl)
  have d21 := (K3.k.b.cell 21).trans (show _ = some (.int .i64 ((qq : Nat) : Int)) from rfl)
  have PX : Hid (Calls _ _ _ _ _) := PC1.out W5 K3.k.r
  have lgc := K3.c.lt
  clear PC1
  go_wp2_with fail
  refine PX.out.mono ?_
  rintro e V1 ⟨aT, kT, rfl, gT, hb5⟩
  have K4 := K3.on hb5
  have GT := gT.mono (B' := gc + 1) (by omega)
  clear PX K3 d19 d20 d21 lgc gT hb5 
  have dh := (K4.c.cell 15).trans (show _ = some (.slice none 0 0) from rfl)
  have fh := K4.c.free 15
  go_upto_region 21 with fail
  have K5 : Rq w L (some ⟨b, off, none⟩) (hC c vt fo ba (tr : Nat) (pp : Nat) (qq : Nat) ((0 : Nat) : Int)) g gc #[.int .i64 c.fmt, .int .i64 c.map, .int .i64 c.sub, .bool c.vert, .bool c.four, .bool c.bat, .int .i64 c.con, .int .i64 c.kind, .int .i64 c.tim, .int .i64 c.dev, .int .i64 c.misc, .int .i64 c.pr, .int .i64 c.pn, .int .i64 c.cr, .int .i64 c.cn, .slice aT tr kT, .slice none 0 0, .slice none 0 0, .slice none 0 0] (V1.setCell ⟨gc, 15, none⟩ (.slice aT tr kT)) := K4.put HRW.out 15 (.slice aT tr kT) rfl
  have FT := GT.put (m := gc) (by omega) 15 (.slice aT tr kT)
  clear K4 dh fh GT
  generalize V1.setCell ⟨gc, 15, none⟩ (.slice aT tr kT) = X1 at *
  have d19 := (K5.k.b.cell 19).trans (show _ = some (.int .i64 ((tr : Nat) : Int)) from rfl)
  have d20 := (K5.k.b.cell 20).trans (show _ = some (.int .i64 ((pp : Nat) : Int)) from rfl)
  have d21 := (K5.k.b.cell 21).trans (show _ = some (.int .i64 ((qq : Nat) : Int)) from rfl)
  have PX : Hid (Calls _ _ _ _ _) := PC2.out X1 K5.k.r
  have lgc := K5.c.lt
  clear PC2
  go_wp2_with fail
  refine PX.out.mono ?_
  rintro e V2 ⟨aP, kP, rfl, gP, hb5⟩
  have K6 := K5.on hb5
  have GT := FT.below hb5
  have GP := gP.mono (B' := gc + 1) (by omega)
  clear PX K5 d19 d20 d21 lgc gP hb5 FT
  have dh := (K6.c.cell 16).trans (show _ = some (.slice none 0 0) from rfl)
  have fh := K6.c.free 16
  go_upto_region 22 with fail
  have K7 : Rq w L (some ⟨b, off, none⟩) (hC c vt fo ba (tr : Nat) (pp : Nat) (qq : Nat) ((0 : Nat) : Int)) g gc #[.int .i64 c.fmt, .int .i64 c.map, .int .i64 c.sub, .bool c.vert, .bool c.four, .bool c.bat, .int .i64 c.con, .int .i64 c.kind, .int .i64 c.tim, .int .i64 c.dev, .int .i64 c.misc, .int .i64 c.pr, .int .i64 c.pn, .int .i64 c.cr, .int .i64 c.cn, .slice aT tr kT, .slice aP pp kP, .slice none 0 0, .slice none 0 0] (V2.setCell ⟨gc, 16, none⟩ (.slice aP pp kP)) := K6.put HRW.out 16 (.slice aP pp kP) rfl
  have FT := GT.put (m := gc) (by omega) 16 (.slice aP pp kP)
  have FP := GP.put (m := gc) (by omega) 16 (.slice aP pp kP)
  clear K6 dh fh GT GP
  generalize V2.setCell ⟨gc, 16, none⟩ (.slice aP pp kP) = X2 at *
  have d19 := (K7.k.b.cell 19).trans (show _ = some (.int .i64 ((tr : Nat) : Int)) from rfl)
  have d20 := (K7.k.b.cell 20).trans (show _ = some (.int .i64 ((pp : Nat) : Int)) from rfl)
  have d21 := (K7.k.b.cell 21).trans (show _ = some (.int .i64 ((qq : Nat) : Int)) from rfl)
  have PX : Hid (Calls _ _ _ _ _) := PC3.out X2 K7.k.r
  have lgc := K7.c.lt
  clear PC3
  go_wp2_with fail
  refine PX.out.mono ?_
  rintro e V3 ⟨aQ, kQ, rfl, gQ, hb5⟩
  have K8 := K7.on hb5
  have GT := FT.below hb5
  have GP := FP.below hb5
  have GQ := gQ.mono (B' := gc + 1) (by omega)
  clear PX K7 d19 d20 d21 lgc gQ hb5 FT FP
  have dh := (K8.c.cell 17).trans (show _ = some (.slice none 0 0) from rfl)
  have fh := K8.c.free 17
  go_upto_region 23 with fail
  have K9 : Rq w L (some ⟨b, off, none⟩) (hC c vt fo ba (tr : Nat) (pp : Nat) (qq : Nat) ((0 : Nat) : Int)) g gc #[.int .i64 c.fmt, .int .i64 c.map, .int .i64 c.sub, .bool c.vert, .bool c.four, .bool c.bat, .int .i64 c.con, .int .i64 c.kind, .int .i64 c.tim, .int .i64 c.dev, .int .i64 c.misc, .int .i64 c.pr, .int .i64 c.pn, .int .i64 c.cr, .int .i64 c.cn, .slice aT tr kT, .slice aP pp kP, .slice aQ qq kQ, .slice none 0 0] (V3.setCell ⟨gc, 17, none⟩ (.slice aQ qq kQ)) := K8.put HRW.out 17 (.slice aQ qq kQ) rfl
  have FT := GT.put (m := gc) (by omega) 17 (.slice aQ qq kQ)
  have FP := GP.put (m := gc) (by omega) 17 (.slice aQ qq kQ)
  have FQ := GQ.put (m := gc) (by omega) 17 (.slice aQ qq kQ)
  clear K8 dh fh GT GP GQ
  generalize V3.setCell ⟨gc, 17, none⟩ (.slice aQ qq kQ) = X3 at *
  have d19 := (K9.k.b.cell 19).trans (show _ = some (.int .i64 ((tr : Nat) : Int)) from rfl)
  have d20 := (K9.k.b.cell 20).trans (show _ = some (.int .i64 ((pp : Nat) : Int)) from rfl)
  have d21 := (K9.k.b.cell 21).trans (show _ = some (.int .i64 ((qq : Nat) : Int)) from rfl)
  have PX : Hid (Calls _ _ _ _ _) := PC4.out X3 K9.k.r
  have lgc := K9.c.lt
  clear PC4
  go_wp2_with fail
  refine PX.out.mono ?_
  rintro e V4 ⟨aR, kR, rfl, gR, hb5⟩
  have K10 := K9.on hb5
  have GT := FT.below hb5
  have GP := FP.below hb5
  have GQ := FQ.below hb5
  have GR := gR.mono (B' := gc + 1) (by omega)
  clear PX K9 d19 d20 d21 lgc gR hb5 FT FP FQ
  have dh := (K10.c.cell 18).trans (show _ = some (.slice none 0 0) from rfl)
  have fh := K10.c.free 18
  go_upto_region 24 with fail
  have K11 : Rq w L (some ⟨b, off, none⟩) (hC c vt fo ba (tr : Nat) (pp : Nat) (qq : Nat) ((0 : Nat) : Int)) g gc #[.int .i64 c.fmt, .int .i64 c.map, .int .i64 c.sub, .bool c.vert, .bool c.four, .bool c.bat, .int .i64 c.con, .int .i64 c.kind, .int .i64 c.tim, .int .i64 c.dev, .int .i64 c.misc, .int .i64 c.pr, .int .i64 c.pn, .int .i64 c.cr, .int .i64 c.cn, .slice aT tr kT, .slice aP pp kP, .slice aQ qq kQ, .slice aR rr kR] (V4.setCell ⟨gc, 18, none⟩ (.slice aR rr kR)) := K10.put HRW.out 18 (.slice aR rr kR) rfl
  have FT := GT.put (m := gc) (by omega) 18 (.slice aR rr kR)
  have FP := GP.put (m := gc) (by omega) 18 (.slice aR rr kR)
  have FQ := GQ.put (m := gc) (by omega) 18 (.slice aR rr kR)
  have FR := GR.put (m := gc) (by omega) 18 (.slice aR rr kR)
  clear K10 dh fh GT GP GQ GR
  generalize V4.setCell ⟨gc, 18, none⟩ (.slice aR rr kR) = X4 at *
  have HPG : Hid (∀ w', Below w.heap.size w w' → (RowF (gc + 1) w' aT ((L.drop 16).take tr) ∧ RowF (gc + 1) w' aP ((L.drop s1).take pp)) ∧ (RowF (gc + 1) w' aQ ((L.drop s2).take qq) ∧ RowF (gc + 1) w' aR ((L.drop fi).take rr)) → PaG L w (.returned (.tuple #[.agg #[.int .i64 c.fmt, .int .i64 c.map, .int .i64 c.sub, .bool c.vert, .bool c.four, .bool c.bat, .int .i64 c.con, .int .i64 c.kind, .int .i64 c.tim, .int .i64 c.dev, .int .i64 c.misc, .int .i64 c.pr, .int .i64 c.pn, .int .i64 c.cr, .int .i64 c.cn, .slice aT tr kT, .slice aP pp kP, .slice aQ qq kQ, .slice aR rr kR], .int .i64 0, .int .i64 0])) w') := fun w' hbx ⟨⟨rt, rp⟩, rq, rr'⟩ => by
    have h0 : (pz L).1 = 0 := by rw [HE.out]
    have hln := p_lens L
    have e1 : pC L = { c with nt := tr, np := pp, nq := qq, nr := rr } := by
      unfold pC; rw [if_pos h0, HH.out, HTR.out, HPP.out, HQQ.out, HIL.out, HFI.out, HRR.out.1, ← HC.out]; rfl
    have e2 : pT L = (L.drop 16).take tr := by unfold pT; rw [if_pos h0, HH.out, HTR.out]
    have e3 : pP L = (L.drop s1).take pp := by unfold pP; rw [if_pos h0, HH.out, HTR.out, HPP.out, HSS.out.1.1]
    have e4 : pQ L = (L.drop s2).take qq := by unfold pQ; rw [if_pos h0, HH.out, HTR.out, HPP.out, HQQ.out, HSS.out.1.1, HSS.out.1.2]
    have e5 : pR L = (L.drop fi).take rr := by unfold pR; rw [if_pos h0, HH.out, HFI.out, HIL.out, HRR.out.1]
    rw [e1, e2, e3, e4, e5] at hln
    refine ⟨#[.int .i64 c.fmt, .int .i64 c.map, .int .i64 c.sub, .bool c.vert, .bool c.four, .bool c.bat, .int .i64 c.con, .int .i64 c.kind, .int .i64 c.tim, .int .i64 c.dev, .int .i64 c.misc, .int .i64 c.pr, .int .i64 c.pn, .int .i64 c.cr, .int .i64 c.cn, .slice aT tr kT, .slice aP pp kP, .slice aQ qq kQ, .slice aR rr kR], by rw [HE.out]; rfl, ?_, hbx⟩
    rw [e1, e2, e3, e4, e5]
    have b1 : tr ≤ 140737488351232 := by omega
    have b2 : pp ≤ 140737488351232 := by omega
    have b3 : qq ≤ 140737488351232 := by omega
    have b4 : rr ≤ 140737488351232 := by omega
    exact ⟨⟨rfl, by simp [Value.oneCell'], rfl, rfl, rfl, rfl, rfl, rfl, rfl, rfl, rfl, rfl, rfl, rfl, rfl, rfl, rfl, ⟨aT, kT, rfl⟩, ⟨aP, kP, rfl⟩, ⟨aQ, kQ, rfl⟩, ⟨aR, kR, rfl⟩, b1, b2, b3, b4⟩, hln.1, hln.2.1, hln.2.2.1, hln.2.2.2,
      ⟨aT, kT, rfl, rt.row⟩, ⟨aP, kP, rfl, rp.row⟩, ⟨aQ, kQ, rfl, rq.row⟩, ⟨aR, kR, rfl, rr'.row⟩⟩
  have HXO : Hid ((#[.int .i64 c.fmt, .int .i64 c.map, .int .i64 c.sub, .bool c.vert, .bool c.four, .bool c.bat, .int .i64 c.con, .int .i64 c.kind, .int .i64 c.tim, .int .i64 c.dev, .int .i64 c.misc, .int .i64 c.pr, .int .i64 c.pn, .int .i64 c.cr, .int .i64 c.cn, .slice aT tr kT, .slice aP pp kP, .slice aQ qq kQ, .slice aR rr kR] : Array Value).size = 19 ∧ (#[.int .i64 c.fmt, .int .i64 c.map, .int .i64 c.sub, .bool c.vert, .bool c.four, .bool c.bat, .int .i64 c.con, .int .i64 c.kind, .int .i64 c.tim, .int .i64 c.dev, .int .i64 c.misc, .int .i64 c.pr, .int .i64 c.pn, .int .i64 c.cr, .int .i64 c.cn, .slice aT tr kT, .slice aP pp kP, .slice aQ qq kQ, .slice aR rr kR] : Array Value).all (·.oneCell') = true) := ⟨rfl, by simp [Value.oneCell']⟩
  have bc := K11.c
  have bz := K11.k.z
  have hbk := K11.k.hb
  have hwg : w.heap.size < gc + 1 := by have := K11.k.hg; have := K11.o; omega
  clear K11
  generalize (#[.int .i64 c.fmt, .int .i64 c.map, .int .i64 c.sub, .bool c.vert, .bool c.four, .bool c.bat, .int .i64 c.con, .int .i64 c.kind, .int .i64 c.tim, .int .i64 c.dev, .int .i64 c.misc, .int .i64 c.pr, .int .i64 c.pn, .int .i64 c.cr, .int .i64 c.cn, .slice aT tr kT, .slice aP pp kP, .slice aQ qq kQ, .slice aR rr kR] : Array Value) = xs at *
  go_wp2_with (first
    | refine wpList_load_mid rfl 25 _ rfl gc 0 rfl xs.toList _ bc.range Tryd.underlying25 rfl (by rw [Array.length_toList, HXO.out.1]; exact Tryd.infoCart) ?_
    | refine wpList_store_mid rfl 25 _ _ rfl w.heap.size 0 xs rfl rfl (by exact bz.there _ HXO.out.1.symm) (by rw [HXO.out.1]; exact Tryd.infoCart) HXO.out.2 ?_)
  refine ret_agg3 (m := w.heap.size) (L := xs) (x := .int .i64 0) (y := .int .i64 0) Tryd.results9 (by rfl) (by rfl) (by rfl) (bz.setAll (L := xs) (by rw [HXO.out.1]; rfl)) Tryd.underlying25 rfl (by rw [HXO.out.1]; exact Tryd.infoCart) ?_
  exact HPG.out _ (setCells_below (Nat.le_refl _) _ _ _ _ hbk) ⟨⟨RowF.puts hwg _ _ FT, RowF.puts hwg _ _ FP⟩, RowF.puts hwg _ _ FQ, RowF.puts hwg _ _ FR⟩
theorem rparse_g (L : List Nat) (hB : Bytes L) (a : Option Addr) (n k : Nat) (w : World) (hI : L.length = n) (hlen : n ≤ 140737488355328) (hr : Row w a L) (M : MgW w) :
    Calls Tryd.prog 9 #[.slice a n k] w (PaG L w) := by
  by_cases hz : (fz L).1 = 0
  · rcases hr with e | ⟨b, off, e, hc⟩
    · subst e
      exact absurd hz (by decide)
    · subst e
      exact rparse_on L hB b off n k w hI (.inr ⟨b, off, rfl, hc⟩) M hz
  · exact rparse_ahead L a n k w hI hlen hr M hz
end Go.Proofs.YtilhlbnicmmaoaaDoor
