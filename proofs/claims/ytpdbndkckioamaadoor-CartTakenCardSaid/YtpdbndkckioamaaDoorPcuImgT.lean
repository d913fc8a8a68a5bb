/-
  What image answers: an image that must be taken, and its trainer; conditions: the numbers are ints.
-/
import Derived.Test.YtpdbndkckioamaaDoorPcuW
import Derived.Deep.CutBlock
set_option linter.unusedSimpArgs false
set_option linter.unusedVariables false
namespace Go.Proofs.YtpdbndkckioamaaDoor
open Go.RowKit
/-- What image is to answer, with the trainer's length. -/
def ImOkT (w : World) (t : Nat) (e : Ending) (w' : World) : Prop := ∃ (L : List Nat) (a : Option Addr) (n k fin : Nat), e = .returned (.tuple #[.slice a n k, .int .i64 (fin : Nat)]) ∧ L.length = n ∧ Im L fin ∧ RowF w.heap.size w' a L ∧ n ≤ k ∧ Below w.heap.size w w' ∧ (hdOf L).tr = t
set_option maxRecDepth 100000 in
set_option maxHeartbeats 6400000 in
theorem image_t (hs : Array Value) (f : Int) (bl : List Nat) (p q : Int) (tr : Bool) (r fl : Int) (w : World) (HH0 : IsH hs f bl p q tr r fl)
    (hf : -9223372036854775808 ≤ f ∧ f  ≤ 9223372036854775807) (hp : -9223372036854775808 ≤ p ∧ p  ≤ 9223372036854775807) (hq : -9223372036854775808 ≤ q ∧ q  ≤ 9223372036854775807) (hr : -9223372036854775808 ≤ r ∧ r  ≤ 9223372036854775807) (hfl : -9223372036854775808 ≤ fl ∧ fl  ≤ 9223372036854775807) :
    Calls Tryd.prog 12 #[.agg hs] w (ImOkT w (if tr then 512 else 0)) := by
  obtain ⟨tt, htt⟩ : ∃ tt : Nat, (if tr then 512 else 0) = tt := ⟨_, rfl⟩
  have HTT : Hid ((if tr then 512 else 0) = tt) := htt
  rw [htt]
  clear htt
  have HH : Hid (IsH hs f bl p q tr r fl) := HH0
  have HNB : Hid (((-9223372036854775808 ≤ f ∧ f  ≤ 9223372036854775807) ∧ (-9223372036854775808 ≤ p ∧ p  ≤ 9223372036854775807)) ∧ ((-9223372036854775808 ≤ q ∧ q  ≤ 9223372036854775807) ∧ (-9223372036854775808 ≤ r ∧ r  ≤ 9223372036854775807))) := ⟨⟨hf, hp⟩, hq, hr⟩
  have hsz := HH0.size
  obtain ⟨i0, hi, hz0, hz1, hz2⟩ := info_parts Tryd.infoU8
  clear HH0 hf hp hq hr hfl
  go_enter Tryd.func12, Tryd.ntmps12
  go_upto_region 1 with fail
  have b0 : Blk (w.alloc (.cells hs 34)) w.heap.size hs 34 := Blk.new w hs _
  have hb0 : Below w.heap.size w (w.alloc (.cells hs 34)) := (Below.refl _ _).alloc (Nat.le_refl _) _
  have hsW : Hid ((w.alloc (.cells hs 34)).heap.size = w.heap.size + 1) := World.size_alloc _ _
  generalize w.alloc (.cells hs 34) = W0 at *
  clear hsz
  go_wp2_with (at_make; refine wpList_make_full _ rfl _ _ 22 rfl W0.heap.size 5 i0 (.int .u8 0) 1 Tryd.underlying22 hi hz0 hz1 .i64 .i64 _ _ 16 rfl rfl rfl rfl (by rw [hz2]; omega) (by unfold maxLen; omega) (Nat.le_refl _) ?_; intro w1 hown hgrow)
  have ho := Own.of_row (List.replicate 16 0) (vals_zero _) hown
  have hbg := (Below.refl W0.heap.size W0).grown hgrow (Nat.le_refl _) (by simp)
  have b1 := b0.below b0.lt hbg
  have hb1 := hb0.trans (hbg.mono hb0.size)
  have hgg : w.heap.size < W0.heap.size := by have := hsW.out; omega
  clear hown hgrow hi hz0 hz1 hz2 b0 hb0 hbg hsW
  generalize W0.heap.size = g at *
  go_loopw [5] (fun z wr => ∃ i : Nat, i ≤ 16 ∧ z = .int .i64 i ∧ Own wr g (bl.take i ++ List.replicate (bl.length - i) 0) ∧ Blk wr w.heap.size hs 34 ∧ Below w.heap.size w wr) (fun z _ => 16 - (intOf z).toNat)
  case atStart => exact ⟨0, Nat.zero_le _, rfl, by rw [HH.out.len]; simpa using ho, b1, hb1⟩
  case round =>
    clear ho b1 hb1
    obtain ⟨i, hi16, rfl, ho, b1, hb1⟩ := hrel
    by_cases h16 : i < 16
    · have hfr := ho.free i
      have hold := ho.cell i (by rw [List.length_append, List.length_take, List.length_replicate, HH.out.len]; omega)
      have hset := ho.set i (bl.getD i 0)
      rw [copy_step bl i (by rw [HH.out.len]; exact h16)] at hset
      have hsrc : wr.cell? ⟨w.heap.size, 1 + i, none⟩ = some (.int .u8 (bl.getD i 0 : Nat)) := (b1.cell (1 + i)).trans (HH.out.hb i h16)
      have hbs := hb1.setCell (p := ⟨g, i, none⟩) (by show w.heap.size ≤ g; omega) (.int .u8 (bl.getD i 0 : Nat))
      have b2 := b1.other (m := g) (by omega) i (.int .u8 (bl.getD i 0 : Nat))
      clear ho b1 hb1
      generalize bl.getD i 0 = v at *
      generalize (bl.take i ++ List.replicate (bl.length - i) 0).getD i 0 = vo at *
      have h16a : (i : Int) < 16 := by omega
      have h16b : (0 : Int) ≤ (i : Int) := by omega
      go_wp2
      go_roundw
      case rel => exact ⟨i + 1, by omega, by go_num, hset, b2, hbs⟩
      case measure => simp [intOf]; omega
    · obtain rfl : i = 16 := by omega
      have e : bl.take 16 ++ List.replicate (bl.length - 16) 0 = bl := by rw [HH.out.len, List.take_of_length_le (by rw [HH.out.len]; exact Nat.le_refl _)]; simp
      rw [e] at ho
      clear h16 hi16 e
      generalize wr = W1 at *
      obtain ⟨x0, x1, x2, x3, x4, x5, x6, x7, x8, x9, x10, x11, x12, x13, x14, x15, hbl⟩ := list16 bl HH.out.len
      have HBY : Hid (Bytes bl) := HH.out.bys
      have K0 : Ig w hs g ⟨x0, x1, x2, x3, x4, x5, x6, x7, x8, x9, x10, x11, x12, x13, x14, x15⟩ W1 := ⟨b1, by rw [hbl] at ho; exact ho, hgg, hb1⟩
      have HX : Hid (x0 < 256 ∧ x1 < 256 ∧ x2 < 256 ∧ x3 < 256 ∧ x4 < 256 ∧ x5 < 256 ∧ x6 < 256 ∧ x7 < 256 ∧ x8 < 256 ∧ x9 < 256 ∧ x10 < 256 ∧ x11 < 256 ∧ x12 < 256 ∧ x13 < 256 ∧ x14 < 256 ∧ x15 < 256) := by
        have hB := HBY.out
        rw [hbl] at hB
        exact ⟨hB x0 (by simp), hB x1 (by simp), hB x2 (by simp), hB x3 (by simp), hB x4 (by simp), hB x5 (by simp), hB x6 (by simp), hB x7 (by simp), hB x8 (by simp), hB x9 (by simp), hB x10 (by simp), hB x11 (by simp), hB x12 (by simp), hB x13 (by simp), hB x14 (by simp), hB x15 (by simp)⟩
      clear ho b1 hb1 hbl HBY
      have c0 : W1.cell? ⟨g, 0, none⟩ = some (.int .u8 ((x0 : Nat) : Int)) := K0.at 0 (by decide)
      have f0 := K0.o.free 0
      have c1 : W1.cell? ⟨g, 1, none⟩ = some (.int .u8 ((x1 : Nat) : Int)) := K0.at 1 (by decide)
      have f1 := K0.o.free 1
      have c2 : W1.cell? ⟨g, 2, none⟩ = some (.int .u8 ((x2 : Nat) : Int)) := K0.at 2 (by decide)
      have f2 := K0.o.free 2
      have c3 : W1.cell? ⟨g, 3, none⟩ = some (.int .u8 ((x3 : Nat) : Int)) := K0.at 3 (by decide)
      have f3 := K0.o.free 3
      go_upto_region 7 with fail
      have K1 : Ig w hs g ⟨78, x1, x2, x3, x4, x5, x6, x7, x8, x9, x10, x11, x12, x13, x14, x15⟩ (W1.setCell ⟨g, 0, none⟩ (.int .u8 ((78 : Nat) : Int))) := K0.set 0 78 rfl
      have K2 : Ig w hs g ⟨78, 69, x2, x3, x4, x5, x6, x7, x8, x9, x10, x11, x12, x13, x14, x15⟩ ((W1.setCell ⟨g, 0, none⟩ (.int .u8 ((78 : Nat) : Int))).setCell ⟨g, 1, none⟩ (.int .u8 ((69 : Nat) : Int))) := K1.set 1 69 rfl
      have K3 : Ig w hs g ⟨78, 69, 83, x3, x4, x5, x6, x7, x8, x9, x10, x11, x12, x13, x14, x15⟩ (((W1.setCell ⟨g, 0, none⟩ (.int .u8 ((78 : Nat) : Int))).setCell ⟨g, 1, none⟩ (.int .u8 ((69 : Nat) : Int))).setCell ⟨g, 2, none⟩ (.int .u8 ((83 : Nat) : Int))) := K2.set 2 83 rfl
      have K4 : Ig w hs g ⟨78, 69, 83, 26, x4, x5, x6, x7, x8, x9, x10, x11, x12, x13, x14, x15⟩ ((((W1.setCell ⟨g, 0, none⟩ (.int .u8 ((78 : Nat) : Int))).setCell ⟨g, 1, none⟩ (.int .u8 ((69 : Nat) : Int))).setCell ⟨g, 2, none⟩ (.int .u8 ((83 : Nat) : Int))).setCell ⟨g, 3, none⟩ (.int .u8 ((26 : Nat) : Int))) := K3.set 3 26 rfl
      have KK := K4
      clear K0 K1 K2 K3 K4 c0 c1 c2 c3 f0 f1 f2 f3
      generalize ((((W1.setCell ⟨g, 0, none⟩ (.int .u8 ((78 : Nat) : Int))).setCell ⟨g, 1, none⟩ (.int .u8 ((69 : Nat) : Int))).setCell ⟨g, 2, none⟩ (.int .u8 ((83 : Nat) : Int))).setCell ⟨g, 3, none⟩ (.int .u8 ((26 : Nat) : Int))) = Y4 at *
      have K4 := KK
      clear KK
      have d := (K4.b.cell 17).trans HH.out.h17
      go_wp2_with fail
      have hspp := spanV_bd p 1 3 (by omega)
      refine (span_any p 1 3 Y4 HNB.out.1.2.1 HNB.out.1.2.2 (by omega) (by omega) (by omega)).mono ?_
      rintro e Y4 ⟨rfl, rfl⟩
      generalize spanV p 1 3 = spp at *
      obtain ⟨pp, rfl⟩ := Int.eq_ofNat_of_zero_le (show 0 ≤ spp by omega)
      have lpp : 1 ≤ pp ∧ pp ≤ 3 := by omega
      clear d hspp
      go_upto_region 8 with fail
      have d := (K4.b.cell 18).trans HH.out.h18
      go_wp2_with fail
      have hsqq := spanV_bd q 0 3 (by omega)
      refine (span_any q 0 3 Y4 HNB.out.2.1.1 HNB.out.2.1.2 (by omega) (by omega) (by omega)).mono ?_
      rintro e Y4 ⟨rfl, rfl⟩
      generalize spanV q 0 3 = sqq at *
      obtain ⟨qq, rfl⟩ := Int.eq_ofNat_of_zero_le (show 0 ≤ sqq by omega)
      have lqq : 0 ≤ qq ∧ qq ≤ 3 := by omega
      clear d hsqq
      go_upto_region 9 with fail
      have c4 : Y4.cell? ⟨g, 4, none⟩ = some (.int .u8 ((x4 : Nat) : Int)) := K4.at 4 (by decide)
      have f4 := K4.o.free 4
      have e4 : ((pp : Nat) : Int) % 256 = ((pp : Nat) : Int) := by omega
      go_upto_region 10 with fail
      have K5 : Ig w hs g ⟨78, 69, 83, 26, pp, x5, x6, x7, x8, x9, x10, x11, x12, x13, x14, x15⟩ (Y4.setCell ⟨g, 4, none⟩ (.int .u8 ((pp : Nat) : Int))) := K4.set 4 pp rfl
      clear K4 c4 f4 e4
      generalize Y4.setCell ⟨g, 4, none⟩ (.int .u8 ((pp : Nat) : Int)) = Y5 at *
      have c5 : Y5.cell? ⟨g, 5, none⟩ = some (.int .u8 ((x5 : Nat) : Int)) := K5.at 5 (by decide)
      have f5 := K5.o.free 5
      have e5 : ((qq : Nat) : Int) % 256 = ((qq : Nat) : Int) := by omega
      go_upto_region 11 with fail
      have K6 : Ig w hs g ⟨78, 69, 83, 26, pp, qq, x6, x7, x8, x9, x10, x11, x12, x13, x14, x15⟩ (Y5.setCell ⟨g, 5, none⟩ (.int .u8 ((qq : Nat) : Int))) := K5.set 5 qq rfl
      clear K5 c5 f5 e5
      generalize Y5.setCell ⟨g, 5, none⟩ (.int .u8 ((qq : Nat) : Int)) = Y6 at *
      obtain ⟨v6, e6, l6, t6⟩ := an4 x6 HX.out.2.2.2.2.2.2.1
      have H6 : Hid (v6 < 256 ∧ v6 / 4 % 2 = 0) := ⟨l6, t6⟩
      clear l6 t6
      have c6 : Y6.cell? ⟨g, 6, none⟩ = some (.int .u8 ((x6 : Nat) : Int)) := K6.at 6 (by decide)
      have f6 := K6.o.free 6
      go_upto_region 12 with fail
      have K7 : Ig w hs g ⟨78, 69, 83, 26, pp, qq, v6, x7, x8, x9, x10, x11, x12, x13, x14, x15⟩ (Y6.setCell ⟨g, 6, none⟩ (.int .u8 ((v6 : Nat) : Int))) := K6.set 6 v6 rfl
      clear K6 c6 f6 e6
      generalize Y6.setCell ⟨g, 6, none⟩ (.int .u8 ((v6 : Nat) : Int)) = Y7 at *
      have d := (K7.b.cell 20).trans HH.out.h20
      go_wp2_with fail
      have hsrr := spanV_bd r 0 40 (by omega)
      refine (span_any r 0 40 Y7 HNB.out.2.2.1 HNB.out.2.2.2 (by omega) (by omega) (by omega)).mono ?_
      rintro e Y7 ⟨rfl, rfl⟩
      generalize spanV r 0 40 = srr at *
      obtain ⟨rr, rfl⟩ := Int.eq_ofNat_of_zero_le (show 0 ≤ srr by omega)
      have lrr : 0 ≤ rr ∧ rr ≤ 40 := by omega
      clear d hsrr
      go_upto_region 13 with fail
      have d := (K7.b.cell 0).trans HH.out.h0
      go_wp2_with fail
      have hsff := spanV_bd f 0 2 (by omega)
      refine (span_any f 0 2 Y7 HNB.out.1.1.1 HNB.out.1.1.2 (by omega) (by omega) (by omega)).mono ?_
      rintro e Y7 ⟨rfl, rfl⟩
      generalize spanV f 0 2 = sff at *
      obtain ⟨ff, rfl⟩ := Int.eq_ofNat_of_zero_le (show 0 ≤ sff by omega)
      have lff : 0 ≤ ff ∧ ff ≤ 2 := by omega
      clear d hsff
      have HPQ : Hid (((1 ≤ pp ∧ pp ≤ 3) ∧ (0 ≤ qq ∧ qq ≤ 3)) ∧ (0 ≤ rr ∧ rr ≤ 40)) := ⟨⟨lpp, lqq⟩, lrr⟩
      clear lpp lqq lrr
      have HX6 : Hid (pp < 256 ∧ qq < 256) := by have := HPQ.out; exact ⟨by omega, by omega⟩
      go_upto_block 2 with fail
      go_cut [8, 9] (fun z _ wx => ∃ (H : Hq) (rn : Nat), z = .int .i64 (rn : Nat) ∧ Ig w hs g H wx ∧ Sw H pp qq rn ∧ H.Ok)
      case first =>
        rcases (show ff = 0 ∨ ff = 1 ∨ ff = 2 by omega) with rfl | rfl | rfl
        · obtain ⟨v, e1, lv, hv⟩ := an12 x7 HX.out.2.2.2.2.2.2.2.1
          obtain ⟨v7, e2, l7, -, h7⟩ := or4 v lv
          have H7 : Hid (v7 < 256 ∧ v7 / 4 % 4 = 1) := ⟨l7, h7 hv⟩
          clear lv hv l7 h7 lff
          have c7 : Y7.cell? ⟨g, 7, none⟩ = some (.int .u8 ((x7 : Nat) : Int)) := K7.at 7 (by decide)
          have f7 := K7.o.free 7
          go_wp2
          go_meet
          have KN : Ig w hs g ⟨78, 69, 83, 26, pp, qq, v6, v7, x8, x9, x10, x11, x12, x13, x14, x15⟩ (Y7.setCell ⟨g, 7, none⟩ (.int .u8 ((v7 : Nat) : Int))) := K7.set 7 v7 rfl
          have hf : (⟨78, 69, 83, 26, pp, qq, v6, v7, x8, x9, x10, x11, x12, x13, x14, x15⟩ : Hq).f = 0 := f_zero _ H7.out.2
          have ok : (⟨78, 69, 83, 26, pp, qq, v6, v7, x8, x9, x10, x11, x12, x13, x14, x15⟩ : Hq).Ok := ⟨by show (78 : Nat) < 256; decide, by show (69 : Nat) < 256; decide, by show (83 : Nat) < 256; decide, by show (26 : Nat) < 256; decide, HX6.out.1, HX6.out.2, H6.out.1, H7.out.1, HX.out.2.2.2.2.2.2.2.2.1, HX.out.2.2.2.2.2.2.2.2.2.1, HX.out.2.2.2.2.2.2.2.2.2.2.1, HX.out.2.2.2.2.2.2.2.2.2.2.2.1, HX.out.2.2.2.2.2.2.2.2.2.2.2.2.1, HX.out.2.2.2.2.2.2.2.2.2.2.2.2.2.1, HX.out.2.2.2.2.2.2.2.2.2.2.2.2.2.2.1, HX.out.2.2.2.2.2.2.2.2.2.2.2.2.2.2.2⟩
          exact ⟨_, rr, rfl, KN, ⟨⟨rfl, rfl, rfl, rfl⟩, rfl, rfl, H6.out.2, bad_old _ ok hf, (fun h => absurd (hf.symm.trans h) (by decide)), ⟨fun h => absurd (hf.symm.trans h.1) (by decide), by unfold Hq.least; rw [hf, if_neg (fun h => absurd h.1 (by decide)), if_neg (by decide)]; exact Nat.zero_le _⟩, by have := HPQ.out; omega⟩, ok⟩
        · obtain ⟨v, e1, lv, hv⟩ := an12 x7 HX.out.2.2.2.2.2.2.2.1
          have HV : Hid (v < 256 ∧ v / 4 % 4 = 0) := ⟨lv, hv⟩
          clear lv hv lff
          have c7 : Y7.cell? ⟨g, 7, none⟩ = some (.int .u8 ((x7 : Nat) : Int)) := K7.at 7 (by decide)
          have f7 := K7.o.free 7
          go_upto_region 18 with fail
          have K8 : Ig w hs g ⟨78, 69, 83, 26, pp, qq, v6, v, x8, x9, x10, x11, x12, x13, x14, x15⟩ (Y7.setCell ⟨g, 7, none⟩ (.int .u8 ((v : Nat) : Int))) := K7.set 7 v rfl
          clear K7 c7 f7 e1
          generalize Y7.setCell ⟨g, 7, none⟩ (.int .u8 ((v : Nat) : Int)) = Y8 at *
          have c7 : Y8.cell? ⟨g, 7, none⟩ = some (.int .u8 ((v : Nat) : Int)) := K8.at 7 (by decide)
          have f7 := K8.o.free 7
          have a3 := (by_and v HV.out.1).2.1
          obtain ⟨v4, hv4⟩ : ∃ v4, v % 4 = v4 := ⟨_, rfl⟩
          have HV4 : Hid (v % 4 = v4 ∧ v4 < 4) := ⟨hv4, by omega⟩
          rw [hv4] at a3
          clear hv4
          obtain ⟨bt, hbt⟩ : ∃ bt, decide (2 ≤ v4) = bt := ⟨_, rfl⟩
          have HBT : Hid (decide (2 ≤ v4) = bt) := hbt
          have hbi : decide ((2 : Int) ≤ (v4 : Int)) = bt := by rw [← hbt]; exact decide_eq_decide.2 (by omega)
          go_upto_if 79 with fail
          clear hbt hbi
          go_cut [] (fun wx => ∃ v7 : Nat, Ig w hs g ⟨78, 69, 83, 26, pp, qq, v6, v7, x8, x9, x10, x11, x12, x13, x14, x15⟩ wx ∧ v7 < 256 ∧ v7 / 4 % 4 = 0 ∧ v7 % 4 < 2)
          case first =>
            rcases Bool.eq_false_or_eq_true bt with hT | hT
            · subst hT
              obtain ⟨z, e3, lz, hz, hz4⟩ := an3 v HV.out.1 HV.out.2
              have HZ : Hid ((z < 256 ∧ z / 4 % 4 = 0) ∧ z % 4 = 0) := ⟨⟨lz, hz⟩, hz4⟩
              clear lz hz hz4
              go_wp2
              go_meet
              exact ⟨z, K8.set 7 z rfl, HZ.out.1.1, HZ.out.1.2, by rw [HZ.out.2]; decide⟩
            · subst hT
              have HZ : Hid (v % 4 < 2) := by unfold Hid; rw [HV4.out.1]; have := of_decide_eq_false HBT.out; omega
              go_wp2
              go_meet
              exact ⟨v, K8, HV.out.1, HV.out.2, HZ.out⟩
          case rest =>
          clear K8 c7 f7 a3
          obtain ⟨v7, K9, l7, h7, h72⟩ := hcut
          have H7 : Hid ((v7 < 256 ∧ v7 / 4 % 4 = 0) ∧ v7 % 4 < 2) := ⟨⟨l7, h7⟩, h72⟩
          clear l7 h7 h72
          generalize wc = Y9 at *
          have a9 := (by_bit x9 HX.out.2.2.2.2.2.2.2.2.2.1).1
          obtain ⟨v9, hv9⟩ : ∃ v9, x9 % 2 = v9 := ⟨_, rfl⟩
          have HV9 : Hid (v9 = x9 % 2) := hv9.symm
          rw [hv9] at a9
          clear hv9
          have c9 : Y9.cell? ⟨g, 9, none⟩ = some (.int .u8 ((x9 : Nat) : Int)) := K9.at 9 (by decide)
          have f9 := K9.o.free 9
          go_upto_region 22 with fail
          have K10 : Ig w hs g ⟨78, 69, 83, 26, pp, qq, v6, v7, x8, v9, x10, x11, x12, x13, x14, x15⟩ (Y9.setCell ⟨g, 9, none⟩ (.int .u8 ((v9 : Nat) : Int))) := K9.set 9 v9 rfl
          clear K9 c9 f9 a9
          generalize Y9.setCell ⟨g, 9, none⟩ (.int .u8 ((v9 : Nat) : Int)) = Y10 at *
          go_loopw [9] (fun z wr => ∃ j y10 y11 y12 y13 y14 y15 : Nat, j ≤ 6 ∧ z = .int .i64 ((10 + j : Nat) : Int) ∧ Ig w hs g ⟨78, 69, 83, 26, pp, qq, v6, v7, x8, v9, y10, y11, y12, y13, y14, y15⟩ wr ∧ (y10 < 256 ∧ (0 < j → y10 = 0)) ∧ (y11 < 256 ∧ (1 < j → y11 = 0)) ∧ (y12 < 256 ∧ (2 < j → y12 = 0)) ∧ (y13 < 256 ∧ (3 < j → y13 = 0)) ∧ (y14 < 256 ∧ (4 < j → y14 = 0)) ∧ (y15 < 256 ∧ (5 < j → y15 = 0))) (fun z _ => 16 - (intOf z).toNat)
          case atStart => exact ⟨0, x10, x11, x12, x13, x14, x15, by decide, rfl, K10, ⟨HX.out.2.2.2.2.2.2.2.2.2.2.1, fun h => absurd h (by decide)⟩, ⟨HX.out.2.2.2.2.2.2.2.2.2.2.2.1, fun h => absurd h (by decide)⟩, ⟨HX.out.2.2.2.2.2.2.2.2.2.2.2.2.1, fun h => absurd h (by decide)⟩, ⟨HX.out.2.2.2.2.2.2.2.2.2.2.2.2.2.1, fun h => absurd h (by decide)⟩, ⟨HX.out.2.2.2.2.2.2.2.2.2.2.2.2.2.2.1, fun h => absurd h (by decide)⟩, ⟨HX.out.2.2.2.2.2.2.2.2.2.2.2.2.2.2.2, fun h => absurd h (by decide)⟩⟩
          case round =>
            clear K10
            obtain ⟨j, y10, y11, y12, y13, y14, y15, hj6, rfl, KY, hy10, hy11, hy12, hy13, hy14, hy15⟩ := hrel
            have HY : Hid ((y10 < 256 ∧ (0 < j → y10 = 0)) ∧ (y11 < 256 ∧ (1 < j → y11 = 0)) ∧ (y12 < 256 ∧ (2 < j → y12 = 0)) ∧ (y13 < 256 ∧ (3 < j → y13 = 0)) ∧ (y14 < 256 ∧ (4 < j → y14 = 0)) ∧ (y15 < 256 ∧ (5 < j → y15 = 0))) := ⟨hy10, hy11, hy12, hy13, hy14, hy15⟩
            clear hy10 hy11 hy12 hy13 hy14 hy15
            by_cases h6 : j < 6
            · rcases (show j = 0 ∨ j = 1 ∨ j = 2 ∨ j = 3 ∨ j = 4 ∨ j = 5 by omega) with rfl | rfl | rfl | rfl | rfl | rfl
              · have c : wr.cell? ⟨g, 10, none⟩ = some (.int .u8 ((y10 : Nat) : Int)) := KY.at 10 (by decide)
                have fz := KY.o.free 10
                have KN : Ig w hs g ⟨78, 69, 83, 26, pp, qq, v6, v7, x8, v9, 0, y11, y12, y13, y14, y15⟩ (wr.setCell ⟨g, 10, none⟩ (.int .u8 ((0 : Nat) : Int))) := KY.set 10 0 rfl
                have HK : Hid _ := KN
                clear KN KY
                go_wp2
                go_roundw
                case rel => exact ⟨1, 0, y11, y12, y13, y14, y15, by decide, by go_num, HK.out, ⟨by decide, fun _ => rfl⟩, ⟨(HY.out.2.1).1, fun h => (HY.out.2.1).2 (by omega)⟩, ⟨(HY.out.2.2.1).1, fun h => (HY.out.2.2.1).2 (by omega)⟩, ⟨(HY.out.2.2.2.1).1, fun h => (HY.out.2.2.2.1).2 (by omega)⟩, ⟨(HY.out.2.2.2.2.1).1, fun h => (HY.out.2.2.2.2.1).2 (by omega)⟩, ⟨(HY.out.2.2.2.2.2).1, fun h => (HY.out.2.2.2.2.2).2 (by omega)⟩⟩
                case measure => simp [intOf]
              · have c : wr.cell? ⟨g, 11, none⟩ = some (.int .u8 ((y11 : Nat) : Int)) := KY.at 11 (by decide)
                have fz := KY.o.free 11
                have KN : Ig w hs g ⟨78, 69, 83, 26, pp, qq, v6, v7, x8, v9, y10, 0, y12, y13, y14, y15⟩ (wr.setCell ⟨g, 11, none⟩ (.int .u8 ((0 : Nat) : Int))) := KY.set 11 0 rfl
                have HK : Hid _ := KN
                clear KN KY
                go_wp2
                go_roundw
                case rel => exact ⟨2, y10, 0, y12, y13, y14, y15, by decide, by go_num, HK.out, ⟨(HY.out.1).1, fun h => (HY.out.1).2 (by omega)⟩, ⟨by decide, fun _ => rfl⟩, ⟨(HY.out.2.2.1).1, fun h => (HY.out.2.2.1).2 (by omega)⟩, ⟨(HY.out.2.2.2.1).1, fun h => (HY.out.2.2.2.1).2 (by omega)⟩, ⟨(HY.out.2.2.2.2.1).1, fun h => (HY.out.2.2.2.2.1).2 (by omega)⟩, ⟨(HY.out.2.2.2.2.2).1, fun h => (HY.out.2.2.2.2.2).2 (by omega)⟩⟩
                case measure => simp [intOf]
              · have c : wr.cell? ⟨g, 12, none⟩ = some (.int .u8 ((y12 : Nat) : Int)) := KY.at 12 (by decide)
                have fz := KY.o.free 12
                have KN : Ig w hs g ⟨78, 69, 83, 26, pp, qq, v6, v7, x8, v9, y10, y11, 0, y13, y14, y15⟩ (wr.setCell ⟨g, 12, none⟩ (.int .u8 ((0 : Nat) : Int))) := KY.set 12 0 rfl
                have HK : Hid _ := KN
                clear KN KY
                go_wp2
                go_roundw
                case rel => exact ⟨3, y10, y11, 0, y13, y14, y15, by decide, by go_num, HK.out, ⟨(HY.out.1).1, fun h => (HY.out.1).2 (by omega)⟩, ⟨(HY.out.2.1).1, fun h => (HY.out.2.1).2 (by omega)⟩, ⟨by decide, fun _ => rfl⟩, ⟨(HY.out.2.2.2.1).1, fun h => (HY.out.2.2.2.1).2 (by omega)⟩, ⟨(HY.out.2.2.2.2.1).1, fun h => (HY.out.2.2.2.2.1).2 (by omega)⟩, ⟨(HY.out.2.2.2.2.2).1, fun h => (HY.out.2.2.2.2.2).2 (by omega)⟩⟩
                case measure => simp [intOf]
              · have c : wr.cell? ⟨g, 13, none⟩ = some (.int .u8 ((y13 : Nat) : Int)) := KY.at 13 (by decide)
                have fz := KY.o.free 13
                have KN : Ig w hs g ⟨78, 69, 83, 26, pp, qq, v6, v7, x8, v9, y10, y11, y12, 0, y14, y15⟩ (wr.setCell ⟨g, 13, none⟩ (.int .u8 ((0 : Nat) : Int))) := KY.set 13 0 rfl
                have HK : Hid _ := KN
                clear KN KY
                go_wp2
                go_roundw
                case rel => exact ⟨4, y10, y11, y12, 0, y14, y15, by decide, by go_num, HK.out, ⟨(HY.out.1).1, fun h => (HY.out.1).2 (by omega)⟩, ⟨(HY.out.2.1).1, fun h => (HY.out.2.1).2 (by omega)⟩, ⟨(HY.out.2.2.1).1, fun h => (HY.out.2.2.1).2 (by omega)⟩, ⟨by decide, fun _ => rfl⟩, ⟨(HY.out.2.2.2.2.1).1, fun h => (HY.out.2.2.2.2.1).2 (by omega)⟩, ⟨(HY.out.2.2.2.2.2).1, fun h => (HY.out.2.2.2.2.2).2 (by omega)⟩⟩
                case measure => simp [intOf]
              · have c : wr.cell? ⟨g, 14, none⟩ = some (.int .u8 ((y14 : Nat) : Int)) := KY.at 14 (by decide)
                have fz := KY.o.free 14
                have KN : Ig w hs g ⟨78, 69, 83, 26, pp, qq, v6, v7, x8, v9, y10, y11, y12, y13, 0, y15⟩ (wr.setCell ⟨g, 14, none⟩ (.int .u8 ((0 : Nat) : Int))) := KY.set 14 0 rfl
                have HK : Hid _ := KN
                clear KN KY
                go_wp2
                go_roundw
                case rel => exact ⟨5, y10, y11, y12, y13, 0, y15, by decide, by go_num, HK.out, ⟨(HY.out.1).1, fun h => (HY.out.1).2 (by omega)⟩, ⟨(HY.out.2.1).1, fun h => (HY.out.2.1).2 (by omega)⟩, ⟨(HY.out.2.2.1).1, fun h => (HY.out.2.2.1).2 (by omega)⟩, ⟨(HY.out.2.2.2.1).1, fun h => (HY.out.2.2.2.1).2 (by omega)⟩, ⟨by decide, fun _ => rfl⟩, ⟨(HY.out.2.2.2.2.2).1, fun h => (HY.out.2.2.2.2.2).2 (by omega)⟩⟩
                case measure => simp [intOf]
              · have c : wr.cell? ⟨g, 15, none⟩ = some (.int .u8 ((y15 : Nat) : Int)) := KY.at 15 (by decide)
                have fz := KY.o.free 15
                have KN : Ig w hs g ⟨78, 69, 83, 26, pp, qq, v6, v7, x8, v9, y10, y11, y12, y13, y14, 0⟩ (wr.setCell ⟨g, 15, none⟩ (.int .u8 ((0 : Nat) : Int))) := KY.set 15 0 rfl
                have HK : Hid _ := KN
                clear KN KY
                go_wp2
                go_roundw
                case rel => exact ⟨6, y10, y11, y12, y13, y14, 0, by decide, by go_num, HK.out, ⟨(HY.out.1).1, fun h => (HY.out.1).2 (by omega)⟩, ⟨(HY.out.2.1).1, fun h => (HY.out.2.1).2 (by omega)⟩, ⟨(HY.out.2.2.1).1, fun h => (HY.out.2.2.1).2 (by omega)⟩, ⟨(HY.out.2.2.2.1).1, fun h => (HY.out.2.2.2.1).2 (by omega)⟩, ⟨(HY.out.2.2.2.2.1).1, fun h => (HY.out.2.2.2.2.1).2 (by omega)⟩, ⟨by decide, fun _ => rfl⟩⟩
                case measure => simp [intOf]
            · obtain rfl : j = 6 := by omega
              have HZ : Hid (y10 = 0 ∧ y11 = 0 ∧ y12 = 0 ∧ y13 = 0 ∧ y14 = 0 ∧ y15 = 0) := ⟨(HY.out.1).2 (by decide), (HY.out.2.1).2 (by decide), (HY.out.2.2.1).2 (by decide), (HY.out.2.2.2.1).2 (by decide), (HY.out.2.2.2.2.1).2 (by decide), (HY.out.2.2.2.2.2).2 (by decide)⟩
              go_wp2
              go_meet
              obtain ⟨z10, z11, z12, z13, z14, z15⟩ := HZ.out
              subst z10 z11 z12 z13 z14 z15
              have hf : (⟨78, 69, 83, 26, pp, qq, v6, v7, x8, v9, 0, 0, 0, 0, 0, 0⟩ : Hq).f = 1 := f_one _ H7.out.1.2 ⟨rfl, rfl, rfl, rfl⟩
              have h9 : v9 < 256 := by rw [HV9.out]; omega
              have ok : (⟨78, 69, 83, 26, pp, qq, v6, v7, x8, v9, 0, 0, 0, 0, 0, 0⟩ : Hq).Ok := ⟨by show (78 : Nat) < 256; decide, by show (69 : Nat) < 256; decide, by show (83 : Nat) < 256; decide, by show (26 : Nat) < 256; decide, HX6.out.1, HX6.out.2, H6.out.1, H7.out.1.1, HX.out.2.2.2.2.2.2.2.2.1, h9, by show (0 : Nat) < 256; decide, by show (0 : Nat) < 256; decide, by show (0 : Nat) < 256; decide, by show (0 : Nat) < 256; decide, by show (0 : Nat) < 256; decide, by show (0 : Nat) < 256; decide⟩
              exact ⟨_, rr, rfl, KY, ⟨⟨rfl, rfl, rfl, rfl⟩, rfl, rfl, H6.out.2, bad_ines _ ok hf H7.out.2 x9 HV9.out rfl rfl, (fun h => absurd (hf.symm.trans h) (by decide)), ⟨fun h => absurd (hf.symm.trans h.1) (by decide), by unfold Hq.least; rw [hf, if_neg (fun h => absurd h.2 (by have := H7.out.2; show ¬ v7 % 4 = 2; omega)), if_neg (by decide)]; exact Nat.zero_le _⟩, by have := HPQ.out; omega⟩, ok⟩
        · obtain ⟨v, e1, lv, hv⟩ := an12 x7 HX.out.2.2.2.2.2.2.2.1
          obtain ⟨v7, e2, l7, h7⟩ := or8 v lv hv
          have H7 : Hid (v7 < 256 ∧ v7 / 4 % 4 = 2) := ⟨l7, h7⟩
          clear lv hv l7 h7 lff
          have c7 : Y7.cell? ⟨g, 7, none⟩ = some (.int .u8 ((x7 : Nat) : Int)) := K7.at 7 (by decide)
          have f7 := K7.o.free 7
          go_upto_region 27 with fail
          have K8 : Ig w hs g ⟨78, 69, 83, 26, pp, qq, v6, v7, x8, x9, x10, x11, x12, x13, x14, x15⟩ (Y7.setCell ⟨g, 7, none⟩ (.int .u8 ((v7 : Nat) : Int))) := K7.set 7 v7 rfl
          clear K7 c7 f7 e1 e2
          generalize Y7.setCell ⟨g, 7, none⟩ (.int .u8 ((v7 : Nat) : Int)) = Y8 at *
          have c9 : Y8.cell? ⟨g, 9, none⟩ = some (.int .u8 ((x9 : Nat) : Int)) := K8.at 9 (by decide)
          have f9 := K8.o.free 9
          go_upto_region 28 with fail
          have K9 : Ig w hs g ⟨78, 69, 83, 26, pp, qq, v6, v7, x8, 0, x10, x11, x12, x13, x14, x15⟩ (Y8.setCell ⟨g, 9, none⟩ (.int .u8 ((0 : Nat) : Int))) := K8.set 9 0 rfl
          clear K8 c9 f9 
          generalize Y8.setCell ⟨g, 9, none⟩ (.int .u8 ((0 : Nat) : Int)) = Y9 at *
          have a12 := (by_and x12 HX.out.2.2.2.2.2.2.2.2.2.2.2.2.1).2.1
          obtain ⟨v12, hv12⟩ : ∃ z, x12 % 4 = z := ⟨_, rfl⟩
          have HV12 : Hid (v12 = x12 % 4) := hv12.symm
          rw [hv12] at a12
          clear hv12
          have c12 : Y9.cell? ⟨g, 12, none⟩ = some (.int .u8 ((x12 : Nat) : Int)) := K9.at 12 (by decide)
          have f12 := K9.o.free 12
          go_upto_region 29 with fail
          have K10 : Ig w hs g ⟨78, 69, 83, 26, pp, qq, v6, v7, x8, 0, x10, x11, v12, x13, x14, x15⟩ (Y9.setCell ⟨g, 12, none⟩ (.int .u8 ((v12 : Nat) : Int))) := K9.set 12 v12 rfl
          clear K9 c12 f12 a12
          generalize Y9.setCell ⟨g, 12, none⟩ (.int .u8 ((v12 : Nat) : Int)) = Y10 at *
          have c7 : Y10.cell? ⟨g, 7, none⟩ = some (.int .u8 ((v7 : Nat) : Int)) := K10.at 7 (by decide)
          have c13 : Y10.cell? ⟨g, 13, none⟩ = some (.int .u8 ((x13 : Nat) : Int)) := K10.at 13 (by decide)
          have f13 := K10.o.free 13
          have a1 := (by_bit v7 H7.out.1).1
          obtain ⟨q2, hq2⟩ : ∃ z, v7 % 2 = z := ⟨_, rfl⟩
          have HQ2 : Hid (v7 % 2 = q2) := hq2
          rw [hq2] at a1
          have lq2 : q2 < 2 := by omega
          clear hq2
          go_upto_if 120 with fail
          go_cut [] (fun wx => ∃ y13 : Nat, Ig w hs g ⟨78, 69, 83, 26, pp, qq, v6, v7, x8, 0, x10, x11, v12, y13, x14, x15⟩ wx ∧ y13 < 256 ∧ (v7 % 2 = 0 → y13 = 0))
          case first =>
            rcases (show q2 = 0 ∨ q2 = 1 by omega) with rfl | rfl
            · go_wp2
              go_meet
              exact ⟨0, K10.set 13 0 rfl, by decide, fun _ => rfl⟩
            · go_wp2
              go_meet
              exact ⟨x13, K10, HX.out.2.2.2.2.2.2.2.2.2.2.2.2.2.1, fun h => absurd (HQ2.out.symm.trans h) (by decide)⟩
          case rest =>
          clear K10 c7 c13 f13 a1 lq2
          obtain ⟨y13, K11, l13, h13⟩ := hcut
          have H13 : Hid (y13 < 256 ∧ (v7 % 2 = 0 → y13 = 0)) := ⟨l13, h13⟩
          clear l13 h13
          generalize wc = Y11 at *
          go_upto_region 31 with fail
          have c7 : Y11.cell? ⟨g, 7, none⟩ = some (.int .u8 ((v7 : Nat) : Int)) := K11.at 7 (by decide)
          have c13 : Y11.cell? ⟨g, 13, none⟩ = some (.int .u8 ((y13 : Nat) : Int)) := K11.at 13 (by decide)
          have f13 := K11.o.free 13
          have a3 := (by_and v7 H7.out.1).2.1
          obtain ⟨q4, hq4⟩ : ∃ z, v7 % 4 = z := ⟨_, rfl⟩
          have HQ4 : Hid (v7 % 4 = q4 ∧ q4 < 4) := ⟨hq4, by omega⟩
          rw [hq4] at a3
          clear hq4
          obtain ⟨b3, hb3⟩ : ∃ b3, ((q4 : Int) == 3) = b3 := ⟨_, rfl⟩
          have HB3 : Hid (((q4 : Int) == 3) = b3) := hb3
          go_upto_if 127 with fail
          clear hb3
          go_cut [] (fun wx => ∃ z13 : Nat, Ig w hs g ⟨78, 69, 83, 26, pp, qq, v6, v7, x8, 0, x10, x11, v12, z13, x14, x15⟩ wx ∧ z13 < 256 ∧ ((v7 % 4 = 1) ∨ (v7 % 4 = 3 ∧ ∃ v, z13 = v % 16) ∨ z13 = 0))
          case first =>
            cases b3
            · have hn : ¬ q4 = 3 := by have := HB3.out; rw [beq_eq_false_iff_ne] at this; omega
              have HD : Hid ((v7 % 4 = 1) ∨ (v7 % 4 = 3 ∧ ∃ v, y13 = v % 16) ∨ y13 = 0) := by
                have h4 := HQ4.out
                by_cases h1 : v7 % 4 = 1
                · exact .inl h1
                · exact .inr (.inr (H13.out.2 (by omega)))
              go_wp2
              go_meet
              exact ⟨y13, K11, H13.out.1, HD.out⟩
            · have h3 : q4 = 3 := by have := HB3.out; rw [beq_iff_eq] at this; omega
              have a15 := (by_and y13 H13.out.1).2.2.2.1
              obtain ⟨z, hz⟩ : ∃ z, y13 % 16 = z := ⟨_, rfl⟩
              have HZ : Hid (y13 % 16 = z ∧ v7 % 4 = 3) := ⟨hz, HQ4.out.1.trans h3⟩
              rw [hz] at a15
              clear hz h3
              go_wp2
              go_meet
              exact ⟨z, K11.set 13 z rfl, by rw [← HZ.out.1]; omega, .inr (.inl ⟨HZ.out.2, y13, HZ.out.1.symm⟩)⟩
          case rest =>
          clear K11 c7 c13 f13 a3
          obtain ⟨z13, K12, l13, h13⟩ := hcut
          have HZ13 : Hid (z13 < 256 ∧ ((v7 % 4 = 1) ∨ (v7 % 4 = 3 ∧ ∃ v, z13 = v % 16) ∨ z13 = 0)) := ⟨l13, h13⟩
          clear l13 h13
          generalize wc = Y12 at *
          go_upto_region 33 with fail
          have a14 := (by_and x14 HX.out.2.2.2.2.2.2.2.2.2.2.2.2.2.2.1).2.1
          obtain ⟨v14, hv14⟩ : ∃ z, x14 % 4 = z := ⟨_, rfl⟩
          have HV14 : Hid (v14 = x14 % 4) := hv14.symm
          rw [hv14] at a14
          clear hv14
          have c14 : Y12.cell? ⟨g, 14, none⟩ = some (.int .u8 ((x14 : Nat) : Int)) := K12.at 14 (by decide)
          have f14 := K12.o.free 14
          go_upto_region 34 with fail
          have K13 : Ig w hs g ⟨78, 69, 83, 26, pp, qq, v6, v7, x8, 0, x10, x11, v12, z13, v14, x15⟩ (Y12.setCell ⟨g, 14, none⟩ (.int .u8 ((v14 : Nat) : Int))) := K12.set 14 v14 rfl
          clear K12 c14 f14 a14
          generalize Y12.setCell ⟨g, 14, none⟩ (.int .u8 ((v14 : Nat) : Int)) = Y13 at *
          have a15 := (by_and x15 HX.out.2.2.2.2.2.2.2.2.2.2.2.2.2.2.2).2.2.2.2
          obtain ⟨v15, hv15⟩ : ∃ z, x15 % 64 = z := ⟨_, rfl⟩
          have HV15 : Hid (v15 = x15 % 64) := hv15.symm
          rw [hv15] at a15
          clear hv15
          have c15 : Y13.cell? ⟨g, 15, none⟩ = some (.int .u8 ((x15 : Nat) : Int)) := K13.at 15 (by decide)
          have f15 := K13.o.free 15
          go_upto_region 35 with fail
          have K14 : Ig w hs g ⟨78, 69, 83, 26, pp, qq, v6, v7, x8, 0, x10, x11, v12, z13, v14, v15⟩ (Y13.setCell ⟨g, 15, none⟩ (.int .u8 ((v15 : Nat) : Int))) := K13.set 15 v15 rfl
          clear K13 c15 f15 a15
          generalize Y13.setCell ⟨g, 15, none⟩ (.int .u8 ((v15 : Nat) : Int)) = Y14 at *
          have c14 : Y14.cell? ⟨g, 14, none⟩ = some (.int .u8 ((v14 : Nat) : Int)) := K14.at 14 (by decide)
          have hf : (⟨78, 69, 83, 26, pp, qq, v6, v7, x8, 0, x10, x11, v12, z13, v14, v15⟩ : Hq).f = 2 := f_two _ H7.out.2
          have ok : (⟨78, 69, 83, 26, pp, qq, v6, v7, x8, 0, x10, x11, v12, z13, v14, v15⟩ : Hq).Ok := by
            have q12 := HV12.out
            have q14 := HV14.out
            have q15 := HV15.out
            exact ⟨by show (78 : Nat) < 256; decide, by show (69 : Nat) < 256; decide, by show (83 : Nat) < 256; decide, by show (26 : Nat) < 256; decide, HX6.out.1, HX6.out.2, H6.out.1, H7.out.1, HX.out.2.2.2.2.2.2.2.2.1, by show (0 : Nat) < 256; decide, HX.out.2.2.2.2.2.2.2.2.2.2.1, HX.out.2.2.2.2.2.2.2.2.2.2.2.1, by show v12 < 256; omega, HZ13.out.1, by show v14 < 256; omega, by show v15 < 256; omega⟩
          have HBD : Hid ((⟨78, 69, 83, 26, pp, qq, v6, v7, x8, 0, x10, x11, v12, z13, v14, v15⟩ : Hq).bad = 0 ∧ (⟨78, 69, 83, 26, pp, qq, v6, v7, x8, 0, x10, x11, v12, z13, v14, v15⟩ : Hq).Ok ∧ (⟨78, 69, 83, 26, pp, qq, v6, v7, x8, 0, x10, x11, v12, z13, v14, v15⟩ : Hq).f = 2) := ⟨bad_nes2 _ ok hf x12 x14 x15 HV12.out HV14.out HV15.out HZ13.out.2, ok, hf⟩
          clear hf ok
          by_cases h14 : v14 = 0
          · have HR0 : Hid (v14 = 0) := h14
            have h14i : ((v14 : Int) == 0) = true := by rw [h14]; rfl
            clear h14
            go_wp2
            go_meet
            exact ⟨_, 0, by first | rfl | go_num, K14, ⟨⟨rfl, rfl, rfl, rfl⟩, rfl, rfl, H6.out.2, HBD.out.1, (fun _ => rfl), ⟨fun _ => rfl, by unfold Hq.least; rw [HBD.out.2.2, if_neg (fun h => absurd h.1 (by decide)), if_pos rfl]; show v14 % 4 ≤ 0; rw [HR0.out]; decide⟩, by have := HPQ.out; omega⟩, HBD.out.2.1⟩
          · have HR0 : Hid (¬ v14 = 0 ∧ v14 < 4) := ⟨h14, by rw [HV14.out]; omega⟩
            have h14i : ((v14 : Int) == 0) = false := by rw [beq_eq_false_iff_ne]; omega
            clear h14
            have lrr := HPQ.out.2
            go_wp2
            go_meet
            exact ⟨_, rr + 3, by first | rfl | go_num, K14, ⟨⟨rfl, rfl, rfl, rfl⟩, rfl, rfl, H6.out.2, HBD.out.1, (fun _ => rfl), ⟨fun h => absurd h.2 (by have := HR0.out; show ¬ v14 % 4 = 0; omega), by unfold Hq.least; rw [HBD.out.2.2, if_neg (fun h => absurd h.1 (by decide)), if_pos rfl]; show v14 % 4 ≤ rr + 3; omega⟩, by have := HPQ.out; omega⟩, HBD.out.2.1⟩
      case rest =>
      obtain ⟨H, rn, rfl, KH, hsw, hok⟩ := hcut
      clear K7 lff
      generalize wc = Z0 at *
      have HSW : Hid (Sw H pp qq rn ∧ H.Ok) := ⟨hsw, hok⟩
      clear hsw hok
      have hpp := HPQ.out.1.1
      have hqq := HPQ.out.1.2
      have hrn : rn ≤ 43 := HSW.out.1.r
      obtain ⟨n0, hn0⟩ : ∃ n0, pp * 16384 + qq * 8192 = n0 := ⟨_, rfl⟩
      have HN0 : Hid (pp * 16384 + qq * 8192 = n0) := hn0
      have en : (pp : Int) * 16384 + (qq : Int) * 8192 = (n0 : Int) := by omega
      have ln0 : n0 ≤ 73728 := by omega
      clear hn0
      go_upto_region 39 with fail
      clear en hpp hqq
      have d19 := (KH.b.cell 19).trans HH.out.h19
      obtain ⟨y6, hy6⟩ : ∃ y6, H.b6 = y6 := ⟨_, rfl⟩
      have HY6 : Hid (H.b6 = y6) := hy6
      have c6 : Z0.cell? ⟨g, 6, none⟩ = some (.int .u8 ((y6 : Nat) : Int)) := by have := KH.at 6 (by decide); rw [← hy6]; exact this
      have f6 := KH.o.free 6
      clear hy6
      go_upto_if 158 with fail
      go_cut [10] (fun z wx => ∃ v nn : Nat, z = .int .i64 (nn : Nat) ∧ Ig w hs g { H with b6 := v } wx ∧ v < 256 ∧ nn = n0 + (if v / 4 % 2 = 1 then 512 else 0) ∧ (if v / 4 % 2 = 1 then 512 else 0) = tt)
      case first =>
        cases tr
        · go_wp2
          go_meet
          refine ⟨H.b6, n0, rfl, KH, HSW.out.2.k6, ?_, by rw [if_neg (by rw [HSW.out.1.t]; decide)]; exact HTT.out⟩
          rw [if_neg (by rw [HSW.out.1.t]; decide)]
          rfl
        · obtain ⟨v, ev, lv, hv, -⟩ := or4 y6 (by rw [← HY6.out]; exact HSW.out.2.k6)
          have HV : Hid (v < 256 ∧ v / 4 % 2 = 1) := ⟨lv, hv⟩
          clear lv hv
          go_wp2
          go_meet
          refine ⟨v, n0 + 512, by go_num, KH.set 6 v rfl, HV.out.1, ?_, by rw [if_pos HV.out.2]; exact HTT.out⟩
          rw [if_pos HV.out.2]
      case rest =>
      clear KH d19 c6 f6
      obtain ⟨v, nn, rfl, KH, lv, hnn, hvt⟩ := hcut
      have HVT : Hid ((if v / 4 % 2 = 1 then 512 else 0) = tt) := hvt
      clear hvt
      generalize wc = Z1 at *
      have HV : Hid (v < 256 ∧ nn = n0 + (if v / 4 % 2 = 1 then 512 else 0)) := ⟨lv, hnn⟩
      have lnn : nn ≤ 74240 := by rw [hnn]; split <;> omega
      clear lv hnn
      have d21 := (KH.b.cell 21).trans HH.out.h21
      go_upto_region 42 with fail
      go_wp2_with fail
      refine (filled_i ((nn : Int) + (rn : Int)) (by omega) (by omega) _ Z1).mono ?_
      rintro e Z2 ⟨gf, nf, F, hnf, hlF, byF, rfl, hgf, hoF, hbF⟩
      have K2 := KH.below hbF
      have rF := hoF.row
      have HF : Hid ((F.length = nf ∧ Bytes F) ∧ nf = nn + rn) := ⟨⟨hlF, byF⟩, by omega⟩
      have TX : Hid _ := own_tx16 (base := w.heap.size) K2.o (Nat.le_of_lt hgg)
      have hb2 := K2.bl
      have hsz2 : w.heap.size ≤ Z2.heap.size := hb2.size
      clear KH hbF hoF hgf hlF byF hnf d21 K2
      go_wp2_with (refine wpList_appR rfl _ _ rfl TX.out hb2 hsz2 rfl rfl HF.out.1.1 rF (by rw [HF.out.1.1]; show 16 + _ ≤ _; have := HF.out.2; omega) ?_; intro v3 Z3 hT3 hb3 hs3; obtain ⟨a3, k3, hv3, rf3, hk3⟩ := hT3.rowC; obtain ⟨n3, hn3⟩ : ∃ n3, (({ H with b6 := v } : Hq).l ++ F).length = n3 := ⟨_, rfl⟩; have HL3 : Hid ((({ H with b6 := v } : Hq).l ++ F).length = n3) := hn3; rw [hn3] at hv3 hk3; clear hn3; subst hv3)
      have IM := sw_im HSW.out.1 HSW.out.2 HPQ.out.1.1 HPQ.out.1.2.2 HV.out.1 (by rw [HV.out.2, ← HN0.out]) (HF.out.1.1.trans HF.out.2) HF.out.1.2
      go_ret2
      have e16 : ((16 + nn : Nat) : Int) = 16 + (nn : Int) := by omega
      refine ⟨_, a3, n3, k3, 16 + nn, ?_, HL3.out, IM, rf3, hk3, hb3, HVT.out⟩
      show Ending.returned (.tuple #[.slice a3 n3 k3, .int .i64 (16 + (nn : Int))]) = _
      rw [e16]
end Go.Proofs.YtpdbndkckioamaaDoor
