/-
  What the document's Convert answers: what the program's answers.
-/
import Derived.Test.YtbopmbalfpnbjaaDoorCnvRef
set_option linter.unusedSimpArgs false
set_option linter.unusedVariables false
namespace Go.Proofs.YtbopmbalfpnbjaaDoor
open Go.RowKit
/-- Misc behind the first if. -/
def tm1 (c : CF) (f : Int) : Int := if c.fmt < 2 ∧ f = 2 then (if c.nr = 0 then 0 else 1) else c.misc
theorem cl_of {cs ds : Array Value} {c : CF} {f : Int} {w W : World} {T P Q R : List Nat} (D : IsC ds (cvD c f)) (X : Cl w cs c T P Q R) (h : ∀ i, 15 ≤ i → ds[i]? = cs[i]?) (hb : Below w.heap.size w W) : Cl W ds (cvD c f) T P Q R :=
  ⟨D, X.lt, X.lp, X.lq, X.lr, X.rt.imp fun _ ⟨k, e, r⟩ => ⟨k, (h 15 (by decide)).trans e, r.below hb⟩, X.rp.imp fun _ ⟨k, e, r⟩ => ⟨k, (h 16 (by decide)).trans e, r.below hb⟩, X.rq.imp fun _ ⟨k, e, r⟩ => ⟨k, (h 17 (by decide)).trans e, r.below hb⟩, X.rr.imp fun _ ⟨k, e, r⟩ => ⟨k, (h 18 (by decide)).trans e, r.below hb⟩⟩
theorem tm_two (c : CF) (f : Int) (hc : c.fmt = 0 ∨ c.fmt = 1 ∨ c.fmt = 2) (h0 : ¬ f < 0) (h2 : ¬ 2 < f) : tmN c f = if c.fmt = 2 ∧ f < 2 ∧ c.misc = 1 then 0 else tm1 c f := by
  unfold tmN tm1
  by_cases h : c.fmt = 2
  · rw [if_neg (fun g => g.1 h), if_neg (show ¬ (c.fmt < 2 ∧ f = 2) by omega)]
    by_cases g : f < 2 ∧ c.misc = 1
    · rw [if_pos ⟨h, by omega, g.2⟩, if_pos ⟨h, g.1, g.2⟩]
    · rw [if_neg (show ¬ (c.fmt = 2 ∧ f ≠ 2 ∧ c.misc = 1) by omega), if_neg (fun k => g k.2)]
  · rw [if_neg (show ¬ (c.fmt = 2 ∧ f < 2 ∧ c.misc = 1) from fun k => h k.1)]
    by_cases g : f = 2
    · rw [if_pos ⟨h, g⟩, if_pos (show c.fmt < 2 ∧ f = 2 from ⟨by omega, g⟩)]
    · rw [if_neg (fun k => g k.2), if_neg (fun k => h k.1), if_neg (fun k => g k.2)]
theorem Cd.same {w W : World} {cs ds : Array Value} {g i : Nat} {v : Value} (K : Cd w cs g ds W) (h : ds[i]? = some v) : Cd w cs g (ds.setIfInBounds i v) W := by
  have e : ds.setIfInBounds i v = ds := by
    apply Array.ext_getElem?
    intro j
    by_cases hj : i = j
    · subst hj
      have hi : i < ds.size := (Array.getElem?_eq_some_iff.1 h).1
      rw [h]; simp [hi]
    · rw [Array.getElem?_setIfInBounds_ne hj]
  rw [e]; exact K
theorem set_set (ds : Array Value) (i : Nat) (a b : Value) : (ds.setIfInBounds i a).setIfInBounds i b = ds.setIfInBounds i b := by
  apply Array.ext_getElem?
  intro j
  by_cases hj : i = j
  · subst hj
    by_cases hi : i < ds.size
    · simp [hi]
    · rw [Array.getElem?_eq_none (by simp; omega), Array.getElem?_eq_none (by simp; omega)]
  · rw [Array.getElem?_setIfInBounds_ne hj, Array.getElem?_setIfInBounds_ne hj, Array.getElem?_setIfInBounds_ne hj]
set_option maxRecDepth 100000 in
set_option maxHeartbeats 2000000 in
theorem rconvert_any (cs : Array Value) (c : CF) (f : Int) (T P Q R : List Nat) (w : World) (X : Cl w cs c T P Q R) (hpr : -9223372036854775808 ≤ c.pr ∧ c.pr ≤ 9223372036854775807) (hpn : -9223372036854775808 ≤ c.pn ∧ c.pn ≤ 9223372036854775807) :
    Calls Tryd.prog 7 #[.agg cs, .int .i64 f] w fun e w' => CvOk c f T P Q R w e w' := by
  have C := X.c
  have hsz := C.size
  have HS : Hid (cs.size = 19) := hsz
  go_enter Tryd.func7, Tryd.ntmps7
  go_upto_region 1 with fail
  have K0 : Cv w cs ((w.alloc (.cells cs 24)).alloc (.cells Z19 24)) := Cv.new w cs
  generalize ((w.alloc (.cells cs 24)).alloc (.cells Z19 24)) = W0 at *
  clear hsz
  by_cases hl : f < 0
  · have HK : Hid (cvK c f = 0) := by unfold Hid cvK; rw [if_pos (.inl hl)]
    go_wp2_with (refine wpList_store_mid rfl 24 _ _ rfl (w.heap.size + 1) 0 Z19 rfl rfl (K0.z.there 19 rfl) Tryd.infoCart (by kernel_rfl) ?_)
    refine ret_agg3 Tryd.results7 rfl rfl rfl (K0.z.setAll (L := Z19) rfl) Tryd.underlying24 rfl Tryd.infoCart ?_
    exact CvOk.bad 0 HK.out (by decide) _ _ (by unfold cvE; rw [HK.out]; rfl) (by unfold cvN; rw [HK.out]; rfl) (setCells_below (by omega) _ _ _ _ K0.bl)
  by_cases hh : 2 < f
  · have HK : Hid (cvK c f = 0) := by unfold Hid cvK; rw [if_pos (.inr hh)]
    go_wp2_with (refine wpList_store_mid rfl 24 _ _ rfl (w.heap.size + 1) 0 Z19 rfl rfl (K0.z.there 19 rfl) Tryd.infoCart (by kernel_rfl) ?_)
    refine ret_agg3 Tryd.results7 rfl rfl rfl (K0.z.setAll (L := Z19) rfl) Tryd.underlying24 rfl Tryd.infoCart ?_
    exact CvOk.bad 0 HK.out (by decide) _ _ (by unfold cvE; rw [HK.out]; rfl) (by unfold cvN; rw [HK.out]; rfl) (setCells_below (by omega) _ _ _ _ K0.bl)
  have HB : Hid (cvK c f = if ckE c ≠ 0 then 1 else if ckE (cvD c f) ≠ 0 then 2 else 3) := by unfold Hid cvK; rw [if_neg (by omega)]
  go_upto_region 3 with fail
  have CC : Hid (∀ W : World, Calls _ _ _ _ _) := fun W => rcheck_any cs c C hpr hpn W
  have CD : Hid (∀ W : World, Calls _ _ _ _ _) := fun W => rcheck_any _ (cvD c f) (C.turn f) hpr hpn W
  go_cut [7, 8] (fun p q wx => p = .int .i64 (ckE c) ∧ q = .int .i64 (ckN c) ∧ Cv w cs wx)
  case first =>
    go_wp2_with (first
      | (refine wpList_load_mid rfl 24 _ rfl w.heap.size 0 rfl cs.toList _ K0.b.range Tryd.underlying24 rfl (by rw [Array.length_toList, HS.out]; exact Tryd.infoCart) ?_; rw [Array.toArray_toList])
      | (go_at_call 14; go_must (refine (CC.out _).mono ?_; rintro e w1 ⟨rfl, hb1⟩)))
    go_meet
    exact ⟨rfl, rfl, K0.below hb1⟩
  case rest =>
  clear K0 CC
  obtain ⟨rfl, rfl, K⟩ := hcut
  by_cases he : ckE c ≠ 0
  · have HK : Hid (cvK c f = 1) := by unfold Hid; rw [HB.out, if_pos he]
    have he' : (ckE c != 0) = true := by simpa using he
    have H1 : Hid (cvE c f = ckE c) := by unfold Hid cvE; rw [HK.out]; rfl
    have H2 : Hid (cvN c f = ckN c) := by unfold Hid cvN; rw [HK.out]; rfl
    generalize ckE c = xe at *
    generalize ckN c = xn at *
    go_wp2_with (refine wpList_store_mid rfl 24 _ _ rfl (w.heap.size + 1) 0 Z19 rfl rfl (K.z.there 19 rfl) Tryd.infoCart (by kernel_rfl) ?_)
    refine ret_agg3 Tryd.results7 rfl rfl rfl (K.z.setAll (L := Z19) rfl) Tryd.underlying24 rfl Tryd.infoCart ?_
    exact CvOk.bad 1 HK.out (by decide) _ _ (H1.out) (H2.out) (setCells_below (by omega) _ _ _ _ K.bl)
  rw [if_neg he] at HB
  have he : ckE c = 0 := Classical.not_not.1 he
  have HF : Hid (c.fmt = 0 ∨ c.fmt = 1 ∨ c.fmt = 2) := (ck_ok he).1
  have HT : Hid (tmN c f = if c.fmt = 2 ∧ f < 2 ∧ c.misc = 1 then 0 else tm1 c f) := tm_two c f HF.out hl hh
  rw [he]
  generalize ckN c = xn at *
  go_upto_region 6 with fail
  go_cut [9] (fun p wx => ∃ g, p = .pointer (some ⟨g, 0, none⟩) ∧ Cd w cs g cs wx)
  case first =>
    go_wp2_with (first
      | (refine wpList_load_mid rfl 24 _ rfl w.heap.size 0 rfl cs.toList _ K.b.range Tryd.underlying24 rfl (by rw [Array.length_toList, HS.out]; exact Tryd.infoCart) ?_; rw [Array.toArray_toList])
      | (refine wpList_store_mid rfl 24 _ _ rfl _ 0 cs rfl rfl ((Blk.new _ _ _).there _ (by first | exact HS.out.symm | rfl)) (by rw [HS.out]; exact Tryd.infoCart) C.one ?_))
    go_meet
    exact ⟨_, rfl, K.dz HS.out⟩
  case rest =>
  clear K
  obtain ⟨g, rfl, K⟩ := hcut
  have f0 := K.d.free 0
  have c0 := (K.d.cell 0).trans C.h0
  go_upto_region 7 with fail
  go_cut [] (fun wx => Cd w cs g (cs.setIfInBounds 0 (.int .i64 f)) wx)
  case first =>
    go_wp2
    go_meet
    exact K.put 0 _
  case rest =>
  clear K f0 c0
  have K := hcut
  clear hcut
  have E10 : Hid ((cs.setIfInBounds 0 (.int .i64 f))[10]? = some (.int .i64 c.misc)) := by unfold Hid; rw [Array.getElem?_setIfInBounds_ne (by omega)]; exact C.h10
  have DD : Hid (IsC ((cs.setIfInBounds 0 (.int .i64 f)).setIfInBounds 10 (.int .i64 (tmN c f))) (cvD c f)) := C.turn f
  have HDS : Hid (∀ i, 15 ≤ i → ((cs.setIfInBounds 0 (.int .i64 f)).setIfInBounds 10 (.int .i64 (tmN c f)))[i]? = cs[i]?) := fun i hi => by rw [Array.getElem?_setIfInBounds_ne (by omega), Array.getElem?_setIfInBounds_ne (by omega)]
  have S0 : Hid ((cs.setIfInBounds 0 (.int .i64 f)).size = 19) := by unfold Hid; rw [Array.size_setIfInBounds]; exact HS.out
  generalize cs.setIfInBounds 0 (.int .i64 f) = ds0 at *
  have d0 := (K.b.cell 0).trans C.h0
  go_upto_region 8 with fail
  go_cut [36] (fun q wx => q = .bool (decide (c.fmt < 2 ∧ f = 2)) ∧ Cd w cs g ds0 wx)
  case first =>
    by_cases g2 : f = 2
    · have HQ : Hid (decide (c.fmt < 2 ∧ f = 2) = decide (c.fmt < 2)) := by unfold Hid; rw [decide_eq_decide]; exact ⟨fun h => h.1, fun h => ⟨h, g2⟩⟩
      by_cases g1 : c.fmt < 2
      · rw [decide_eq_true g1] at HQ
        subst g2
        go_wp2
        go_meet
        exact ⟨by first | (rw [HQ.out]; done) | (rw [HQ.out]; rfl), K⟩
      · rw [decide_eq_false g1] at HQ
        subst g2
        go_wp2
        go_meet
        exact ⟨by first | (rw [HQ.out]; done) | (rw [HQ.out]; rfl), K⟩
    · have HQ : Hid (decide (c.fmt < 2 ∧ f = 2) = false) := decide_eq_false (fun h => g2 h.2)
      have g2' : (f == 2) = false := by rw [beq_eq_false_iff_ne]; exact g2
      by_cases g1 : c.fmt < 2
      · go_wp2
        go_meet
        exact ⟨by first | (rw [HQ.out]; done) | (rw [HQ.out]; rfl), K⟩
      · go_wp2
        go_meet
        exact ⟨by first | (rw [HQ.out]; done) | (rw [HQ.out]; rfl), K⟩
  case rest =>
  clear K d0
  obtain ⟨rfl, K⟩ := hcut
  obtain ⟨x18, y18, e18, r18⟩ := X.rr
  have d18 := (K.b.cell 18).trans e18
  have c10 := (K.d.cell 10).trans E10.out
  have f10 := K.d.free 10
  have mr := X.c.mr
  go_upto_if 36 with fail
  go_cut [] (fun wx => Cd w cs g (ds0.setIfInBounds 10 (.int .i64 (tm1 c f))) wx)
  case first =>
    by_cases g1 : c.fmt < 2 ∧ f = 2
    · rw [decide_eq_true g1]
      by_cases r0 : c.nr = 0
      · have H : Hid (tm1 c f = 0) := by unfold Hid tm1; rw [if_pos g1, if_pos r0]
        rw [r0] at d18
        clear g1
        go_wp2
        go_meet
        rw [H.out]
        exact K.put 10 _
      · have H : Hid (tm1 c f = 1) := by unfold Hid tm1; rw [if_pos g1, if_neg r0]
        have r1 : (0 : Int) < (c.nr : Int) := by omega
        clear g1
        have K2 := (K.put 10 (.int .i64 0)).put 10 (.int .i64 1)
        rw [set_set] at K2
        go_wp2
        go_meet
        rw [H.out]
        exact K2
    · have H : Hid (tm1 c f = c.misc) := by unfold Hid tm1; rw [if_neg g1]
      rw [decide_eq_false g1]
      clear g1
      go_wp2
      go_meet
      rw [H.out]
      exact K.same E10.out
  case rest =>
  clear K d18 c10 f10 e18 r18 E10
  have K := hcut
  clear hcut
  have d0 := (K.b.cell 0).trans C.h0
  have d10 := (K.b.cell 10).trans C.h10
  go_upto_region 12 with fail
  go_cut [54] (fun q wx => q = .bool (decide (c.fmt = 2 ∧ f < 2 ∧ c.misc = 1)) ∧ Cd w cs g (ds0.setIfInBounds 10 (.int .i64 (tm1 c f))) wx)
  case first =>
    generalize tm1 c f = t1 at *
    by_cases g1 : c.fmt = 2
    · rw [g1] at d0
      by_cases g2 : f < 2
      · by_cases g3 : c.misc = 1
        · have HQ : Hid (decide (c.fmt = 2 ∧ f < 2 ∧ c.misc = 1) = true) := decide_eq_true ⟨g1, g2, g3⟩
          rw [g3] at d10
          go_wp2
          go_meet
          exact ⟨by first | (rw [HQ.out]; done) | (rw [HQ.out]; rfl), K⟩
        · have HQ : Hid (decide (c.fmt = 2 ∧ f < 2 ∧ c.misc = 1) = false) := decide_eq_false (fun h => g3 h.2.2)
          have g3' : (c.misc == 1) = false := by rw [beq_eq_false_iff_ne]; exact g3
          go_wp2
          go_meet
          exact ⟨by first | (rw [HQ.out]; done) | (rw [HQ.out]; rfl), K⟩
      · have HQ : Hid (decide (c.fmt = 2 ∧ f < 2 ∧ c.misc = 1) = false) := decide_eq_false (fun h => g2 h.2.1)
        go_wp2
        go_meet
        exact ⟨by first | (rw [HQ.out]; done) | (rw [HQ.out]; rfl), K⟩
    · have HQ : Hid (decide (c.fmt = 2 ∧ f < 2 ∧ c.misc = 1) = false) := decide_eq_false (fun h => g1 h.1)
      have g1' : (c.fmt == 2) = false := by rw [beq_eq_false_iff_ne]; exact g1
      go_wp2
      go_meet
      exact ⟨by first | (rw [HQ.out]; done) | (rw [HQ.out]; rfl), K⟩
  case rest =>
  clear K d0 d10
  obtain ⟨rfl, K⟩ := hcut
  have f10 := K.d.free 10
  have c10 : wc.cell? ⟨g, 10, none⟩ = some (.int .i64 (tm1 c f)) := (K.d.cell 10).trans (by have := S0.out; simp [this])
  go_upto_if 54 with fail
  go_cut [] (fun wx => Cd w cs g (ds0.setIfInBounds 10 (.int .i64 (tmN c f))) wx)
  case first =>
    by_cases g1 : c.fmt = 2 ∧ f < 2 ∧ c.misc = 1
    · rw [if_pos g1] at HT
      rw [decide_eq_true g1]
      clear g1
      have K2 := K.put 10 (.int .i64 0)
      rw [set_set] at K2
      generalize tm1 c f = t1 at *
      go_wp2
      go_meet
      rw [HT.out]
      exact K2
    · rw [if_neg g1] at HT
      rw [decide_eq_false g1]
      clear g1
      generalize tm1 c f = t1 at *
      go_wp2
      go_meet
      rw [HT.out]
      exact K
  case rest =>
  clear K f10 c10 HT S0
  have K := hcut
  clear hcut
  generalize ds0.setIfInBounds 10 (.int .i64 (tmN c f)) = ds at *
  go_upto_region 14 with fail
  go_cut [7, 8] (fun p q wx => p = .int .i64 (ckE (cvD c f)) ∧ q = .int .i64 (ckN (cvD c f)) ∧ Cd w cs g ds wx)
  case first =>
    go_wp2_with (first
      | (refine wpList_load_mid rfl 24 _ rfl g 0 rfl ds.toList _ K.d.range Tryd.underlying24 rfl (by rw [Array.length_toList, DD.out.size]; exact Tryd.infoCart) ?_; rw [Array.toArray_toList])
      | (go_at_call 14; go_must (refine (CD.out _).mono ?_; rintro e w1 ⟨rfl, hb1⟩)))
    go_meet
    exact ⟨rfl, rfl, K.below hb1⟩
  case rest =>
  clear K CD
  obtain ⟨rfl, rfl, K⟩ := hcut
  by_cases he2 : ckE (cvD c f) ≠ 0
  · have HK : Hid (cvK c f = 2) := by unfold Hid; rw [HB.out, if_pos he2]
    have he' : (ckE (cvD c f) != 0) = true := by simpa using he2
    have H1 : Hid (cvE c f = 16) := by unfold Hid cvE; rw [HK.out]; rfl
    have H2 : Hid (cvN c f = ckN (cvD c f)) := by unfold Hid cvN; rw [HK.out]; rfl
    generalize ckE (cvD c f) = xe at *
    generalize ckN (cvD c f) = xm at *
    go_wp2_with (refine wpList_store_mid rfl 24 _ _ rfl (w.heap.size + 1) 0 Z19 rfl rfl (K.z.there 19 rfl) Tryd.infoCart (by kernel_rfl) ?_)
    refine ret_agg3 Tryd.results7 rfl rfl rfl (K.z.setAll (L := Z19) rfl) Tryd.underlying24 rfl Tryd.infoCart ?_
    exact CvOk.bad 2 HK.out (by decide) _ _ (H1.out) (H2.out) (setCells_below (by omega) _ _ _ _ K.bl)
  have HK : Hid (cvK c f = 3) := by unfold Hid; rw [HB.out, if_neg he2]
  have he2 : ckE (cvD c f) = 0 := Classical.not_not.1 he2
  have HX : Hid (∀ W : World, Below w.heap.size w W → Cl W ds (cvD c f) T P Q R) := fun W hb => cl_of DD.out X (fun i hi => HDS.out i hi) hb
  have CP : Hid (∀ W : World, Below w.heap.size w W → Calls _ _ _ _ _) := fun W hb => rcopied_any ds (cvD c f) T P Q R W (HX.out W hb) (ck_ok he2).2
  rw [he2]
  generalize ckN (cvD c f) = xm at *
  go_upto_region 17 with fail
  go_cut [] (fun wx => ∃ a15 k15 a16 k16 a17 k17 a18 k18, Cd w cs g (lists4 ds (.slice a15 c.nt k15) (.slice a16 c.np k16) (.slice a17 c.nq k17) (.slice a18 c.nr k18)) wx ∧ RowF (g + 1) wx a15 T ∧ RowF (g + 1) wx a16 P ∧ RowF (g + 1) wx a17 Q ∧ RowF (g + 1) wx a18 R)
  case first =>
    go_wp2_with (first
      | (refine wpList_load_mid rfl 24 _ rfl g 0 rfl ds.toList _ K.d.range Tryd.underlying24 rfl (by rw [Array.length_toList, DD.out.size]; exact Tryd.infoCart) ?_; rw [Array.toArray_toList])
      | (go_at_call 15; go_must (refine (CP.out _ K.bl).mono ?_; rintro e w1 ⟨a15, k15, a16, k16, a17, k17, a18, k18, rfl, R15, R16, R17, R18, hb1⟩; have K1 := K.below hb1; have hls := DD.out.lists a15 a16 a17 a18 k15 k16 k17 k18; have HLS : Hid (_ ∧ _) := ⟨hls.size, hls.one⟩; clear hls))
      | (refine wpList_store_mid rfl 24 _ _ rfl g 0 _ rfl rfl (K1.d.there _ (by rw [DD.out.size]; exact HLS.out.1.symm)) (by rw [HLS.out.1]; exact Tryd.infoCart) HLS.out.2 ?_))
    go_meet
    have hg := K.d.lt
    exact ⟨a15, k15, a16, k16, a17, k17, a18, k18, K1.puts (by rw [DD.out.size]; exact HLS.out.1), RowF.puts (by omega) _ _ (R15.mono hg), RowF.puts (by omega) _ _ (R16.mono hg), RowF.puts (by omega) _ _ (R17.mono hg), RowF.puts (by omega) _ _ (R18.mono hg)⟩
  case rest =>
  clear K CP HX
  obtain ⟨a15, k15, a16, k16, a17, k17, a18, k18, K, R15, R16, R17, R18⟩ := hcut
  have K : Cd w cs g (lists4 ds (.slice a15 c.nt k15) (.slice a16 c.np k16) (.slice a17 c.nq k17) (.slice a18 c.nr k18)) _ := K
  have hls : IsC (lists4 ds (.slice a15 c.nt k15) (.slice a16 c.np k16) (.slice a17 c.nq k17) (.slice a18 c.nr k18)) (cvD c f) := DD.out.lists a15 a16 a17 a18 k15 k16 k17 k18
  have HCL : Hid (∀ W' : World, Row W' a15 T → Row W' a16 P → Row W' a17 Q → Row W' a18 R → Cl W' (lists4 ds (.slice a15 c.nt k15) (.slice a16 c.np k16) (.slice a17 c.nq k17) (.slice a18 c.nr k18)) (cvD c f) T P Q R) := fun W' h1 h2 h3 h4 => cl_lists (d := cvD c f) DD.out X.lt X.lp X.lq X.lr a15 a16 a17 a18 k15 k16 k17 k18 h1 h2 h3 h4
  have HLS : Hid (((lists4 ds (.slice a15 c.nt k15) (.slice a16 c.np k16) (.slice a17 c.nq k17) (.slice a18 c.nr k18))).size = 19 ∧ ((lists4 ds (.slice a15 c.nt k15) (.slice a16 c.np k16) (.slice a17 c.nq k17) (.slice a18 c.nr k18))).all (·.oneCell') = true) := ⟨hls.size, hls.one⟩
  clear hls
  generalize (lists4 ds (.slice a15 c.nt k15) (.slice a16 c.np k16) (.slice a17 c.nq k17) (.slice a18 c.nr k18)) = L at *
  go_upto_region 18 with fail
  go_wp2_with (first
    | (refine wpList_load_mid rfl 24 _ rfl g 0 rfl L.toList _ K.d.range Tryd.underlying24 rfl (by rw [Array.length_toList, HLS.out.1]; exact Tryd.infoCart) ?_; rw [Array.toArray_toList])
    | (refine wpList_store_mid rfl 24 _ _ rfl (w.heap.size + 1) 0 L rfl rfl (K.z.there _ (by first | exact HLS.out.1.symm | (rw [HLS.out.1]; rfl))) (by rw [HLS.out.1]; exact Tryd.infoCart) HLS.out.2 ?_))
  have hg := K.hg
  refine ret_agg3 Tryd.results7 rfl rfl rfl (K.z.setAll (L := L) HLS.out.1) Tryd.underlying24 rfl (by rw [HLS.out.1]; exact Tryd.infoCart) ?_
  exact CvOk.good HK.out L (HCL.out _ (RowF.puts (by omega) _ _ R15).row (RowF.puts (by omega) _ _ R16).row (RowF.puts (by omega) _ _ R17).row (RowF.puts (by omega) _ _ R18).row) (setCells_below (by omega) _ _ _ _ K.bl)
end Go.Proofs.YtbopmbalfpnbjaaDoor
