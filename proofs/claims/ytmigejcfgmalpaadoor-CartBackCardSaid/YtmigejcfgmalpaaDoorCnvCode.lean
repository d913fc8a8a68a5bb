/-
  What the program's Convert answers; conditions: the cartridge's lists lie in memory, the tables in their variables.
-/
import Derived.Test.YtmigejcfgmalpaaDoorCnvCode0
set_option linter.unusedSimpArgs false
set_option linter.unusedVariables false
namespace Go.Proofs.YtmigejcfgmalpaaDoor
open Go.RowKit
theorem Tz.cv {w W : World} {cs : Array Value} (T : Tz w) (K : Cv w cs W) : Tz W := T.below K.bl
set_option maxRecDepth 100000 in
set_option maxHeartbeats 1200000 in
theorem convert_any (cs : Array Value) (c : CF) (f : Int) (T P Q R : List Nat) (w : World) (X : Cl w cs c T P Q R) (hpr : -9223372036854775808 ≤ c.pr ∧ c.pr ≤ 9223372036854775807) (hpn : -9223372036854775808 ≤ c.pn ∧ c.pn ≤ 9223372036854775807) (B : Bnd w) (Tt : Tz w) :
    Calls Tryd.prog 7 #[.agg cs, .int .i64 f] w fun e w' => CvOk c f T P Q R w e w' := by
  have C := X.c
  have hsz := C.size
  have HS : Hid (cs.size = 19) := hsz
  go_enter Tryd.func7, Tryd.ntmps7
  go_upto_region 1 with fail
  have K0 : Cv w cs ((w.alloc (.cells cs 24)).alloc (.cells Z19 24)) := Cv.new w cs
  generalize ((w.alloc (.cells cs 24)).alloc (.cells Z19 24)) = W0 at *
  clear hsz
  by_cases hl : f < 0
  · have HK : Hid (cvK c f = 0) := by unfold Hid cvK; rw [if_pos (.inl hl)]
    go_wp2_with (refine wpList_store_mid rfl 24 _ _ rfl (w.heap.size + 1) 0 Z19 rfl rfl (K0.z.there 19 rfl) Tryd.infoCart (by kernel_rfl) ?_)
    refine ret_agg3 Tryd.results7 rfl rfl rfl (K0.z.setAll (L := Z19) rfl) Tryd.underlying24 rfl Tryd.infoCart ?_
    exact CvOk.bad 0 HK.out (by decide) _ _ (by unfold cvE; rw [HK.out]; rfl) (by unfold cvN; rw [HK.out]; rfl) (setCells_below (by omega) _ _ _ _ K0.bl)
  by_cases hh : 2 < f
  · have HK : Hid (cvK c f = 0) := by unfold Hid cvK; rw [if_pos (.inr hh)]
    go_wp2_with (refine wpList_store_mid rfl 24 _ _ rfl (w.heap.size + 1) 0 Z19 rfl rfl (K0.z.there 19 rfl) Tryd.infoCart (by kernel_rfl) ?_)
    refine ret_agg3 Tryd.results7 rfl rfl rfl (K0.z.setAll (L := Z19) rfl) Tryd.underlying24 rfl Tryd.infoCart ?_
    exact CvOk.bad 0 HK.out (by decide) _ _ (by unfold cvE; rw [HK.out]; rfl) (by unfold cvN; rw [HK.out]; rfl) (setCells_below (by omega) _ _ _ _ K0.bl)
  have HB : Hid (cvK c f = if ckE c ≠ 0 then 1 else if ckE (cvD c f) ≠ 0 then 2 else 3) := by unfold Hid cvK; rw [if_neg (by omega)]
  go_upto_region 3 with fail
  have CC : Hid (∀ W : World, Bnd W → Tz W → Calls _ _ _ _ _) := fun W hB hT => check_any cs c C hpr hpn W hB hT
  have CD : Hid (∀ W : World, Bnd W → Tz W → Calls _ _ _ _ _) := fun W hB hT => check_any _ (cvD c f) (C.turn f) hpr hpn W hB hT
  have TC0 : Hid (∀ W : World, Calls _ _ _ _ _) := fun W => turned_any cs c C f W
  go_cut [7, 8] (fun p q wx => p = .int .i64 (ckE c) ∧ q = .int .i64 (ckN c) ∧ Cv w cs wx)
  case first =>
    go_wp2_with (first
      | (refine wpList_load_mid rfl 24 _ rfl w.heap.size 0 rfl cs.toList _ K0.b.range Tryd.underlying24 rfl (by rw [Array.length_toList, HS.out]; exact Tryd.infoCart) ?_; rw [Array.toArray_toList])
      | (go_at_call 22; go_must (refine (CC.out _ (B.below B.lt K0.bl) (Tt.below K0.bl)).mono ?_; rintro e w1 ⟨rfl, hb1⟩)))
    go_meet
    exact ⟨rfl, rfl, K0.below hb1⟩
  case rest =>
  clear K0 CC
  obtain ⟨rfl, rfl, K⟩ := hcut
  by_cases he : ckE c ≠ 0
  · have HK : Hid (cvK c f = 1) := by unfold Hid; rw [HB.out, if_pos he]
    have he' : (ckE c != 0) = true := by simpa using he
    have H1 : Hid (cvE c f = ckE c) := by unfold Hid cvE; rw [HK.out]; rfl
    have H2 : Hid (cvN c f = ckN c) := by unfold Hid cvN; rw [HK.out]; rfl
    generalize ckE c = xe at *
    generalize ckN c = xn at *
    go_wp2_with (refine wpList_store_mid rfl 24 _ _ rfl (w.heap.size + 1) 0 Z19 rfl rfl (K.z.there 19 rfl) Tryd.infoCart (by kernel_rfl) ?_)
    refine ret_agg3 Tryd.results7 rfl rfl rfl (K.z.setAll (L := Z19) rfl) Tryd.underlying24 rfl Tryd.infoCart ?_
    exact CvOk.bad 1 HK.out (by decide) _ _ (H1.out) (H2.out) (setCells_below (by omega) _ _ _ _ K.bl)
  rw [if_neg he] at HB
  have he : ckE c = 0 := Classical.not_not.1 he
  rw [he]
  generalize ckN c = xn at *
  go_upto_region 6 with fail
  go_cut [9] (fun p wx => ∃ g, p = .pointer (some ⟨g, 0, none⟩) ∧ Cd w cs g cs wx)
  case first =>
    go_wp2_with (first
      | (refine wpList_load_mid rfl 24 _ rfl w.heap.size 0 rfl cs.toList _ K.b.range Tryd.underlying24 rfl (by rw [Array.length_toList, HS.out]; exact Tryd.infoCart) ?_; rw [Array.toArray_toList])
      | (refine wpList_store_mid rfl 24 _ _ rfl _ 0 cs rfl rfl ((Blk.new _ _ _).there _ (by first | exact HS.out.symm | rfl)) (by rw [HS.out]; exact Tryd.infoCart) C.one ?_))
    go_meet
    exact ⟨_, rfl, K.dz HS.out⟩
  case rest =>
  clear K
  obtain ⟨g, rfl, K⟩ := hcut
  have f0 := K.d.free 0
  have c0 := (K.d.cell 0).trans C.h0
  go_upto_region 7 with fail
  go_cut [] (fun wx => Cd w cs g (cs.setIfInBounds 0 (.int .i64 f)) wx)
  case first =>
    go_wp2
    go_meet
    exact K.put 0 _
  case rest =>
  clear K f0 c0
  have K := hcut
  clear hcut
  have E10 : Hid ((cs.setIfInBounds 0 (.int .i64 f))[10]? = some (.int .i64 c.misc)) := by unfold Hid; rw [Array.getElem?_setIfInBounds_ne (by omega)]; exact C.h10
  have DD : Hid (IsC ((cs.setIfInBounds 0 (.int .i64 f)).setIfInBounds 10 (.int .i64 (tmN c f))) (cvD c f)) := C.turn f
  generalize cs.setIfInBounds 0 (.int .i64 f) = ds0 at *
  go_upto_region 8 with fail
  go_cut [] (fun wx => Cd w cs g (ds0.setIfInBounds 10 (.int .i64 (tmN c f))) wx)
  case first =>
    generalize tmN c f = tm at *
    go_wp2_with (first
      | (refine wpList_load_mid rfl 24 _ rfl w.heap.size 0 rfl cs.toList _ K.b.range Tryd.underlying24 rfl (by rw [Array.length_toList, HS.out]; exact Tryd.infoCart) ?_; rw [Array.toArray_toList])
      | (go_at_call 23; go_must (refine (TC0.out _).mono ?_; rintro e w1 ⟨rfl, hb1⟩; have K1 := K.below hb1; have f10 := K1.d.free 10; have c10 := (K1.d.cell 10).trans E10.out)))
    go_meet
    exact K1.put 10 _
  case rest =>
  clear K E10 TC0
  have K := hcut
  clear hcut
  generalize ds0.setIfInBounds 10 (.int .i64 (tmN c f)) = ds at *
  go_upto_region 9 with fail
  go_cut [10, 11] (fun p q wx => p = .int .i64 (ckE (cvD c f)) ∧ q = .int .i64 (ckN (cvD c f)) ∧ Cd w cs g ds wx)
  case first =>
    have HE : Hid (∃ xe xn, ckE (cvD c f) = xe ∧ ckN (cvD c f) = xn) := ⟨_, _, rfl, rfl⟩
    go_wp2_with (first
      | (refine wpList_load_mid rfl 24 _ rfl g 0 rfl ds.toList _ K.d.range Tryd.underlying24 rfl (by rw [Array.length_toList, DD.out.size]; exact Tryd.infoCart) ?_; rw [Array.toArray_toList])
      | (go_at_call 22; go_must (refine (CD.out _ (B.below B.lt K.bl) (Tt.below K.bl)).mono ?_; rintro e w1 ⟨rfl, hb1⟩)))
    go_meet
    exact ⟨rfl, rfl, K.below hb1⟩
  case rest =>
  clear K CD
  obtain ⟨rfl, rfl, K⟩ := hcut
  by_cases he2 : ckE (cvD c f) ≠ 0
  · have HK : Hid (cvK c f = 2) := by unfold Hid; rw [HB.out, if_pos he2]
    have he' : (ckE (cvD c f) != 0) = true := by simpa using he2
    have H1 : Hid (cvE c f = 16) := by unfold Hid cvE; rw [HK.out]; rfl
    have H2 : Hid (cvN c f = ckN (cvD c f)) := by unfold Hid cvN; rw [HK.out]; rfl
    generalize ckE (cvD c f) = xe at *
    generalize ckN (cvD c f) = xm at *
    go_wp2_with (refine wpList_store_mid rfl 24 _ _ rfl (w.heap.size + 1) 0 Z19 rfl rfl (K.z.there 19 rfl) Tryd.infoCart (by kernel_rfl) ?_)
    refine ret_agg3 Tryd.results7 rfl rfl rfl (K.z.setAll (L := Z19) rfl) Tryd.underlying24 rfl Tryd.infoCart ?_
    exact CvOk.bad 2 HK.out (by decide) _ _ (H1.out) (H2.out) (setCells_below (by omega) _ _ _ _ K.bl)
  have HK : Hid (cvK c f = 3) := by unfold Hid; rw [HB.out, if_neg he2]
  have he2 : ckE (cvD c f) = 0 := Classical.not_not.1 he2
  rw [he2]
  generalize ckN (cvD c f) = xm at *
  go_upto_region 12 with fail
  obtain ⟨x15, y15, e15, r15⟩ := X.rt
  have d15 := (K.b.cell 15).trans e15
  have CL15 : Hid (∀ W : World, Below w.heap.size w W → Calls _ _ _ _ _) := fun W hb => clone_any c.nt T X.lt X.c.mt x15 y15 W (r15.below hb)
  have O15 : Hid (∃ v, (ds)[15]? = some v) := ⟨_, Array.getElem?_eq_getElem (by have := DD.out.size; first | omega | (simp only [Array.size_setIfInBounds]; omega))⟩
  go_upto_region 12 with fail
  go_cut [] (fun wx => ∃ a k, Cd w cs g ((ds).setIfInBounds 15 (.slice a c.nt k)) wx ∧ RowF (g + 1) wx a T)
  case first =>
    obtain ⟨ov, ho⟩ := O15.out
    go_wp2_with (go_at_call 24; go_must (refine (CL15.out _ K.bl).mono ?_; rintro e w1 ⟨⟨na, nk, rfl, hF⟩, hb1⟩; have K1 := K.below hb1; have ff := K1.d.free 15; have cc := (K1.d.cell 15).trans ho))
    go_meet
    exact ⟨na, nk, K1.put 15 _, (hF.mono K.d.lt).put (by omega) 15 _⟩
  case rest =>
  clear K d15 CL15 O15 e15 r15
  obtain ⟨a15, k15, K, R15⟩ := hcut
  obtain ⟨x16, y16, e16, r16⟩ := X.rp
  have d16 := (K.b.cell 16).trans e16
  have CL16 : Hid (∀ W : World, Below w.heap.size w W → Calls _ _ _ _ _) := fun W hb => clone_any c.np P X.lp X.c.mp x16 y16 W (r16.below hb)
  have O16 : Hid (∃ v, ((ds).setIfInBounds 15 (.slice a15 c.nt k15))[16]? = some v) := ⟨_, Array.getElem?_eq_getElem (by have := DD.out.size; first | omega | (simp only [Array.size_setIfInBounds]; omega))⟩
  go_upto_region 13 with fail
  go_cut [] (fun wx => ∃ a k, Cd w cs g (((ds).setIfInBounds 15 (.slice a15 c.nt k15)).setIfInBounds 16 (.slice a c.np k)) wx ∧ RowF (g + 1) wx a P ∧ RowF (g + 1) wx a15 T)
  case first =>
    obtain ⟨ov, ho⟩ := O16.out
    go_wp2_with (go_at_call 24; go_must (refine (CL16.out _ K.bl).mono ?_; rintro e w1 ⟨⟨na, nk, rfl, hF⟩, hb1⟩; have K1 := K.below hb1; have ff := K1.d.free 16; have cc := (K1.d.cell 16).trans ho))
    go_meet
    exact ⟨na, nk, K1.put 16 _, (hF.mono K.d.lt).put (by omega) 16 _, (R15.below hb1).put (by omega) 16 _⟩
  case rest =>
  clear K d16 CL16 O16 e16 r16 R15
  obtain ⟨a16, k16, K, R16, R15⟩ := hcut
  obtain ⟨x17, y17, e17, r17⟩ := X.rq
  have d17 := (K.b.cell 17).trans e17
  have CL17 : Hid (∀ W : World, Below w.heap.size w W → Calls _ _ _ _ _) := fun W hb => clone_any c.nq Q X.lq X.c.mq x17 y17 W (r17.below hb)
  have O17 : Hid (∃ v, (((ds).setIfInBounds 15 (.slice a15 c.nt k15)).setIfInBounds 16 (.slice a16 c.np k16))[17]? = some v) := ⟨_, Array.getElem?_eq_getElem (by have := DD.out.size; first | omega | (simp only [Array.size_setIfInBounds]; omega))⟩
  go_upto_region 14 with fail
  go_cut [] (fun wx => ∃ a k, Cd w cs g ((((ds).setIfInBounds 15 (.slice a15 c.nt k15)).setIfInBounds 16 (.slice a16 c.np k16)).setIfInBounds 17 (.slice a c.nq k)) wx ∧ RowF (g + 1) wx a Q ∧ RowF (g + 1) wx a15 T ∧ RowF (g + 1) wx a16 P)
  case first =>
    obtain ⟨ov, ho⟩ := O17.out
    go_wp2_with (go_at_call 24; go_must (refine (CL17.out _ K.bl).mono ?_; rintro e w1 ⟨⟨na, nk, rfl, hF⟩, hb1⟩; have K1 := K.below hb1; have ff := K1.d.free 17; have cc := (K1.d.cell 17).trans ho))
    go_meet
    exact ⟨na, nk, K1.put 17 _, (hF.mono K.d.lt).put (by omega) 17 _, (R15.below hb1).put (by omega) 17 _, (R16.below hb1).put (by omega) 17 _⟩
  case rest =>
  clear K d17 CL17 O17 e17 r17 R15 R16
  obtain ⟨a17, k17, K, R17, R15, R16⟩ := hcut
  obtain ⟨x18, y18, e18, r18⟩ := X.rr
  have d18 := (K.b.cell 18).trans e18
  have CL18 : Hid (∀ W : World, Below w.heap.size w W → Calls _ _ _ _ _) := fun W hb => clone_any c.nr R X.lr X.c.mr x18 y18 W (r18.below hb)
  have O18 : Hid (∃ v, ((((ds).setIfInBounds 15 (.slice a15 c.nt k15)).setIfInBounds 16 (.slice a16 c.np k16)).setIfInBounds 17 (.slice a17 c.nq k17))[18]? = some v) := ⟨_, Array.getElem?_eq_getElem (by have := DD.out.size; first | omega | (simp only [Array.size_setIfInBounds]; omega))⟩
  go_upto_region 15 with fail
  go_cut [] (fun wx => ∃ a k, Cd w cs g (((((ds).setIfInBounds 15 (.slice a15 c.nt k15)).setIfInBounds 16 (.slice a16 c.np k16)).setIfInBounds 17 (.slice a17 c.nq k17)).setIfInBounds 18 (.slice a c.nr k)) wx ∧ RowF (g + 1) wx a R ∧ RowF (g + 1) wx a15 T ∧ RowF (g + 1) wx a16 P ∧ RowF (g + 1) wx a17 Q)
  case first =>
    obtain ⟨ov, ho⟩ := O18.out
    go_wp2_with (go_at_call 24; go_must (refine (CL18.out _ K.bl).mono ?_; rintro e w1 ⟨⟨na, nk, rfl, hF⟩, hb1⟩; have K1 := K.below hb1; have ff := K1.d.free 18; have cc := (K1.d.cell 18).trans ho))
    go_meet
    exact ⟨na, nk, K1.put 18 _, (hF.mono K.d.lt).put (by omega) 18 _, (R15.below hb1).put (by omega) 18 _, (R16.below hb1).put (by omega) 18 _, (R17.below hb1).put (by omega) 18 _⟩
  case rest =>
  clear K d18 CL18 O18 e18 r18 R15 R16 R17
  obtain ⟨a18, k18, K, R18, R15, R16, R17⟩ := hcut
  have K : Cd w cs g (lists4 ds (.slice a15 c.nt k15) (.slice a16 c.np k16) (.slice a17 c.nq k17) (.slice a18 c.nr k18)) _ := K
  have hls : IsC (lists4 ds (.slice a15 c.nt k15) (.slice a16 c.np k16) (.slice a17 c.nq k17) (.slice a18 c.nr k18)) (cvD c f) := DD.out.lists a15 a16 a17 a18 k15 k16 k17 k18
  have HCL : Hid (∀ W' : World, Row W' a15 T → Row W' a16 P → Row W' a17 Q → Row W' a18 R → Cl W' (lists4 ds (.slice a15 c.nt k15) (.slice a16 c.np k16) (.slice a17 c.nq k17) (.slice a18 c.nr k18)) (cvD c f) T P Q R) := fun W' h1 h2 h3 h4 => cl_lists (d := cvD c f) DD.out X.lt X.lp X.lq X.lr a15 a16 a17 a18 k15 k16 k17 k18 h1 h2 h3 h4
  have HLS : Hid (((lists4 ds (.slice a15 c.nt k15) (.slice a16 c.np k16) (.slice a17 c.nq k17) (.slice a18 c.nr k18))).size = 19 ∧ ((lists4 ds (.slice a15 c.nt k15) (.slice a16 c.np k16) (.slice a17 c.nq k17) (.slice a18 c.nr k18))).all (·.oneCell') = true) := ⟨hls.size, hls.one⟩
  clear hls
  generalize (lists4 ds (.slice a15 c.nt k15) (.slice a16 c.np k16) (.slice a17 c.nq k17) (.slice a18 c.nr k18)) = L at *
  go_upto_region 16 with fail
  go_wp2_with (first
    | (refine wpList_load_mid rfl 24 _ rfl g 0 rfl L.toList _ K.d.range Tryd.underlying24 rfl (by rw [Array.length_toList, HLS.out.1]; exact Tryd.infoCart) ?_; rw [Array.toArray_toList])
    | (refine wpList_store_mid rfl 24 _ _ rfl (w.heap.size + 1) 0 L rfl rfl (K.z.there _ (by first | exact HLS.out.1.symm | (rw [HLS.out.1]; rfl))) (by rw [HLS.out.1]; exact Tryd.infoCart) HLS.out.2 ?_))
  have hg := K.hg
  refine ret_agg3 Tryd.results7 rfl rfl rfl (K.z.setAll (L := L) HLS.out.1) Tryd.underlying24 rfl (by rw [HLS.out.1]; exact Tryd.infoCart) ?_
  exact CvOk.good HK.out L (HCL.out _ (RowF.puts (by omega) _ _ R15).row (RowF.puts (by omega) _ _ R16).row (RowF.puts (by omega) _ _ R17).row (RowF.puts (by omega) _ _ R18).row) (setCells_below (by omega) _ _ _ _ K.bl)
end Go.Proofs.YtmigejcfgmalpaaDoor
