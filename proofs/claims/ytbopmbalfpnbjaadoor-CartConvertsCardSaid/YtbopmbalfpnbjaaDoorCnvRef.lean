/-
  What the document's copied and Convert answer; conditions: the cartridge's lists lie in memory.
-/
import Derived.Test.YtbopmbalfpnbjaaDoorCnvCode0
set_option linter.unusedSimpArgs false
set_option linter.unusedVariables false
namespace Go.Proofs.YtbopmbalfpnbjaaDoor
open Go.RowKit
theorem ck_ok {c : CF} (h : ckE c = 0) : (c.fmt = 0 ∨ c.fmt = 1 ∨ c.fmt = 2) ∧ Chk.imageLen c ≤ 2097152 := by
  unfold ckE at h
  by_cases h0 : 0 ≤ Chk.wrong c
  · rw [if_pos h0] at h; omega
  · rw [if_neg h0] at h
    refine ⟨?_, ?_⟩
    · by_cases hw : Chk.within c.fmt 2 = true
      · unfold Chk.within at hw; simp at hw; omega
      · exfalso; apply h0; unfold Chk.wrong; rw [if_neg hw]; decide
    · by_cases h1 : 2097152 < Chk.imageLen c
      · rw [if_pos h1] at h; omega
      · omega
theorem Cv.put {w W : World} {cs : Array Value} (K : Cv w cs W) (i : Nat) (v : Value) : Cv w (cs.setIfInBounds i v) (W.setCell ⟨w.heap.size, i, none⟩ v) :=
  ⟨K.b.set i v, K.z.other (by omega) i v, K.bl.setCell (p := ⟨w.heap.size, i, none⟩) (Nat.le_refl _) v⟩
/-- What copied is to answer. -/
def CopOk (cs : Array Value) (d : CF) (T P Q R : List Nat) (w : World) (e : Ending) (w' : World) : Prop :=
  ∃ a15 k15 a16 k16 a17 k17 a18 k18, e = .returned (.agg (lists4 cs (.slice a15 d.nt k15) (.slice a16 d.np k16) (.slice a17 d.nq k17) (.slice a18 d.nr k18))) ∧ RowF w.heap.size w' a15 T ∧ RowF w.heap.size w' a16 P ∧ RowF w.heap.size w' a17 Q ∧ RowF w.heap.size w' a18 R ∧ Below w.heap.size w w'
set_option maxRecDepth 100000 in
set_option maxHeartbeats 1200000 in
theorem rcopied_any (cs : Array Value) (c : CF) (T P Q R : List Nat) (w : World) (X : Cl w cs c T P Q R) (hi : Chk.imageLen c ≤ 2097152) :
    Calls Tryd.prog 15 #[.agg cs] w fun e w' => CopOk cs c T P Q R w e w' := by
  have C := X.c
  have hsz := C.size
  have DD : Hid (IsC cs c) := C
  have HI : Hid (c.nt ≤ 2097152 ∧ c.np ≤ 2097152 ∧ c.nq ≤ 2097152 ∧ c.nr ≤ 2097152) := by unfold Hid; unfold Chk.imageLen at hi; omega
  go_enter Tryd.func15, Tryd.ntmps15
  go_upto_region 1 with fail
  have K : Cv w cs ((w.alloc (.cells cs 24)).alloc (.cells Z19 24)) := Cv.new w cs
  generalize ((w.alloc (.cells cs 24)).alloc (.cells Z19 24)) = W0 at *
  clear hsz hi
  obtain ⟨x15, y15, e15, r15⟩ := X.rt
  have E15 : Hid ((cs)[15]? = some (.slice x15 c.nt y15)) := by unfold Hid; exact e15
  have d15 := (K.b.cell 15).trans E15.out
  have CL15 : Hid (∀ W : World, Below w.heap.size w W → Calls _ _ _ _ _) := fun W hb => piece_any c.nt T X.lt (by have := HI.out; omega) x15 y15 W (r15.below hb)
  have m15 := X.c.mt
  go_upto_region 1 with fail
  go_cut [] (fun wx => ∃ a k, Cv w ((cs).setIfInBounds 15 (.slice a c.nt k)) wx ∧ RowF (w.heap.size + 2) wx a T)
  case first =>
    go_wp2_with (go_at_call 23; go_must (refine (CL15.out _ K.bl).mono ?_; rintro e w1 ⟨⟨na, nk, rfl, hF⟩, hb1⟩; have K1 := K.below hb1; have ff := K1.b.free 15; have cc := (K1.b.cell 15).trans E15.out))
    go_meet
    exact ⟨na, nk, K1.put 15 _, (hF.mono K.z.lt).put (by omega) 15 _⟩
  case rest =>
  clear K d15 CL15 E15 e15 r15 m15
  obtain ⟨a15, k15, K, R15⟩ := hcut
  obtain ⟨x16, y16, e16, r16⟩ := X.rp
  have E16 : Hid (((cs).setIfInBounds 15 (.slice a15 c.nt k15))[16]? = some (.slice x16 c.np y16)) := by unfold Hid; rw [Array.getElem?_setIfInBounds_ne (by omega)]; exact e16
  have d16 := (K.b.cell 16).trans E16.out
  have CL16 : Hid (∀ W : World, Below w.heap.size w W → Calls _ _ _ _ _) := fun W hb => piece_any c.np P X.lp (by have := HI.out; omega) x16 y16 W (r16.below hb)
  have m16 := X.c.mp
  go_upto_region 2 with fail
  go_cut [] (fun wx => ∃ a k, Cv w (((cs).setIfInBounds 15 (.slice a15 c.nt k15)).setIfInBounds 16 (.slice a c.np k)) wx ∧ RowF (w.heap.size + 2) wx a P ∧ RowF (w.heap.size + 2) wx a15 T)
  case first =>
    go_wp2_with (go_at_call 23; go_must (refine (CL16.out _ K.bl).mono ?_; rintro e w1 ⟨⟨na, nk, rfl, hF⟩, hb1⟩; have K1 := K.below hb1; have ff := K1.b.free 16; have cc := (K1.b.cell 16).trans E16.out))
    go_meet
    exact ⟨na, nk, K1.put 16 _, (hF.mono K.z.lt).put (by omega) 16 _, (R15.below hb1).put (by omega) 16 _⟩
  case rest =>
  clear K d16 CL16 E16 e16 r16 m16 R15
  obtain ⟨a16, k16, K, R16, R15⟩ := hcut
  obtain ⟨x17, y17, e17, r17⟩ := X.rq
  have E17 : Hid ((((cs).setIfInBounds 15 (.slice a15 c.nt k15)).setIfInBounds 16 (.slice a16 c.np k16))[17]? = some (.slice x17 c.nq y17)) := by unfold Hid; rw [Array.getElem?_setIfInBounds_ne (by omega), Array.getElem?_setIfInBounds_ne (by omega)]; exact e17
  have d17 := (K.b.cell 17).trans E17.out
  have CL17 : Hid (∀ W : World, Below w.heap.size w W → Calls _ _ _ _ _) := fun W hb => piece_any c.nq Q X.lq (by have := HI.out; omega) x17 y17 W (r17.below hb)
  have m17 := X.c.mq
  go_upto_region 3 with fail
  go_cut [] (fun wx => ∃ a k, Cv w ((((cs).setIfInBounds 15 (.slice a15 c.nt k15)).setIfInBounds 16 (.slice a16 c.np k16)).setIfInBounds 17 (.slice a c.nq k)) wx ∧ RowF (w.heap.size + 2) wx a Q ∧ RowF (w.heap.size + 2) wx a15 T ∧ RowF (w.heap.size + 2) wx a16 P)
  case first =>
    go_wp2_with (go_at_call 23; go_must (refine (CL17.out _ K.bl).mono ?_; rintro e w1 ⟨⟨na, nk, rfl, hF⟩, hb1⟩; have K1 := K.below hb1; have ff := K1.b.free 17; have cc := (K1.b.cell 17).trans E17.out))
    go_meet
    exact ⟨na, nk, K1.put 17 _, (hF.mono K.z.lt).put (by omega) 17 _, (R15.below hb1).put (by omega) 17 _, (R16.below hb1).put (by omega) 17 _⟩
  case rest =>
  clear K d17 CL17 E17 e17 r17 m17 R15 R16
  obtain ⟨a17, k17, K, R17, R15, R16⟩ := hcut
  obtain ⟨x18, y18, e18, r18⟩ := X.rr
  have E18 : Hid (((((cs).setIfInBounds 15 (.slice a15 c.nt k15)).setIfInBounds 16 (.slice a16 c.np k16)).setIfInBounds 17 (.slice a17 c.nq k17))[18]? = some (.slice x18 c.nr y18)) := by unfold Hid; rw [Array.getElem?_setIfInBounds_ne (by omega), Array.getElem?_setIfInBounds_ne (by omega), Array.getElem?_setIfInBounds_ne (by omega)]; exact e18
  have d18 := (K.b.cell 18).trans E18.out
  have CL18 : Hid (∀ W : World, Below w.heap.size w W → Calls _ _ _ _ _) := fun W hb => piece_any c.nr R X.lr (by have := HI.out; omega) x18 y18 W (r18.below hb)
  have m18 := X.c.mr
  go_upto_region 4 with fail
  go_cut [] (fun wx => ∃ a k, Cv w (((((cs).setIfInBounds 15 (.slice a15 c.nt k15)).setIfInBounds 16 (.slice a16 c.np k16)).setIfInBounds 17 (.slice a17 c.nq k17)).setIfInBounds 18 (.slice a c.nr k)) wx ∧ RowF (w.heap.size + 2) wx a R ∧ RowF (w.heap.size + 2) wx a15 T ∧ RowF (w.heap.size + 2) wx a16 P ∧ RowF (w.heap.size + 2) wx a17 Q)
  case first =>
    go_wp2_with (go_at_call 23; go_must (refine (CL18.out _ K.bl).mono ?_; rintro e w1 ⟨⟨na, nk, rfl, hF⟩, hb1⟩; have K1 := K.below hb1; have ff := K1.b.free 18; have cc := (K1.b.cell 18).trans E18.out))
    go_meet
    exact ⟨na, nk, K1.put 18 _, (hF.mono K.z.lt).put (by omega) 18 _, (R15.below hb1).put (by omega) 18 _, (R16.below hb1).put (by omega) 18 _, (R17.below hb1).put (by omega) 18 _⟩
  case rest =>
  clear K d18 CL18 E18 e18 r18 m18 R15 R16 R17
  obtain ⟨a18, k18, K, R18, R15, R16, R17⟩ := hcut
  have K : Cv w (lists4 cs (.slice a15 c.nt k15) (.slice a16 c.np k16) (.slice a17 c.nq k17) (.slice a18 c.nr k18)) _ := K
  have hls := DD.out.lists a15 a16 a17 a18 k15 k16 k17 k18
  have HLS : Hid ((lists4 cs (.slice a15 c.nt k15) (.slice a16 c.np k16) (.slice a17 c.nq k17) (.slice a18 c.nr k18)).size = 19 ∧ (lists4 cs (.slice a15 c.nt k15) (.slice a16 c.np k16) (.slice a17 c.nq k17) (.slice a18 c.nr k18)).all (·.oneCell') = true) := ⟨hls.size, hls.one⟩
  clear hls
  generalize hL : lists4 cs (.slice a15 c.nt k15) (.slice a16 c.np k16) (.slice a17 c.nq k17) (.slice a18 c.nr k18) = L at *
  have HL : Hid _ := hL
  clear hL
  go_upto_region 5 with fail
  go_wp2_with (first
    | (refine wpList_load_mid rfl 24 _ rfl w.heap.size 0 rfl L.toList _ K.b.range Tryd.underlying24 rfl (by rw [Array.length_toList, HLS.out.1]; exact Tryd.infoCart) ?_; rw [Array.toArray_toList])
    | (refine wpList_store_mid rfl 24 _ _ rfl (w.heap.size + 1) 0 L rfl rfl (K.z.there _ (by first | exact HLS.out.1.symm | (rw [HLS.out.1]; rfl))) (by rw [HLS.out.1]; exact Tryd.infoCart) HLS.out.2 ?_))
  have Z : Blk _ (w.heap.size + 1) L 24 := K.z.setAll (L := L) HLS.out.1
  refine bodyPost_ret (v := .agg L) ?_ rfl ⟨a15, k15, a16, k16, a17, k17, a18, k18, by rw [HL.out], (RowF.puts (by omega) _ _ R15).mono (by omega), (RowF.puts (by omega) _ _ R16).mono (by omega), (RowF.puts (by omega) _ _ R17).mono (by omega), (RowF.puts (by omega) _ _ R18).mono (by omega), setCells_below (by omega) _ _ _ _ K.bl⟩
  rw [results_cell Tryd.results15]
  have hr := run_loadVar_mid (P := Tryd.prog) _ (w.heap.size + 1) 0 24 L.toList _ Z.range Tryd.underlying24 rfl (by rw [Array.length_toList, HLS.out.1]; exact Tryd.infoCart)
  simp only [Array.toArray_toList] at hr
  refine Eq.trans (b := ((asAddr (.pointer (some ⟨w.heap.size + 1, 0, none⟩))).run Tryd.prog _).andThen fun a w₁ => (loadVar 24 a).run Tryd.prog w₁) rfl ?_
  simp only [asAddr, Sem.run_pure, Result.andThen_ok]
  exact hr
end Go.Proofs.YtbopmbalfpnbjaaDoor
