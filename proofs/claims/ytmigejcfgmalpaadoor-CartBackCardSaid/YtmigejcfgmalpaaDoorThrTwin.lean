/-
  What the function twin answers: the cartridge with four new lists of the same bytes; conditions: the cartridge's lists lie in memory.
-/
import Derived.Test.YtmigejcfgmalpaaDoorCnvPre
import Derived.Test.YtmigejcfgmalpaaDoorCopied
set_option linter.unusedSimpArgs false
set_option linter.unusedVariables false
namespace Go.Proofs.YtmigejcfgmalpaaDoor
open Go.RowKit Classical
theorem copied_n (n : Nat) (l : List Nat) (hn : l.length = n) (hl : Bytes l) (hlen : n ≤ 140737488351232) (a : Option Addr) (cap : Nat) (w : World) (hrow : Row w a l) :
    Calls Tryd.prog 16 #[.slice a n cap] w fun e w' => ∃ g, e = .returned (.slice (some ⟨g, 0, none⟩) n n) ∧ w.heap.size ≤ g ∧ Own w' g l ∧ Below w.heap.size w w' := by
  subst hn; exact copied_any l hl hlen a cap w hrow

theorem Own.many {g m : Nat} {l : List Nat} (hn : g ≠ m) : ∀ {w : World}, Own w g l → ∀ (vs : List Value) (o : Nat), Own (w.setCells m o vs) g l
  | _, h, [], _ => h
  | _, h, _ :: vs, o => Own.many hn (h.other hn o _) vs (o + 1)

set_option maxRecDepth 100000 in
set_option maxHeartbeats 1600000 in
theorem twin_any (cs : Array Value) (T P Q R : List Nat) (at' ap aq ar : Option Addr) (nt np nq nr kt kp kq kr : Nat) (w : World)
    (C : CartAt w cs T P Q R at' ap aq ar nt np nq nr kt kp kq kr) :
    Calls Tryd.prog 14 #[.agg cs] w fun e w' => ∃ gt gp gq gr,
      e = .returned (.agg (lists4 cs (.slice (some ⟨gt, 0, none⟩) nt nt) (.slice (some ⟨gp, 0, none⟩) np np) (.slice (some ⟨gq, 0, none⟩) nq nq) (.slice (some ⟨gr, 0, none⟩) nr nr))) ∧
        w.heap.size < gt ∧ gt < gp ∧ gp < gq ∧ gq < gr ∧ Own w' gt T ∧ Own w' gp P ∧ Own w' gq Q ∧ Own w' gr R ∧ Below w.heap.size w w' := by
  have HS : Hid (cs.size = 19) := C.size
  have hsz := C.size
  go_enter Tryd.func14, Tryd.ntmps14
  go_upto_region 1 with fail
  have hb0 : Below w.heap.size w ((w.alloc (.cells cs 24)).alloc (.cells Z19 24)) := ((Below.refl _ _).alloc (Nat.le_refl _) _).alloc (by simp) _
  have b0 : Blk ((w.alloc (.cells cs 24)).alloc (.cells Z19 24)) w.heap.size cs 24 := (Blk.new w cs _).old _
  have z0 : Blk ((w.alloc (.cells cs 24)).alloc (.cells Z19 24)) (w.heap.size + 1) Z19 24 := by
    have := Blk.new (w.alloc (.cells cs 24)) Z19 24
    rwa [World.size_alloc] at this
  generalize ((w.alloc (.cells cs 24)).alloc (.cells Z19 24)) = W0 at *
  have e15 := C.h15
  have e16 := C.h16
  have e17 := C.h17
  have e18 := C.h18
  have HE := Hid.mk4 e15 e16 e17 e18
  clear hsz e15 e16 e17 e18
  have c0 : Hid (cs.size = 19 ∧ cs.all (·.oneCell') = true) := ⟨C.size, C.one⟩
  have d0 : W0.cell? ⟨w.heap.size, 15, none⟩ = some (.slice at' nt kt) := by rw [b0.cell 15]; simpa using HE.out.1
  go_wp2_with fail
  refine (copied_n nt T C.lt C.bt C.mt at' kt W0 (C.rt.below hb0)).mono ?_
  rintro e V1 ⟨gt, rfl, y1, ot0, u1⟩
  have f0 := (b0.below b0.lt u1).free 15
  have d0' := ((b0.below b0.lt u1).cell 15).trans ((b0.cell 15).symm.trans d0)
  go_upto_region 2 with fail
  have hs0 := hb0.size
  have l0 := b0.lt
  have m0 := z0.lt
  have b1 := (b0.below b0.lt u1).set 15 (.slice (some ⟨gt, 0, none⟩) nt nt)
  have z1 := (z0.below z0.lt u1).other (m := w.heap.size) (by omega) 15 (.slice (some ⟨gt, 0, none⟩) nt nt)
  have hb1 := (hb0.trans (u1.mono hs0)).setCell (p := ⟨w.heap.size, 15, none⟩) (Nat.le_refl _) (.slice (some ⟨gt, 0, none⟩) nt nt)
  have ot1 := ot0.other (m := w.heap.size) (by omega) 15 (.slice (some ⟨gt, 0, none⟩) nt nt)
  clear b0 z0 hb0 d0 d0' f0 u1 ot0 
  generalize V1.setCell ⟨w.heap.size, 15, none⟩ (.slice (some ⟨gt, 0, none⟩) nt nt) = W1 at *
  have d1 : W1.cell? ⟨w.heap.size, 16, none⟩ = some (.slice ap np kp) := by rw [b1.cell 16]; simpa using HE.out.2.1
  go_wp2_with fail
  refine (copied_n np P C.lp C.bp C.mp ap kp W1 (C.rp.below hb1)).mono ?_
  rintro e V2 ⟨gp, rfl, y2, op0, u2⟩
  have f1 := (b1.below b1.lt u2).free 16
  have d1' := ((b1.below b1.lt u2).cell 16).trans ((b1.cell 16).symm.trans d1)
  go_upto_region 3 with fail
  have hs1 := hb1.size
  have l1 := b1.lt
  have m1 := z1.lt
  have b2 := (b1.below b1.lt u2).set 16 (.slice (some ⟨gp, 0, none⟩) np np)
  have z2 := (z1.below z1.lt u2).other (m := w.heap.size) (by omega) 16 (.slice (some ⟨gp, 0, none⟩) np np)
  have hb2 := (hb1.trans (u2.mono hs1)).setCell (p := ⟨w.heap.size, 16, none⟩) (Nat.le_refl _) (.slice (some ⟨gp, 0, none⟩) np np)
  have op2 := op0.other (m := w.heap.size) (by omega) 16 (.slice (some ⟨gp, 0, none⟩) np np)
  have ot2 := (ot1.below ot1.lt u2).other (m := w.heap.size) (by have := ot1.lt; omega) 16 (.slice (some ⟨gp, 0, none⟩) np np)
  have qt2 := ot1.lt
  clear b1 z1 hb1 d1 d1' f1 u2 op0 ot1
  generalize V2.setCell ⟨w.heap.size, 16, none⟩ (.slice (some ⟨gp, 0, none⟩) np np) = W2 at *
  have d2 : W2.cell? ⟨w.heap.size, 17, none⟩ = some (.slice aq nq kq) := by rw [b2.cell 17]; simpa using HE.out.2.2.1
  go_wp2_with fail
  refine (copied_n nq Q C.lq C.bq C.mq aq kq W2 (C.rq.below hb2)).mono ?_
  rintro e V3 ⟨gq, rfl, y3, oq0, u3⟩
  have f2 := (b2.below b2.lt u3).free 17
  have d2' := ((b2.below b2.lt u3).cell 17).trans ((b2.cell 17).symm.trans d2)
  go_upto_region 4 with fail
  have hs2 := hb2.size
  have l2 := b2.lt
  have m2 := z2.lt
  have b3 := (b2.below b2.lt u3).set 17 (.slice (some ⟨gq, 0, none⟩) nq nq)
  have z3 := (z2.below z2.lt u3).other (m := w.heap.size) (by omega) 17 (.slice (some ⟨gq, 0, none⟩) nq nq)
  have hb3 := (hb2.trans (u3.mono hs2)).setCell (p := ⟨w.heap.size, 17, none⟩) (Nat.le_refl _) (.slice (some ⟨gq, 0, none⟩) nq nq)
  have oq3 := oq0.other (m := w.heap.size) (by omega) 17 (.slice (some ⟨gq, 0, none⟩) nq nq)
  have ot3 := (ot2.below ot2.lt u3).other (m := w.heap.size) (by have := ot2.lt; omega) 17 (.slice (some ⟨gq, 0, none⟩) nq nq)
  have qt3 := ot2.lt
  have op3 := (op2.below op2.lt u3).other (m := w.heap.size) (by have := op2.lt; omega) 17 (.slice (some ⟨gq, 0, none⟩) nq nq)
  have qp3 := op2.lt
  clear b2 z2 hb2 d2 d2' f2 u3 oq0 ot2 op2
  generalize V3.setCell ⟨w.heap.size, 17, none⟩ (.slice (some ⟨gq, 0, none⟩) nq nq) = W3 at *
  have d3 : W3.cell? ⟨w.heap.size, 18, none⟩ = some (.slice ar nr kr) := by rw [b3.cell 18]; simpa using HE.out.2.2.2
  go_wp2_with fail
  refine (copied_n nr R C.lr C.br C.mr ar kr W3 (C.rr.below hb3)).mono ?_
  rintro e V4 ⟨gr, rfl, y4, or0, u4⟩
  have f3 := (b3.below b3.lt u4).free 18
  have d3' := ((b3.below b3.lt u4).cell 18).trans ((b3.cell 18).symm.trans d3)
  go_upto_region 5 with fail
  have hs3 := hb3.size
  have l3 := b3.lt
  have m3 := z3.lt
  have b4 := (b3.below b3.lt u4).set 18 (.slice (some ⟨gr, 0, none⟩) nr nr)
  have z4 := (z3.below z3.lt u4).other (m := w.heap.size) (by omega) 18 (.slice (some ⟨gr, 0, none⟩) nr nr)
  have hb4 := (hb3.trans (u4.mono hs3)).setCell (p := ⟨w.heap.size, 18, none⟩) (Nat.le_refl _) (.slice (some ⟨gr, 0, none⟩) nr nr)
  have or4 := or0.other (m := w.heap.size) (by omega) 18 (.slice (some ⟨gr, 0, none⟩) nr nr)
  have ot4 := (ot3.below ot3.lt u4).other (m := w.heap.size) (by have := ot3.lt; omega) 18 (.slice (some ⟨gr, 0, none⟩) nr nr)
  have qt4 := ot3.lt
  have op4 := (op3.below op3.lt u4).other (m := w.heap.size) (by have := op3.lt; omega) 18 (.slice (some ⟨gr, 0, none⟩) nr nr)
  have qp4 := op3.lt
  have oq4 := (oq3.below oq3.lt u4).other (m := w.heap.size) (by have := oq3.lt; omega) 18 (.slice (some ⟨gr, 0, none⟩) nr nr)
  have qq4 := oq3.lt
  clear b3 z3 hb3 d3 d3' f3 u4 or0 ot3 op3 oq3
  generalize V4.setCell ⟨w.heap.size, 18, none⟩ (.slice (some ⟨gr, 0, none⟩) nr nr) = W4 at *
  have b5 : Blk W4 w.heap.size (lists4 cs (.slice (some ⟨gt, 0, none⟩) nt nt) (.slice (some ⟨gp, 0, none⟩) np np) (.slice (some ⟨gq, 0, none⟩) nq nq) (.slice (some ⟨gr, 0, none⟩) nr nr)) 24 := b4
  have hls : (lists4 cs (.slice (some ⟨gt, 0, none⟩) nt nt) (.slice (some ⟨gp, 0, none⟩) np np) (.slice (some ⟨gq, 0, none⟩) nq nq) (.slice (some ⟨gr, 0, none⟩) nr nr)).size = 19 := by rw [lists4_size]; exact c0.out.1
  have hone : (lists4 cs (.slice (some ⟨gt, 0, none⟩) nt nt) (.slice (some ⟨gp, 0, none⟩) np np) (.slice (some ⟨gq, 0, none⟩) nq nq) (.slice (some ⟨gr, 0, none⟩) nr nr)).all (·.oneCell') = true := lists4_one c0.out.2 rfl rfl rfl rfl
  have HLS := Hid.mk4 hls hone trivial trivial
  clear hls hone b4
  generalize hL : lists4 cs (.slice (some ⟨gt, 0, none⟩) nt nt) (.slice (some ⟨gp, 0, none⟩) np np) (.slice (some ⟨gq, 0, none⟩) nq nq) (.slice (some ⟨gr, 0, none⟩) nr nr) = L at *
  have HL : Hid _ := hL
  clear hL
  go_wp2_with (first
    | refine wpList_load_mid rfl 24 _ rfl w.heap.size 0 rfl L.toList _ b5.range Tryd.underlying24 rfl (by rw [Array.length_toList, HLS.out.1]; exact Tryd.infoCart) ?_
    | refine wpList_store_mid rfl 24 _ _ rfl (w.heap.size + 1) 0 L rfl rfl (by exact z4.there _ HLS.out.1.symm) (by rw [HLS.out.1]; exact Tryd.infoCart) HLS.out.2.1 ?_)
  have sz4 := hb4.size
  refine bodyPost_ret (v := .agg L) ?_ rfl ⟨gt, gp, gq, gr, by rw [HL.out], by omega, by omega, by omega, by omega, ?_, ?_, ?_, ?_, setCells_below (by omega) _ _ _ _ hb4⟩
  · rw [results_cell Tryd.results14]
    have hr := run_loadVar_mid (P := Tryd.prog) (W4.setCells (w.heap.size + 1) 0 L.toList) (w.heap.size + 1) 0 24 L.toList _ (World.rangeAt_setCells_same W4 (w.heap.size + 1) 0 L.toList (z4.there _ (by rw [Array.length_toList]; exact HLS.out.1.symm))) Tryd.underlying24 rfl (by rw [Array.length_toList, HLS.out.1]; exact Tryd.infoCart)
    simp only [Array.toArray_toList] at hr
    refine Eq.trans (b := ((asAddr (.pointer (some ⟨w.heap.size + 1, 0, none⟩))).run Tryd.prog (W4.setCells (w.heap.size + 1) 0 L.toList)).andThen fun a w₁ => (loadVar 24 a).run Tryd.prog w₁) rfl ?_
    simp only [asAddr, Sem.run_pure, Result.andThen_ok]
    exact hr
  · exact Own.many (by omega) ot4 _ _
  · exact Own.many (by omega) op4 _ _
  · exact Own.many (by omega) oq4 _ _
  · exact Own.many (by omega) or4 _ _
end Go.Proofs.YtmigejcfgmalpaaDoor
