/-
  The law CartSame returns true of every cartridge and every three numbers; conditions: the cartridge's numbers are ints, its trainer is a list, the table of sixteen words lies in its variable.
-/
import Derived.Test.YtfmionfbknadiaaDoorWhole
import Derived.Laws.AppendOwnNone
namespace Go.Proofs.YtfmionfbknadiaaDoor
open Go.RowKit
theorem crc_n' (n : Nat) (l : List Nat) (hn : l.length = n) (hl : Bytes l) (hlen : n ≤ 140737488351232) (a : Option Addr) (cap : Nat) (w : World) (hrow : Row w a l) (tab : Tab w) :
    Calls Tryd.prog 6 #[.slice a n cap] w fun e w' => e = .returned (.int .u32 (crc l : Nat)) ∧ w' = w := crc_n n l hn hl hlen a cap w hrow tab
/-- All cells of a block stored anew. -/
theorem Blk.kept {b : Nat} {t : TypeId} : ∀ (vs : List Value) (o : Nat) {w : World} {cs : Array Value}, Blk w b cs t → ∃ cs', Blk (w.setCells b o vs) b cs' t ∧ cs'.size = cs.size
  | [], _, _, cs, h => ⟨cs, h, rfl⟩
  | v :: vs, o, _, _, h => by
    obtain ⟨cs', h1, h2⟩ := Blk.kept vs (o + 1) (h.set o v)
    exact ⟨cs', h1, by simpa using h2⟩
theorem Blk.all {w : World} {b : Nat} {cs ds : Array Value} {t : TypeId} (h : Blk w b cs t) (hs : ds.size = cs.size) : Blk (w.setCells b 0 ds.toList) b ds t := by
  obtain ⟨cs', h1, h2⟩ := Blk.kept ds.toList 0 h
  have hr := World.rangeAt_setCells_same w b 0 ds.toList (h.there _ (by simpa using hs.symm))
  have e : cs' = ds := by
    apply Array.ext (by omega)
    intro j hj1 hj2
    have := hr j ds[j] (by simp)
    rw [Nat.zero_add, h1.cell j, Array.getElem?_eq_getElem hj1] at this
    exact Option.some.inj this
  rw [← e]; rw [e] at h1 ⊢; exact h1
theorem Blk.far {b m : Nat} {cs : Array Value} {t : TypeId} (hn : b ≠ m) : ∀ (vs : List Value) (o : Nat) {w : World}, Blk w b cs t → Blk (w.setCells m o vs) b cs t
  | [], _, _, h => h
  | v :: vs, o, _, h => Blk.far hn vs (o + 1) (h.other hn o v)
theorem vals_one (l : List Nat) : ∀ u ∈ vals l, u.oneCell' = true := by
  intro u hu
  simp only [vals, List.mem_map] at hu
  obtain ⟨n, _, rfl⟩ := hu
  rfl
theorem news_of {w : World} {ad : Addr} {l : List Nat} (h : Row w (some ad) l) : ∀ j u, (vals l)[j]? = some u → w.cell? (ad.add j) = some u := by
  intro j u hu
  have hj : j < l.length := by
    have := (List.getElem?_eq_some_iff.1 hu).1
    simpa [vals] using this
  rcases h with h | ⟨b, off, e, hc⟩
  · subst h; simp at hj
  · injection e with e
    subst e
    rw [Addr.add_lit, hc j hj, ← hu]
    simp [vals, hj]
theorem row_of {w : World} {base n : Nat} {v : Value} {xs : List Value} (l : List Nat) (hx : xs = vals l) (h : w.ownsRow base 5 1 v n xs) : ∃ a cap, v = .slice a n cap ∧ Row w a l := by
  obtain ⟨hlen, h⟩ := h
  rcases h with ⟨rfl, rfl⟩ | ⟨g, cap, cur, rfl, _, hh, hn, _, hs, ht⟩
  · refine ⟨none, 0, rfl, .inl ?_⟩
    rw [hx] at hlen
    simpa [vals] using hlen
  · refine ⟨_, cap, rfl, .inr ⟨g, 0, rfl, fun i hi => ?_⟩⟩
    rw [Nat.zero_add, cell_of_row w g i cur _ (0, 0) hh]
    have hl : l.length = n := by rw [hx] at hlen; simpa [vals] using hlen
    have e : cur.toList.take n = vals l := by rw [← hx, ← ht, Nat.mul_one]
    have e2 : (cur.toList.take n)[i]? = some (.int .u8 (l.getD i 0 : Nat)) := by rw [e]; simp [vals, hi]
    rw [List.getElem?_take, if_pos (by omega)] at e2
    simpa using e2
theorem crc_turn (X : List Nat) (hX : Bytes X) (m y : Nat) (hm : m < X.length) (hy : y < 256) (h0 : y ≠ X.getD m 0) : crc (X.set m y) ≠ crc X := by
  intro h
  have h := CrcM.xor_inj_left h
  have hx := bytes_at hX m
  have e2 : X = X.take m ++ X.getD m 0 :: X.drop (m + 1) := by
    have := List.take_append_drop m X
    rw [List.drop_eq_getElem_cons hm] at this
    rw [show X.getD m 0 = X[m] by simp [hm]]
    exact this.symm
  rw [List.set_eq_take_append_cons_drop, if_pos hm] at h
  have e3 : CrcM.feed 4294967295 X = CrcM.feed 4294967295 (X.take m ++ X.getD m 0 :: X.drop (m + 1)) := by rw [← e2]
  rw [e3] at h
  exact CrcM.feed_turn (X.take m) (X.drop (m + 1)) _ _ (bytes_take hX m) (fun x hx => hX x (List.mem_of_mem_drop hx)) hy hx h0 4294967295 (by decide) h

set_option maxRecDepth 100000 in
set_option maxHeartbeats 6400000 in
theorem same_law (cs : Array Value) (tn : Nat) (p q fill : Int) (w : World) (S : Shape cs) (h15 : Sl cs 15 tn)
    (p1 : -9223372036854775808 ≤ p) (p2 : p ≤ 9223372036854775807) (q1 : -9223372036854775808 ≤ q) (q2 : q ≤ 9223372036854775807) (f1 : -9223372036854775808 ≤ fill) (f2 : fill ≤ 9223372036854775807) (tab : Tab w) :
    Calls Tryd.prog 4 #[.agg cs, .int .i64 p, .int .i64 q, .int .i64 fill] w fun e w' => e = .returned (.bool true) ∧ Below w.heap.size w w' := by
  have HS : Hid (cs.size = 19) := S.size
  have hsz := S.size
  go_enter Tryd.func4, Tryd.ntmps4
  go_upto_region 1 with fail
  have hb0 : Below w.heap.size w (w.alloc (.cells cs 29)) := (Below.refl _ _).alloc (Nat.le_refl _) _
  have b0 : Blk (w.alloc (.cells cs 29)) w.heap.size cs 29 := Blk.new w cs _
  generalize w.alloc (.cells cs 29) = W0 at *
  clear hsz
  go_wp2_with (refine wpList_load_mid rfl 29 _ rfl w.heap.size 0 rfl cs.toList _ b0.range Tryd.underlying29 rfl (by rw [Array.length_toList, HS.out]; exact Tryd.infoCart) ?_)
  refine (whole_any cs tn p q fill W0 S h15 p1 p2 q1 q2 f1 f2).mono ?_
  rintro e W1 ⟨ds, T, P, Q, R, rfl, Sd, hP, LT, LP, LQ, LR, hQl, hPl, nk, hb1⟩
  clear p1 p2 q1 q2 f1 f2
  have l0 := b0.lt
  have s0 := hb0.size
  have hbw1 : Below w.heap.size w W1 := hb0.trans (hb1.mono s0)
  have b1 := b0.below b0.lt hb1
  have HD : Hid (ds.size = 19) := Sd.size
  go_upto_region 2 with (refine wpList_store_mid rfl 29 _ _ rfl w.heap.size 0 ds rfl rfl (by exact b1.there _ (by rw [HD.out]; exact HS.out)) (by rw [HD.out]; exact Tryd.infoCart) Sd.one ?_)
  have b2 := b1.all (ds := ds) (by rw [HD.out]; exact HS.out.symm)
  have hbw2 : Below w.heap.size w (W1.setCells w.heap.size 0 ds.toList) := setCells_below (Nat.le_refl _) _ _ _ _ hbw1
  have LT2 := LT.far w.heap.size (by omega) ds.toList 0
  have LP2 := LP.far w.heap.size (by omega) ds.toList 0
  have LQ2 := LQ.far w.heap.size (by omega) ds.toList 0
  have LR2 := LR.far w.heap.size (by omega) ds.toList 0
  clear LT LP LQ LR b0 b1 hb0 hb1 hbw1
  generalize W1.setCells w.heap.size 0 ds.toList = W2 at *
  generalize W0.heap.size = B0 at *
  obtain ⟨at', kt, e15, mt, bt, rt⟩ := LT2.row
  obtain ⟨ap, kp, e16, mp, bp, rp⟩ := LP2.row
  obtain ⟨aq, kq, e17, mq, bq, rq⟩ := LQ2.row
  obtain ⟨ar, kr, e18, mr, br, rr⟩ := LR2.row
  have C : CartAt W2 ds T P Q R at' ap aq ar T.length P.length Q.length R.length kt kp kq kr := ⟨Sd.size, Sd.one, rfl, rfl, rfl, rfl, bt, bp, bq, br, mt, mp, mq, mr, e15, e16, e17, e18, rt, rp, rq, rr⟩
  clear e15 e16 e17 e18 LT2 LR2 rt rr
  go_wp2_with (refine wpList_load_mid rfl 29 _ rfl w.heap.size 0 rfl ds.toList _ b2.range Tryd.underlying29 rfl (by rw [Array.length_toList, HD.out]; exact Tryd.infoCart) ?_)
  refine (twin_any ds T P Q R at' ap aq ar T.length P.length Q.length R.length kt kp kq kr W2 C).mono ?_
  rintro e W3 ⟨gt, gp, gq, gr, rfl, z1, z2, z3, z4, ot, op, oq, or, hb3⟩
  have se : (lists4 ds (.slice (some ⟨gt, 0, none⟩) T.length T.length) (.slice (some ⟨gp, 0, none⟩) P.length P.length) (.slice (some ⟨gq, 0, none⟩) Q.length Q.length) (.slice (some ⟨gr, 0, none⟩) R.length R.length)).size = 19 := by rw [lists4_size]; exact HD.out
  have oe : (lists4 ds (.slice (some ⟨gt, 0, none⟩) T.length T.length) (.slice (some ⟨gp, 0, none⟩) P.length P.length) (.slice (some ⟨gq, 0, none⟩) Q.length Q.length) (.slice (some ⟨gr, 0, none⟩) R.length R.length)).all (·.oneCell') = true := lists4_one Sd.one rfl rfl rfl rfl
  have e16 : (lists4 ds (.slice (some ⟨gt, 0, none⟩) T.length T.length) (.slice (some ⟨gp, 0, none⟩) P.length P.length) (.slice (some ⟨gq, 0, none⟩) Q.length Q.length) (.slice (some ⟨gr, 0, none⟩) R.length R.length))[16]? = some (.slice (some ⟨gp, 0, none⟩) P.length P.length) := lists4_16 _ HD.out _ _ _ _
  have e17 : (lists4 ds (.slice (some ⟨gt, 0, none⟩) T.length T.length) (.slice (some ⟨gp, 0, none⟩) P.length P.length) (.slice (some ⟨gq, 0, none⟩) Q.length Q.length) (.slice (some ⟨gr, 0, none⟩) R.length R.length))[17]? = some (.slice (some ⟨gq, 0, none⟩) Q.length Q.length) := lists4_17 _ HD.out _ _ _ _
  have HE := Hid.mk4 se oe e16 e17
  clear se oe e16 e17
  generalize lists4 ds (.slice (some ⟨gt, 0, none⟩) T.length T.length) (.slice (some ⟨gp, 0, none⟩) P.length P.length) (.slice (some ⟨gq, 0, none⟩) Q.length Q.length) (.slice (some ⟨gr, 0, none⟩) R.length R.length) = es at *
  go_upto_region 3 with (refine wpList_store_mid rfl 29 _ _ rfl W3.heap.size 0 es rfl rfl (by exact (Blk.new W3 Z19 29).there _ (by rw [HE.out.1]; rfl)) (by rw [HE.out.1]; exact Tryd.infoCart) HE.out.2.1 ?_)
  have s2 := hbw2.size
  have s3 := hb3.size
  have hb34 : Below W3.heap.size W3 ((W3.alloc (.cells Z19 29)).setCells W3.heap.size 0 es.toList) := setCells_below (Nat.le_refl _) _ _ _ _ ((Below.refl _ _).alloc (Nat.le_refl _) _)
  have b4 : Blk ((W3.alloc (.cells Z19 29)).setCells W3.heap.size 0 es.toList) W3.heap.size es 29 := (Blk.new W3 Z19 29).all (by rw [HE.out.1]; rfl)
  have bB := (b2.below b2.lt hb3).below (Nat.lt_of_lt_of_le b2.lt s3) hb34
  have op4 := op.below op.lt hb34
  have oq4 := oq.below oq.lt hb34
  have lp := op.lt
  have lq := oq.lt
  have lB := b2.lt
  have hbw4 : Below w.heap.size w _ := (hbw2.trans (hb3.mono s2)).trans (hb34.mono (by omega))
  have hb24 : Below W2.heap.size W2 _ := hb3.trans (hb34.mono s3)
  clear ot op oq or b2 hb3 hb34 hbw2
  generalize (W3.alloc (.cells Z19 29)).setCells W3.heap.size 0 es.toList = W4 at *
  generalize W3.heap.size = M at *
  obtain ⟨bb, eb⟩ := Sd.bools 5 (by omega)
  have c5 := (bB.cell 5).trans eb
  have hget : ∀ i, i < 19 → ∃ v, es[i]? = some v := fun i hi => ⟨_, Array.getElem?_eq_getElem (by have := HE.out.1; omega)⟩
  obtain ⟨v1, g1⟩ := hget 1 (by omega)
  obtain ⟨v5, g5⟩ := hget 5 (by omega)
  obtain ⟨v15, g15⟩ := hget 15 (by omega)
  obtain ⟨v18, g18⟩ := hget 18 (by omega)
  have k1 := (b4.cell 1).trans g1
  have k5 := (b4.cell 5).trans g5
  have k15 := (b4.cell 15).trans g15
  have k18 := (b4.cell 18).trans g18
  have j1 := b4.free 1
  have j5 := b4.free 5
  have j15 := b4.free 15
  have j18 := b4.free 18
  have hBM : w.heap.size ≠ M := by omega
  clear hget g1 g5 g15 g18 eb
  simp only [Act.put]
  go_cut [] (fun wx => wx = ((((W4.setCell ⟨M, 1, none⟩ (.int .i64 0)).setCell ⟨M, 5, none⟩ (.bool (!bb))).setCell ⟨M, 15, none⟩ (.slice none 0 0)).setCell ⟨M, 18, none⟩ (.slice none 0 0)).drew)
  case first =>
    go_region
    all_goals
      go_wp2_with fail
      go_meet
      case rel => rfl
  case rest =>
  have hwc : Hid (wc = ((((W4.setCell ⟨M, 1, none⟩ (.int .i64 0)).setCell ⟨M, 5, none⟩ (.bool (!bb))).setCell ⟨M, 15, none⟩ (.slice none 0 0)).setCell ⟨M, 18, none⟩ (.slice none 0 0)).drew) := hcut
  clear hcut
  have b5 : Blk ((((W4.setCell ⟨M, 1, none⟩ (.int .i64 0)).setCell ⟨M, 5, none⟩ (.bool (!bb))).setCell ⟨M, 15, none⟩ (.slice none 0 0)).setCell ⟨M, 18, none⟩ (.slice none 0 0)).drew M ((((es.setIfInBounds 1 (.int .i64 0)).setIfInBounds 5 (.bool (!bb))).setIfInBounds 15 (.slice none 0 0)).setIfInBounds 18 (.slice none 0 0)) 29 := ((((b4.set 1 (.int .i64 0)).set 5 (.bool (!bb))).set 15 (.slice none 0 0)).set 18 (.slice none 0 0)).drew
  have hM5 : Below M W4 ((((W4.setCell ⟨M, 1, none⟩ (.int .i64 0)).setCell ⟨M, 5, none⟩ (.bool (!bb))).setCell ⟨M, 15, none⟩ (.slice none 0 0)).setCell ⟨M, 18, none⟩ (.slice none 0 0)).drew := (((((Below.refl M W4).setCell (p := ⟨M, 1, none⟩) (by show _ ≤ M; omega) (.int .i64 0)).setCell (p := ⟨M, 5, none⟩) (by show _ ≤ M; omega) (.bool (!bb))).setCell (p := ⟨M, 15, none⟩) (by show _ ≤ M; omega) (.slice none 0 0)).setCell (p := ⟨M, 18, none⟩) (by show _ ≤ M; omega) (.slice none 0 0)).drew
  have bB5 := bB.below (Nat.lt_of_le_of_ne (by omega) hBM) hM5
  have op5 := op4.below lp hM5
  have oq5 := oq4.below lq hM5
  have hb25 : Below W2.heap.size W2 ((((W4.setCell ⟨M, 1, none⟩ (.int .i64 0)).setCell ⟨M, 5, none⟩ (.bool (!bb))).setCell ⟨M, 15, none⟩ (.slice none 0 0)).setCell ⟨M, 18, none⟩ (.slice none 0 0)).drew := hb24.trans (hM5.mono s3)
  have hbw5 : Below w.heap.size w ((((W4.setCell ⟨M, 1, none⟩ (.int .i64 0)).setCell ⟨M, 5, none⟩ (.bool (!bb))).setCell ⟨M, 15, none⟩ (.slice none 0 0)).setCell ⟨M, 18, none⟩ (.slice none 0 0)).drew := hbw4.trans (hM5.mono (by omega))
  have HFS := Hid.mk4 (show (((((es.setIfInBounds 1 (.int .i64 0)).setIfInBounds 5 (.bool (!bb))).setIfInBounds 15 (.slice none 0 0)).setIfInBounds 18 (.slice none 0 0))).size = 19 by simpa using HE.out.1) (show (((((es.setIfInBounds 1 (.int .i64 0)).setIfInBounds 5 (.bool (!bb))).setIfInBounds 15 (.slice none 0 0)).setIfInBounds 18 (.slice none 0 0)))[16]? = some (.slice (some ⟨gp, 0, none⟩) P.length P.length) by simpa using HE.out.2.2.1) (show (((((es.setIfInBounds 1 (.int .i64 0)).setIfInBounds 5 (.bool (!bb))).setIfInBounds 15 (.slice none 0 0)).setIfInBounds 18 (.slice none 0 0)))[17]? = some (.slice (some ⟨gq, 0, none⟩) Q.length Q.length) by simpa using HE.out.2.2.2) trivial
  clear b4 bB op4 oq4 hb24 hbw4 hM5 k1 k5 k15 k18 j1 j5 j15 j18 c5
  generalize ((((es.setIfInBounds 1 (.int .i64 0)).setIfInBounds 5 (.bool (!bb))).setIfInBounds 15 (.slice none 0 0)).setIfInBounds 18 (.slice none 0 0)) = fs at *
  rw [← hwc.out] at b5 bB5 op5 oq5 hb25 hbw5
  clear hwc
  generalize wc = W5 at *
  go_upto_region 4 with fail
  go_wp2_with (refine wpList_load_mid rfl 29 _ rfl w.heap.size 0 rfl ds.toList _ bB5.range Tryd.underlying29 rfl (by rw [Array.length_toList, HD.out]; exact Tryd.infoCart) ?_)
  refine (sum_any ds HD.out P Q ap aq P.length Q.length kp kq W5 rfl rfl bp bq mp mq C.h16 C.h17 (rp.below hb25) (rq.below hb25) (tab.below tab.lt hbw5)).mono ?_
  rintro e W6 ⟨rfl, u6⟩
  have z5 := hb25.size
  have hb26 := hb25.trans (u6.mono z5)
  have hbw6 := hbw5.trans (u6.mono hbw5.size)
  have b6 := b5.below b5.lt u6
  have bB6 := bB5.below bB5.lt u6
  have op6 := op5.below op5.lt u6
  have oq6 := oq5.below oq5.lt u6
  clear b5 bB5 op5 oq5 hb25 hbw5 u6 z5
  go_wp2_with (refine wpList_load_mid rfl 29 _ rfl M 0 rfl fs.toList _ b6.range Tryd.underlying29 rfl (by rw [Array.length_toList, HFS.out.1]; exact Tryd.infoCart) ?_)
  refine (sum_any fs HFS.out.1 P Q (some ⟨gp, 0, none⟩) (some ⟨gq, 0, none⟩) P.length Q.length P.length Q.length W6 rfl rfl bp bq mp mq HFS.out.2.1 HFS.out.2.2.1 op6.row oq6.row (tab.below tab.lt hbw6)).mono ?_
  rintro e W7 ⟨rfl, u7⟩
  have z6 := hb26.size
  have hb27 := hb26.trans (u7.mono z6)
  have hbw7 := hbw6.trans (u7.mono hbw6.size)
  have b7 := b6.below b6.lt u7
  have bB7 := bB6.below bB6.lt u7
  have op7 := op6.below op6.lt u7
  have oq7 := oq6.below oq6.lt u7
  clear b6 bB6 op6 oq6 hb26 hbw6 u7 z6
  have c16 := (bB7.cell 16).trans C.h16
  go_wp2_with fail
  refine (copied_n P.length P rfl bp mp ap kp W7 (rp.below hb27)).mono ?_
  rintro e W8 ⟨gl, rfl, zl, ol, u8⟩
  have z7 := hb27.size
  have hb28 := hb27.trans (u8.mono z7)
  have hbw8 := hbw7.trans (u8.mono hbw7.size)
  have b8 := b7.below b7.lt u8
  have bB8 := bB7.below bB7.lt u8
  have op8 := op7.below op7.lt u8
  have oq8 := oq7.below oq7.lt u8
  have y1 := b7.lt
  have y2 := bB7.lt
  have y3 := op7.lt
  have y4 := oq7.lt
  have y5 := u8.size
  clear b7 bB7 op7 oq7 hbw7 u8 c16
  generalize W7.heap.size = Z7 at *
  have c17 := (bB8.cell 17).trans C.h17
  have rq8 := rq.below hb28
  go_upto_region 7 with fail
  go_cut [12] (fun v wx => ∃ ad cap, v = .slice ad (P.length + Q.length) cap ∧ Row wx ad (P ++ Q) ∧ Below Z7 W8 wx)
  case first =>
    obtain ⟨i0, hi, hz0, hz1, hz2⟩ := info_parts Tryd.infoU8
    have hown : W8.ownsRow Z7 5 1 (.slice (some ⟨gl, 0, none⟩) P.length P.length) P.length (vals P) :=
      ⟨by simp [vals], .inr ⟨gl, P.length, (vals P).toArray, rfl, zl, ol, Nat.le_refl _, by unfold maxLen; omega, by simp [vals], by rw [Nat.mul_one]; exact List.take_of_length_le (by simp [vals])⟩⟩
    have HRow := Hid.mk4 ol.row rq8 trivial trivial
    cases aq with
    | none =>
      have hQ0 : Q = [] := by
        rcases rq8 with h | ⟨b, off, e, _⟩
        · exact h
        · cases e
      have hk0 : kq = 0 := nk _ _ C.h17
      have c17' : W8.cell? ⟨w.heap.size, 17, none⟩ = some (.slice none 0 0) := by rw [c17, hQ0, hk0]; rfl
      have HQ : Hid (Q = []) := hQ0
      clear rq8 c17 hk0 hQ0
      go_wp2_with (at_builtin; refine wpList_append_own_none rfl _ _ 22 rfl Z7 5 i0 1 Tryd.underlying22 hi _ _ _ rfl hown rfl ?_)
      go_meet
      case rel => exact ⟨_, _, by rw [HQ.out]; rfl, by rw [HQ.out, List.append_nil]; exact HRow.out.1, Below.refl _ _⟩
    | some ad =>
      have hnews := news_of rq8
      clear rq8
      go_wp2_with (at_builtin; refine wpList_append_own _ rfl _ _ 22 rfl Z7 5 i0 (.int .u8 0) 1 1 Tryd.underlying22 hi hz0 hz1 hz2 rfl (by decide) (.slice (some ⟨gl, 0, none⟩) P.length P.length) P.length (vals P) rfl hown ad Q.length kq (vals Q) rfl (by simp [vals]) hnews (vals_one Q) (by unfold maxLen; omega) (by omega) y5 ?_; intro v' W9 hown' hgrow _)
      go_meet
      case rel =>
        have hbz : Below Z7 W8 W9 := (Below.refl Z7 W8).grown hgrow y5 (fun k hk => (show gl = k by simpa [Value.ownBlock] using hk) ▸ zl)
        obtain ⟨adr, cap, hv, hrow⟩ := row_of (P ++ Q) (by simp [vals]) hown'
        exact ⟨adr, cap, hv, hrow, hbz⟩
  case rest =>
  obtain ⟨ad, capl, rfl, rowl, hb89⟩ := hcut
  have b9 := b8.below y1 hb89
  have op9 := op8.below y3 hb89
  have oq9 := oq8.below y4 hb89
  have hbw9 := hbw8.trans (hb89.mono (by have := hbw8.size; omega))
  clear b8 op8 oq8 bB8 hbw8 hb89 ol c17 rq8 hb28 hb27
  generalize wc = W9 at *
  have bPQ : Bytes (P ++ Q) := fun x hx => by
    rcases List.mem_append.1 hx with hx | hx
    · exact bp x hx
    · exact bq x hx
  go_wp2_with fail
  refine (crc_n (P.length + Q.length) (P ++ Q) (by simp) bPQ (by omega) ad capl W9 rowl (tab.below tab.lt hbw9)).mono ?_
  rintro e W9 ⟨rfl, rfl⟩
  have hp0 : 0 < P.length := List.length_pos_iff.2 hP
  have c16 := (b9.cell 16).trans HFS.out.2.1
  have p0 := op9.cell 0 hp0
  have fr := op9.free 0
  have hx0 := bytes_at bp 0
  have hpi : (0 : Int) < (P.length : Int) := by omega
  have NE : Hid (crc ((P.set 0 ((P.getD 0 0 + 1) % 256)) ++ Q) ≠ crc (P ++ Q)) := by
    have h := crc_turn (P ++ Q) bPQ 0 ((P.getD 0 0 + 1) % 256) (by simp; omega) (Nat.mod_lt _ (by decide)) (by
      rw [show (P ++ Q).getD 0 0 = P.getD 0 0 by simp [List.getElem?_append_left, hp0]]
      omega)
    rw [List.set_append_left _ _ hp0] at h
    exact h
  have op10 := op9.set 0 ((P.getD 0 0 + 1) % 256)
  have lgp := op9.lt
  have lz2 : gp ≠ M := by omega
  have lz3 : gp ≠ gq := by omega
  have b10 := b9.other (m := gp) (by omega) 0 (.int .u8 (((P.getD 0 0 + 1) % 256 : Nat) : Int))
  have oq10 := oq9.other (m := gp) (by omega) 0 (.int .u8 (((P.getD 0 0 + 1) % 256 : Nat) : Int))
  have hbw10 := hbw9.setCell (p := ⟨gp, 0, none⟩) (by show w.heap.size ≤ gp; omega) (.int .u8 (((P.getD 0 0 + 1) % 256 : Nat) : Int))
  have ey : ((P.getD 0 0 : Nat) + 1 : Int) % 256 = (((P.getD 0 0 + 1) % 256 : Nat) : Int) := by omega
  have BY : Hid (Bytes (P.set 0 ((P.getD 0 0 + 1) % 256))) := by
    intro x hx
    rcases List.mem_or_eq_of_mem_set hx with hx | rfl
    · exact bp x hx
    · exact Nat.mod_lt _ (by decide)
  have HLn : Hid ((P.set 0 ((P.getD 0 0 + 1) % 256)).length = P.length) := List.length_set
  generalize P.set 0 ((P.getD 0 0 + 1) % 256) = P' at *
  generalize (P.getD 0 0 + 1) % 256 = y at *
  generalize P.getD 0 0 = x0 at *
  go_upto_region 10 with fail
  clear b9 op9 oq9 hbw9 rowl c16 p0 fr ey
  generalize W9.setCell ⟨gp, 0, none⟩ (.int .u8 (y : Nat)) = W10 at *
  go_wp2_with (refine wpList_load_mid rfl 29 _ rfl M 0 rfl fs.toList _ b10.range Tryd.underlying29 rfl (by rw [Array.length_toList, HFS.out.1]; exact Tryd.infoCart) ?_)
  refine (sum_any fs HFS.out.1 P' Q (some ⟨gp, 0, none⟩) (some ⟨gq, 0, none⟩) P.length Q.length P.length Q.length W10 HLn.out rfl BY.out bq mp mq HFS.out.2.1 HFS.out.2.2.1 op10.row oq10.row (tab.below tab.lt hbw10)).mono ?_
  rintro e W11 ⟨rfl, u11⟩
  have fin := hbw10.trans (u11.mono hbw10.size)
  have q1 : (((crc (P ++ Q) : Nat) : Int) == ((crc (P ++ Q) : Nat) : Int)) = true := by simp
  have q2 : (((crc (P' ++ Q) : Nat) : Int) != ((crc (P ++ Q) : Nat) : Int)) = true := by
    have := NE.out
    rw [bne_iff_ne]
    omega
  go_wp2
  go_ret
  exact ⟨rfl, fin⟩
end Go.Proofs.YtfmionfbknadiaaDoor
