/-
  What read answers of an image that Print made of a NES 2.0 cartridge; conditions: the image lies in its slice.
-/
import Derived.Test.YtpdbndkckioamaaDoorPar5
import Derived.Test.YtpdbndkckioamaaDoorPar7
set_option linter.unusedSimpArgs false
set_option linter.unusedVariables false
namespace Go.Proofs.YtpdbndkckioamaaDoor
open Go.RowKit
theorem cut_mid (A B C : List Nat) {a n : Nat} (ha : A.length = a) (hn : B.length = n) : ((A ++ B ++ C).drop a).take n = B := by
  subst ha
  subst hn
  rw [List.append_assoc, List.drop_left, List.take_left]
theorem cut_end (A B : List Nat) {a n : Nat} (ha : A.length = a) (hn : B.length = n) : ((A ++ B).drop a).take n = B := by
  have := cut_mid A B [] ha hn
  rwa [List.append_nil] at this
/-- What lies in memory while read works. -/
structure Rs (w : World) (hs ca : Array Value) (gh gc m b off n k at' : Nat) (W : World) : Prop where
  z : Blk W w.heap.size Z19 25
  h : Blk W gh hs 67
  c : Blk W gc ca 25
  r : Blk W m #[.slice (some ⟨b, off, none⟩) n k, .int .i64 at'] 77
  o1 : w.heap.size < gh
  o2 : gh < gc
  o3 : gc < m
  bl : Below w.heap.size w W
theorem Rs.put {w W : World} {hs ca ca' : Array Value} {gh gc m b off n k at' : Nat} (K : Rs w hs ca gh gc m b off n k at' W) (i : Nat) (v : Value) (e : ca.setIfInBounds i v = ca') : Rs w hs ca' gh gc m b off n k at' (W.setCell ⟨gc, i, none⟩ v) :=
  ⟨K.z.other (by have := K.o1; have := K.o2; omega) i v, K.h.other (by have := K.o2; omega) i v, e ▸ K.c.set i v, K.r.other (by have := K.o3; omega) i v, K.o1, K.o2, K.o3, K.bl.setCell (p := ⟨gc, i, none⟩) (by have := K.o1; have := K.o2; show w.heap.size ≤ gc; omega) v⟩
theorem Rs.took {w W W' : World} {hs ca : Array Value} {gh gc m b off n k at' to' : Nat} (K : Rs w hs ca gh gc m b off n k at' W) (t : Tk m W W') (r : Blk W' m #[.slice (some ⟨b, off, none⟩) n k, .int .i64 to'] 77) : Rs w hs ca gh gc m b off n k to' W' :=
  ⟨t.blk K.z (by have := K.o1; have := K.o2; have := K.o3; omega), t.blk K.h (by have := K.o2; have := K.o3; omega), t.blk K.c (by have := K.o3; omega), r, K.o1, K.o2, K.o3, K.bl.trans (t.bl.mono (by have := K.o1; have := K.o2; have := K.o3; omega))⟩
/-- What read is to answer. -/
def ReOk (c : CF) (T P Q R : List Nat) (w : World) (e : Ending) (w' : World) : Prop := ∃ xs aT kT aP kP aQ kQ aR kR, e = .returned (.agg xs) ∧ IsC xs c ∧ (xs[15]? = some (.slice aT c.nt kT) ∧ xs[16]? = some (.slice aP c.np kP) ∧ xs[17]? = some (.slice aQ c.nq kQ) ∧ xs[18]? = some (.slice aR c.nr kR)) ∧ (RowF w.heap.size w' aT T ∧ RowF w.heap.size w' aP P ∧ RowF w.heap.size w' aQ Q ∧ RowF w.heap.size w' aR R) ∧ Below w.heap.size w w'
set_option maxRecDepth 100000 in
set_option maxHeartbeats 6400000 in
theorem read_any (c : CF) (x : HN) (b4 b5 b6 b7 b8 b9 b10 b11 : Nat) (X : Hb c x) (f2 : x.f = 2) (Y : Hy c x b4 b5 b6 b7 b8 b9 b10 b11) (h2 : H2 c x) (T P Q R : List Nat) (lt : T.length = c.nt) (lp : P.length = c.np) (lq : Q.length = c.nq) (lr : R.length = c.nr) (b off n k : Nat) (w : World)
    (hI : (lh x b4 b5 b6 b7 b8 b9 b10 b11 ++ T ++ P ++ Q ++ R).length = n) (hk : n ≤ k) (hr : Row w (some ⟨b, off, none⟩) (lh x b4 b5 b6 b7 b8 b9 b10 b11 ++ T ++ P ++ Q ++ R)) :
    Calls Tryd.prog 26 #[.slice (some ⟨b, off, none⟩) n k] w (ReOk c T P Q R w) := by
  have hn : n = 16 + c.nt + c.np + c.nq + c.nr := by
    rw [← hI]
    simp only [List.length_append, lt, lp, lq, lr]
    rfl
  have hmax : n ≤ 2097152 := by have := X.len; unfold Chk.imageLen at this; omega
  have RW : Hid (∀ W : World, Below w.heap.size w W → Row W (some ⟨b, off, none⟩) (lh x b4 b5 b6 b7 b8 b9 b10 b11 ++ T ++ P ++ Q ++ R)) := fun W hb => hr.below hb
  have HI : Hid ((lh x b4 b5 b6 b7 b8 b9 b10 b11 ++ T ++ P ++ Q ++ R).length = n) := hI
  have HNN : Hid (n = 16 + c.nt + c.np + c.nq + c.nr) := hn
  have hbig : ¬ 2097152 < n := by omega
  have HLS : Hid (T.length = c.nt ∧ P.length = c.np ∧ Q.length = c.nq ∧ R.length = c.nr) := ⟨lt, lp, lq, lr⟩
  clear hI hr hn lt lp lq lr
  go_enter Tryd.func26, Tryd.ntmps26
  go_upto_region 1 with fail
  have z0 : Blk (w.alloc (.cells Z19 25)) w.heap.size Z19 25 := Blk.new w Z19 _
  have hb0 : Below w.heap.size w (w.alloc (.cells Z19 25)) := (Below.refl _ _).alloc (Nat.le_refl _) _
  generalize w.alloc (.cells Z19 25) = W0 at *
  go_upto_region 3 with fail
  have RH : Hid (Calls _ _ _ _ _) := readHead_any c x b4 b5 b6 b7 b8 b9 b10 b11 X f2 Y h2 (T ++ P ++ Q ++ R) b off n k W0 (by have := HI.out; simpa [List.append_assoc] using this) hmax (by have := RW.out W0 hb0; simpa [List.append_assoc] using this)
  obtain ⟨hs, hhs⟩ : ∃ hs, hs = (vals (lh x b4 b5 b6 b7 b8 b9 b10 b11)).toArray := ⟨_, rfl⟩
  have HHS : Hid (hs = (vals (lh x b4 b5 b6 b7 b8 b9 b10 b11)).toArray) := hhs
  rw [← hhs] at RH
  have HZ : Hid (hs.size = 16 ∧ hs.all (·.oneCell') = true) := by rw [hhs]; exact ⟨rfl, vals_one' _⟩
  clear hhs
  go_cut [3] (fun p wx => ∃ g, p = .pointer (some ⟨g, 0, none⟩) ∧ Blk wx g hs 67 ∧ Blk wx w.heap.size Z19 25 ∧ w.heap.size < g ∧ Below w.heap.size w wx)
  case first =>
    go_wp2_with (first
      | (go_at_call 41; go_must (refine RH.out.mono ?_; rintro e W1 ⟨rfl, hb1⟩; have z1 := z0.below z0.lt hb1; have hbw1 := hb0.trans (hb1.mono hb0.size); have hl1 := z1.lt))
      | (refine wpList_store_mid rfl 67 _ _ rfl _ 0 hs rfl rfl ((Blk.new _ _ _).there _ (by first | exact HZ.out.1.symm | (rw [HZ.out.1]; rfl))) (by rw [HZ.out.1]; exact infoHdr) HZ.out.2 ?_))
    go_meet
    have hl : Below W1.heap.size W1 ((W1.alloc (.cells Z16 67)).setCells W1.heap.size 0 hs.toList) := setCells_below (Nat.le_refl _) _ _ _ _ ((Below.refl _ _).alloc (Nat.le_refl _) _)
    exact ⟨_, rfl, (Blk.new W1 Z16 67).setAll (L := hs) HZ.out.1, z1.below z1.lt hl, hl1, hbw1.trans (hl.mono hbw1.size)⟩
  case rest =>
  clear RH z0 hb0
  obtain ⟨gh, rfl, bh, z1, o1, hb1⟩ := hcut
  generalize wc = W1 at *
  go_upto_region 4 with fail
  have FC : Hid (Calls _ _ _ _ _) := fields_any hs c x b4 b5 b6 b7 b8 b9 b10 b11 X f2 Y HHS.out W1
  have HC : Hid ((cN c).size = 19 ∧ (cN c).all (·.oneCell') = true) := ⟨rfl, by simp [cN, Value.oneCell']⟩
  obtain ⟨CC, hCC⟩ : ∃ CC, CC = cN c := ⟨_, rfl⟩
  have HCC : Hid (CC = cN c) := hCC
  rw [← hCC] at FC HC
  clear hCC
  go_cut [4] (fun p wx => ∃ g, p = .pointer (some ⟨g, 0, none⟩) ∧ Blk wx g CC 25 ∧ Blk wx gh hs 67 ∧ Blk wx w.heap.size Z19 25 ∧ gh < g ∧ Below w.heap.size w wx)
  case first =>
    go_wp2_with (first
      | (refine wpList_load_mid rfl 67 _ rfl gh 0 rfl hs.toList _ bh.range Tryd.underlying67 rfl (by rw [Array.length_toList, HZ.out.1]; exact infoHdr) ?_; rw [Array.toArray_toList])
      | (go_at_call 42; go_must (refine FC.out.mono ?_; rintro e W2 ⟨rfl, hb2⟩; have z2 := z1.below z1.lt hb2; have bh2 := bh.below bh.lt hb2; have hbw2 := hb1.trans (hb2.mono hb1.size); have hl2 := bh2.lt))
      | (refine wpList_store_mid rfl 25 _ _ rfl _ 0 CC rfl rfl ((Blk.new _ _ _).there _ (by first | exact HC.out.1.symm | (rw [HC.out.1]; rfl))) (by rw [HC.out.1]; exact Tryd.infoCart) HC.out.2 ?_))
    go_meet
    have hl : Below W2.heap.size W2 ((W2.alloc (.cells Z19 25)).setCells W2.heap.size 0 CC.toList) := setCells_below (Nat.le_refl _) _ _ _ _ ((Below.refl _ _).alloc (Nat.le_refl _) _)
    exact ⟨_, rfl, (Blk.new W2 Z19 25).setAll (L := CC) HC.out.1, bh2.below bh2.lt hl, z2.below z2.lt hl, hl2, hbw2.trans (hl.mono hbw2.size)⟩
  case rest =>
  clear FC bh z1 hb1
  obtain ⟨gc, rfl, bc, bh, z1, o2, hb1⟩ := hcut
  generalize wc = W2 at *
  go_upto_region 5 with fail
  have SC : Hid (Calls _ _ _ _ _) := sizes_any hs c x b4 b5 b6 b7 b8 b9 b10 b11 X f2 Y HHS.out W2
  go_wp2_with (refine wpList_load_mid rfl 67 _ rfl gh 0 rfl hs.toList _ bh.range Tryd.underlying67 rfl (by rw [Array.length_toList, HZ.out.1]; exact infoHdr) ?_; rw [Array.toArray_toList])
  refine SC.out.mono ?_
  rintro e W3 ⟨rfl, hb3⟩
  have bc3 := bc.below bc.lt hb3
  have bh3 := bh.below bh.lt hb3
  have z3 := z1.below z1.lt hb3
  have hbw3 := hb1.trans (hb3.mono hb1.size)
  have hnp0 := X.np0
  have hnp := X.np
  have hnq := X.nq
  have hz : ((c.np : Int) == 0) = false := by rw [beq_eq_false_iff_ne]; omega
  have hz2 : decide ((1048576 : Int) < (c.np : Int)) = false := by rw [decide_eq_false_iff_not]; omega
  have hz3 : ¬ 524288 < c.nq := by omega
  clear SC bc bh z1 hb1 hb3
  go_upto_region 11 with fail
  have K0 : Rs w hs CC gh gc W3.heap.size b off n k 16 (W3.alloc (.cells #[.slice (some ⟨b, off, none⟩) n k, .int .i64 16] 77)) :=
    ⟨z3.old _, bh3.old _, bc3.old _, Blk.new W3 _ _, o1, o2, bc3.lt, hbw3.alloc hbw3.size _⟩
  clear z3 bh3 bc3 o1 o2 hbw3 hz hz2 hz3 hnp0 hnp hnq
  generalize W3.alloc (.cells #[.slice (some ⟨b, off, none⟩) n k, .int .i64 16] 77) = W4 at *
  generalize W3.heap.size = m at *
  rw [HCC.out] at K0
  replace K0 : Rs w hs #[.int .i64 c.fmt, .int .i64 c.map, .int .i64 c.sub, .bool c.vert, .bool c.four, .bool c.bat, .int .i64 c.con, .int .i64 c.kind, .int .i64 c.tim, .int .i64 c.dev, .int .i64 c.misc, .int .i64 c.pr, .int .i64 c.pn, .int .i64 c.cr, .int .i64 c.cn, .slice none 0 0, .slice none 0 0, .slice none 0 0, .slice none 0 0] gh gc m b off n k 16 W4 := K0
  have d6 := (K0.h.cell 6).trans (show hs[6]? = some (.int .u8 (b6 : Nat)) by rw [HHS.out]; rfl)
  have v4 := Y.v4
  have o123 : gc < m := K0.o3
  go_upto_if 36 with fail
  go_cut [] (fun wx => ∃ aT kT, Rs w hs #[.int .i64 c.fmt, .int .i64 c.map, .int .i64 c.sub, .bool c.vert, .bool c.four, .bool c.bat, .int .i64 c.con, .int .i64 c.kind, .int .i64 c.tim, .int .i64 c.dev, .int .i64 c.misc, .int .i64 c.pr, .int .i64 c.pn, .int .i64 c.cr, .int .i64 c.cn, .slice aT c.nt kT, .slice none 0 0, .slice none 0 0, .slice none 0 0] gh gc m b off n k (16 + c.nt) wx ∧ RowF (m + 1) wx aT T)
  case first =>
    rcases h2.nt with hnt | hnt
    · have HT : Hid (c.nt = 0 ∧ T = []) := ⟨hnt, List.eq_nil_of_length_eq_zero (HLS.out.1.trans hnt)⟩
      have hv : ¬ 0 < c.nt := by omega
      clear v4 hnt
      go_wp2
      go_meet
      refine ⟨none, 0, ?_, .inl HT.out.2⟩
      rw [HT.out.1]
      exact K0
    · have HT : Hid (c.nt = 512) := hnt
      have hv : 0 < c.nt := by omega
      have TC : Hid (Calls _ _ _ _ _) := take_any m b off n k 16 512 (lh x b4 b5 b6 b7 b8 b9 b10 b11 ++ T ++ P ++ Q ++ R) HI.out hmax hk (by have := HNN.out; have := HT.out; omega) W4 K0.r (RW.out _ K0.bl)
      have eT : ((lh x b4 b5 b6 b7 b8 b9 b10 b11 ++ T ++ P ++ Q ++ R).drop 16).take 512 = T := by
        have := cut_mid (lh x b4 b5 b6 b7 b8 b9 b10 b11) T (P ++ Q ++ R) (show (lh x b4 b5 b6 b7 b8 b9 b10 b11).length = 16 from rfl) (HLS.out.1.trans HT.out)
        simpa [List.append_assoc] using this
      rw [eT] at TC
      clear v4 hnt eT
      go_wp2_with fail
      refine TC.out.mono ?_
      rintro e V ⟨aT, kT, rfl, rf, rr, tk⟩
      have KV := K0.took tk rr
      have hsz := K0.r.lt
      have G : RowF (m + 1) V aT T := rf.mono (by omega)
      have dh := (KV.c.cell 15).trans (show _ = some (.slice none 0 0) from rfl)
      have fh := KV.c.free 15
      clear TC rf rr tk
      go_wp2
      go_meet
      refine ⟨aT, kT, ?_, G.put (m := gc) (by omega) 15 _⟩
      rw [HT.out]
      exact KV.put 15 _ rfl
  case rest =>
  clear K0 d6 v4
  obtain ⟨aT, kT, K0, FT⟩ := hcut
  generalize wc = W5 at *
  go_upto_region 13 with fail

  have TC : Hid (Calls _ _ _ _ _) := take_any m b off n k (16 + c.nt) c.np (lh x b4 b5 b6 b7 b8 b9 b10 b11 ++ T ++ P ++ Q ++ R) HI.out hmax hk (by have := HNN.out; omega) W5 K0.r (RW.out _ K0.bl)
  have eL : ((lh x b4 b5 b6 b7 b8 b9 b10 b11 ++ T ++ P ++ Q ++ R).drop (16 + c.nt)).take c.np = P := by
    have h := cut_mid (lh x b4 b5 b6 b7 b8 b9 b10 b11 ++ T) P (Q ++ R) (show ((lh x b4 b5 b6 b7 b8 b9 b10 b11 ++ T)).length = (16 + c.nt) by rw [List.length_append, HLS.out.1]; rfl) HLS.out.2.1
    simpa [List.append_assoc] using h
  rw [eL] at TC
  clear eL
  go_wp2_with fail
  refine TC.out.mono ?_
  rintro e V5 ⟨aP, kP, rfl, rf, rr, tk⟩
  have KV := K0.took tk rr
  have hsz := K0.r.lt
  have GT := tk.row FT (Nat.lt_succ_self _)
  have GP : RowF (m + 1) V5 aP P := rf.mono (by omega)
  have dh := (KV.c.cell 16).trans (show _ = some (.slice none 0 0) from rfl)
  have fh := KV.c.free 16
  clear TC rf rr tk K0 FT
  go_upto_region 14 with fail
  have K0 := KV.put 16 (.slice aP c.np kP) (ca' := #[.int .i64 c.fmt, .int .i64 c.map, .int .i64 c.sub, .bool c.vert, .bool c.four, .bool c.bat, .int .i64 c.con, .int .i64 c.kind, .int .i64 c.tim, .int .i64 c.dev, .int .i64 c.misc, .int .i64 c.pr, .int .i64 c.pn, .int .i64 c.cr, .int .i64 c.cn, .slice aT c.nt kT, .slice aP c.np kP, .slice none 0 0, .slice none 0 0]) rfl
  have FT := GT.put (m := gc) (by omega) 16 (.slice aP c.np kP)
  have FP := GP.put (m := gc) (by omega) 16 (.slice aP c.np kP)
  clear KV dh fh hsz GT GP
  generalize V5.setCell ⟨gc, 16, none⟩ (.slice aP c.np kP) = W6 at *

  have TC : Hid (Calls _ _ _ _ _) := take_any m b off n k (16 + c.nt + c.np) c.nq (lh x b4 b5 b6 b7 b8 b9 b10 b11 ++ T ++ P ++ Q ++ R) HI.out hmax hk (by have := HNN.out; omega) W6 K0.r (RW.out _ K0.bl)
  have eL : ((lh x b4 b5 b6 b7 b8 b9 b10 b11 ++ T ++ P ++ Q ++ R).drop (16 + c.nt + c.np)).take c.nq = Q := by
    have h := cut_mid (lh x b4 b5 b6 b7 b8 b9 b10 b11 ++ T ++ P) Q R (show ((lh x b4 b5 b6 b7 b8 b9 b10 b11 ++ T ++ P)).length = (16 + c.nt + c.np) by rw [List.length_append, List.length_append, HLS.out.1, HLS.out.2.1]; rfl) HLS.out.2.2.1
    simpa [List.append_assoc] using h
  rw [eL] at TC
  clear eL
  go_wp2_with fail
  refine TC.out.mono ?_
  rintro e V6 ⟨aQ, kQ, rfl, rf, rr, tk⟩
  have KV := K0.took tk rr
  have hsz := K0.r.lt
  have GT := tk.row FT (Nat.lt_succ_self _)
  have GP := tk.row FP (Nat.lt_succ_self _)
  have GQ : RowF (m + 1) V6 aQ Q := rf.mono (by omega)
  have dh := (KV.c.cell 17).trans (show _ = some (.slice none 0 0) from rfl)
  have fh := KV.c.free 17
  clear TC rf rr tk K0 FT FP
  go_upto_region 15 with fail
  have K0 := KV.put 17 (.slice aQ c.nq kQ) (ca' := #[.int .i64 c.fmt, .int .i64 c.map, .int .i64 c.sub, .bool c.vert, .bool c.four, .bool c.bat, .int .i64 c.con, .int .i64 c.kind, .int .i64 c.tim, .int .i64 c.dev, .int .i64 c.misc, .int .i64 c.pr, .int .i64 c.pn, .int .i64 c.cr, .int .i64 c.cn, .slice aT c.nt kT, .slice aP c.np kP, .slice aQ c.nq kQ, .slice none 0 0]) rfl
  have FT := GT.put (m := gc) (by omega) 17 (.slice aQ c.nq kQ)
  have FP := GP.put (m := gc) (by omega) 17 (.slice aQ c.nq kQ)
  have FQ := GQ.put (m := gc) (by omega) 17 (.slice aQ c.nq kQ)
  clear KV dh fh hsz GT GP GQ
  generalize V6.setCell ⟨gc, 17, none⟩ (.slice aQ c.nq kQ) = W7 at *

  have d0 := (K0.c.cell 0).trans (show _ = some (.int .i64 2) by show some (Value.int .i64 c.fmt) = _; rw [X.cf, f2]; rfl)
  go_upto_region 17 with fail
  clear d0
  have CX : IsC (#[.int .i64 c.fmt, .int .i64 c.map, .int .i64 c.sub, .bool c.vert, .bool c.four, .bool c.bat, .int .i64 c.con, .int .i64 c.kind, .int .i64 c.tim, .int .i64 c.dev, .int .i64 c.misc, .int .i64 c.pr, .int .i64 c.pn, .int .i64 c.cr, .int .i64 c.cn, .slice aT c.nt kT, .slice aP c.np kP, .slice aQ c.nq kQ, .slice none 0 0]) { c with nr := 0 } := ⟨rfl, by simp [Value.oneCell'], rfl, rfl, rfl, rfl, rfl, rfl, rfl, rfl, rfl, rfl, rfl, rfl, rfl, rfl, rfl, ⟨aT, kT, rfl⟩, ⟨aP, kP, rfl⟩, ⟨aQ, kQ, rfl⟩, ⟨none, 0, rfl⟩, by have := h2.nt; show c.nt ≤ _; omega, by have := X.np; show c.np ≤ _; omega, by have := X.nq; show c.nq ≤ _; omega, by show 0 ≤ _; omega⟩
  have TR : Hid (Calls _ _ _ _ _) := takeRest_any (#[.int .i64 c.fmt, .int .i64 c.map, .int .i64 c.sub, .bool c.vert, .bool c.four, .bool c.bat, .int .i64 c.con, .int .i64 c.kind, .int .i64 c.tim, .int .i64 c.dev, .int .i64 c.misc, .int .i64 c.pr, .int .i64 c.pn, .int .i64 c.cr, .int .i64 c.cn, .slice aT c.nt kT, .slice aP c.np kP, .slice aQ c.nq kQ, .slice none 0 0]) { c with nr := 0 } CX (by show c.fmt = 2; rw [X.cf, f2]; rfl) m b off n k (16 + c.nt + c.np + c.nq) c.nr x.mi X.cmi (lh x b4 b5 b6 b7 b8 b9 b10 b11 ++ T ++ P ++ Q ++ R) HI.out hmax hk (by have := HNN.out; omega) h2.rest.1 h2.rest.2 W7 K0.r (RW.out _ K0.bl)
  have eR : ((lh x b4 b5 b6 b7 b8 b9 b10 b11 ++ T ++ P ++ Q ++ R).drop (16 + c.nt + c.np + c.nq)).take c.nr = R := cut_end (lh x b4 b5 b6 b7 b8 b9 b10 b11 ++ T ++ P ++ Q) R (by rw [List.length_append, List.length_append, List.length_append, HLS.out.1, HLS.out.2.1, HLS.out.2.2.1]; rfl) HLS.out.2.2.2
  rw [eR] at TR
  have HA : Hid ((#[.int .i64 c.fmt, .int .i64 c.map, .int .i64 c.sub, .bool c.vert, .bool c.four, .bool c.bat, .int .i64 c.con, .int .i64 c.kind, .int .i64 c.tim, .int .i64 c.dev, .int .i64 c.misc, .int .i64 c.pr, .int .i64 c.pn, .int .i64 c.cr, .int .i64 c.cn, .slice aT c.nt kT, .slice aP c.np kP, .slice aQ c.nq kQ, .slice none 0 0] : Array Value).size = 19) := rfl
  have bcx : Blk W7 gc (#[.int .i64 c.fmt, .int .i64 c.map, .int .i64 c.sub, .bool c.vert, .bool c.four, .bool c.bat, .int .i64 c.con, .int .i64 c.kind, .int .i64 c.tim, .int .i64 c.dev, .int .i64 c.misc, .int .i64 c.pr, .int .i64 c.pn, .int .i64 c.cr, .int .i64 c.cn, .slice aT c.nt kT, .slice aP c.np kP, .slice aQ c.nq kQ, .slice none 0 0]) 25 := K0.c
  clear eR CX
  obtain ⟨C3v, hC3⟩ : ∃ C3v : Array Value, C3v = #[.int .i64 c.fmt, .int .i64 c.map, .int .i64 c.sub, .bool c.vert, .bool c.four, .bool c.bat, .int .i64 c.con, .int .i64 c.kind, .int .i64 c.tim, .int .i64 c.dev, .int .i64 c.misc, .int .i64 c.pr, .int .i64 c.pn, .int .i64 c.cr, .int .i64 c.cn, .slice aT c.nt kT, .slice aP c.np kP, .slice aQ c.nq kQ, .slice none 0 0] := ⟨_, rfl⟩
  have HC3 : Hid (C3v = #[.int .i64 c.fmt, .int .i64 c.map, .int .i64 c.sub, .bool c.vert, .bool c.four, .bool c.bat, .int .i64 c.con, .int .i64 c.kind, .int .i64 c.tim, .int .i64 c.dev, .int .i64 c.misc, .int .i64 c.pr, .int .i64 c.pn, .int .i64 c.cr, .int .i64 c.cn, .slice aT c.nt kT, .slice aP c.np kP, .slice aQ c.nq kQ, .slice none 0 0]) := hC3
  rw [← hC3] at TR HA bcx
  clear hC3
  go_wp2_with (refine wpList_load_mid rfl 25 _ rfl gc 0 rfl C3v.toList _ bcx.range Tryd.underlying25 rfl (by rw [Array.length_toList, HA.out]; exact Tryd.infoCart) ?_; rw [Array.toArray_toList])
  refine TR.out.mono ?_
  rintro e V7 ⟨aR, kR, rfl, rf, rr, tk⟩
  have KV := K0.took tk rr
  have hsz := K0.r.lt
  have GT := tk.row FT (Nat.lt_succ_self _)
  have GP := tk.row FP (Nat.lt_succ_self _)
  have GQ := tk.row FQ (Nat.lt_succ_self _)
  have GR : RowF (m + 1) V7 aR R := rf.mono (by omega)
  have dh := (KV.c.cell 18).trans (show _ = some (.slice none 0 0) from rfl)
  have fh := KV.c.free 18
  clear TR rf rr tk K0 FT FP FQ bcx
  go_upto_region 18 with fail
  have K0 := KV.put 18 (.slice aR c.nr kR) (ca' := #[.int .i64 c.fmt, .int .i64 c.map, .int .i64 c.sub, .bool c.vert, .bool c.four, .bool c.bat, .int .i64 c.con, .int .i64 c.kind, .int .i64 c.tim, .int .i64 c.dev, .int .i64 c.misc, .int .i64 c.pr, .int .i64 c.pn, .int .i64 c.cr, .int .i64 c.cn, .slice aT c.nt kT, .slice aP c.np kP, .slice aQ c.nq kQ, .slice aR c.nr kR]) rfl
  have FT := GT.put (m := gc) (by omega) 18 (.slice aR c.nr kR)
  have FP := GP.put (m := gc) (by omega) 18 (.slice aR c.nr kR)
  have FQ := GQ.put (m := gc) (by omega) 18 (.slice aR c.nr kR)
  have FR := GR.put (m := gc) (by omega) 18 (.slice aR c.nr kR)
  clear KV dh fh GT GP GQ GR
  generalize V7.setCell ⟨gc, 18, none⟩ (.slice aR c.nr kR) = W8 at *
  have CX : IsC (#[.int .i64 c.fmt, .int .i64 c.map, .int .i64 c.sub, .bool c.vert, .bool c.four, .bool c.bat, .int .i64 c.con, .int .i64 c.kind, .int .i64 c.tim, .int .i64 c.dev, .int .i64 c.misc, .int .i64 c.pr, .int .i64 c.pn, .int .i64 c.cr, .int .i64 c.cn, .slice aT c.nt kT, .slice aP c.np kP, .slice aQ c.nq kQ, .slice aR c.nr kR]) c := ⟨rfl, by simp [Value.oneCell'], rfl, rfl, rfl, rfl, rfl, rfl, rfl, rfl, rfl, rfl, rfl, rfl, rfl, rfl, rfl, ⟨aT, kT, rfl⟩, ⟨aP, kP, rfl⟩, ⟨aQ, kQ, rfl⟩, ⟨aR, kR, rfl⟩, by have := h2.nt; omega, by have := X.np; omega, by have := X.nq; omega, by have := HNN.out; omega⟩
  have R15 : (#[.int .i64 c.fmt, .int .i64 c.map, .int .i64 c.sub, .bool c.vert, .bool c.four, .bool c.bat, .int .i64 c.con, .int .i64 c.kind, .int .i64 c.tim, .int .i64 c.dev, .int .i64 c.misc, .int .i64 c.pr, .int .i64 c.pn, .int .i64 c.cr, .int .i64 c.cn, .slice aT c.nt kT, .slice aP c.np kP, .slice aQ c.nq kQ, .slice aR c.nr kR] : Array Value)[15]? = some (.slice aT c.nt kT) := rfl
  have R16 : (#[.int .i64 c.fmt, .int .i64 c.map, .int .i64 c.sub, .bool c.vert, .bool c.four, .bool c.bat, .int .i64 c.con, .int .i64 c.kind, .int .i64 c.tim, .int .i64 c.dev, .int .i64 c.misc, .int .i64 c.pr, .int .i64 c.pn, .int .i64 c.cr, .int .i64 c.cn, .slice aT c.nt kT, .slice aP c.np kP, .slice aQ c.nq kQ, .slice aR c.nr kR] : Array Value)[16]? = some (.slice aP c.np kP) := rfl
  have R17 : (#[.int .i64 c.fmt, .int .i64 c.map, .int .i64 c.sub, .bool c.vert, .bool c.four, .bool c.bat, .int .i64 c.con, .int .i64 c.kind, .int .i64 c.tim, .int .i64 c.dev, .int .i64 c.misc, .int .i64 c.pr, .int .i64 c.pn, .int .i64 c.cr, .int .i64 c.cn, .slice aT c.nt kT, .slice aP c.np kP, .slice aQ c.nq kQ, .slice aR c.nr kR] : Array Value)[17]? = some (.slice aQ c.nq kQ) := rfl
  have R18 : (#[.int .i64 c.fmt, .int .i64 c.map, .int .i64 c.sub, .bool c.vert, .bool c.four, .bool c.bat, .int .i64 c.con, .int .i64 c.kind, .int .i64 c.tim, .int .i64 c.dev, .int .i64 c.misc, .int .i64 c.pr, .int .i64 c.pn, .int .i64 c.cr, .int .i64 c.cn, .slice aT c.nt kT, .slice aP c.np kP, .slice aQ c.nq kQ, .slice aR c.nr kR] : Array Value)[18]? = some (.slice aR c.nr kR) := rfl
  have bc8 : Blk W8 gc (#[.int .i64 c.fmt, .int .i64 c.map, .int .i64 c.sub, .bool c.vert, .bool c.four, .bool c.bat, .int .i64 c.con, .int .i64 c.kind, .int .i64 c.tim, .int .i64 c.dev, .int .i64 c.misc, .int .i64 c.pr, .int .i64 c.pn, .int .i64 c.cr, .int .i64 c.cn, .slice aT c.nt kT, .slice aP c.np kP, .slice aQ c.nq kQ, .slice aR c.nr kR]) 25 := K0.c
  have z8 := K0.z
  have bl8 := K0.bl
  have hwm : w.heap.size < m + 1 := by have := K0.o1; have := K0.o2; have := K0.o3; omega
  clear K0
  have HA4 : Hid ((#[.int .i64 c.fmt, .int .i64 c.map, .int .i64 c.sub, .bool c.vert, .bool c.four, .bool c.bat, .int .i64 c.con, .int .i64 c.kind, .int .i64 c.tim, .int .i64 c.dev, .int .i64 c.misc, .int .i64 c.pr, .int .i64 c.pn, .int .i64 c.cr, .int .i64 c.cn, .slice aT c.nt kT, .slice aP c.np kP, .slice aQ c.nq kQ, .slice aR c.nr kR] : Array Value).size = 19 ∧ (#[.int .i64 c.fmt, .int .i64 c.map, .int .i64 c.sub, .bool c.vert, .bool c.four, .bool c.bat, .int .i64 c.con, .int .i64 c.kind, .int .i64 c.tim, .int .i64 c.dev, .int .i64 c.misc, .int .i64 c.pr, .int .i64 c.pn, .int .i64 c.cr, .int .i64 c.cn, .slice aT c.nt kT, .slice aP c.np kP, .slice aQ c.nq kQ, .slice aR c.nr kR] : Array Value).all (·.oneCell') = true) := ⟨CX.size, CX.one⟩
  have HX : Hid (IsC (#[.int .i64 c.fmt, .int .i64 c.map, .int .i64 c.sub, .bool c.vert, .bool c.four, .bool c.bat, .int .i64 c.con, .int .i64 c.kind, .int .i64 c.tim, .int .i64 c.dev, .int .i64 c.misc, .int .i64 c.pr, .int .i64 c.pn, .int .i64 c.cr, .int .i64 c.cn, .slice aT c.nt kT, .slice aP c.np kP, .slice aQ c.nq kQ, .slice aR c.nr kR]) c ∧ (#[.int .i64 c.fmt, .int .i64 c.map, .int .i64 c.sub, .bool c.vert, .bool c.four, .bool c.bat, .int .i64 c.con, .int .i64 c.kind, .int .i64 c.tim, .int .i64 c.dev, .int .i64 c.misc, .int .i64 c.pr, .int .i64 c.pn, .int .i64 c.cr, .int .i64 c.cn, .slice aT c.nt kT, .slice aP c.np kP, .slice aQ c.nq kQ, .slice aR c.nr kR] : Array Value)[15]? = some (.slice aT c.nt kT) ∧ (#[.int .i64 c.fmt, .int .i64 c.map, .int .i64 c.sub, .bool c.vert, .bool c.four, .bool c.bat, .int .i64 c.con, .int .i64 c.kind, .int .i64 c.tim, .int .i64 c.dev, .int .i64 c.misc, .int .i64 c.pr, .int .i64 c.pn, .int .i64 c.cr, .int .i64 c.cn, .slice aT c.nt kT, .slice aP c.np kP, .slice aQ c.nq kQ, .slice aR c.nr kR] : Array Value)[16]? = some (.slice aP c.np kP) ∧ (#[.int .i64 c.fmt, .int .i64 c.map, .int .i64 c.sub, .bool c.vert, .bool c.four, .bool c.bat, .int .i64 c.con, .int .i64 c.kind, .int .i64 c.tim, .int .i64 c.dev, .int .i64 c.misc, .int .i64 c.pr, .int .i64 c.pn, .int .i64 c.cr, .int .i64 c.cn, .slice aT c.nt kT, .slice aP c.np kP, .slice aQ c.nq kQ, .slice aR c.nr kR] : Array Value)[17]? = some (.slice aQ c.nq kQ) ∧ (#[.int .i64 c.fmt, .int .i64 c.map, .int .i64 c.sub, .bool c.vert, .bool c.four, .bool c.bat, .int .i64 c.con, .int .i64 c.kind, .int .i64 c.tim, .int .i64 c.dev, .int .i64 c.misc, .int .i64 c.pr, .int .i64 c.pn, .int .i64 c.cr, .int .i64 c.cn, .slice aT c.nt kT, .slice aP c.np kP, .slice aQ c.nq kQ, .slice aR c.nr kR] : Array Value)[18]? = some (.slice aR c.nr kR)) := ⟨CX, R15, R16, R17, R18⟩
  clear CX R15 R16 R17 R18
  generalize (#[.int .i64 c.fmt, .int .i64 c.map, .int .i64 c.sub, .bool c.vert, .bool c.four, .bool c.bat, .int .i64 c.con, .int .i64 c.kind, .int .i64 c.tim, .int .i64 c.dev, .int .i64 c.misc, .int .i64 c.pr, .int .i64 c.pn, .int .i64 c.cr, .int .i64 c.cn, .slice aT c.nt kT, .slice aP c.np kP, .slice aQ c.nq kQ, .slice aR c.nr kR] : Array Value) = xs at *
  go_wp2_with (first
    | refine wpList_load_mid rfl 25 _ rfl gc 0 rfl xs.toList _ bc8.range Tryd.underlying25 rfl (by rw [Array.length_toList, HA4.out.1]; exact Tryd.infoCart) ?_
    | refine wpList_store_mid rfl 25 _ _ rfl w.heap.size 0 xs rfl rfl (by exact z8.there _ HA4.out.1.symm) (by rw [HA4.out.1]; exact Tryd.infoCart) HA4.out.2 ?_)
  refine ret_agg1 (m := w.heap.size) (L := xs) Tryd.results26 (by rfl) (z8.setAll (L := xs) (by rw [HA4.out.1]; rfl)) Tryd.underlying25 rfl (by rw [HA4.out.1]; exact Tryd.infoCart) ?_
  exact ⟨xs, aT, kT, aP, kP, aQ, kQ, aR, kR, rfl, HX.out.1, HX.out.2, ⟨(RowF.puts hwm _ _ FT).mono (by omega), (RowF.puts hwm _ _ FP).mono (by omega), (RowF.puts hwm _ _ FQ).mono (by omega), (RowF.puts hwm _ _ FR).mono (by omega)⟩, setCells_below (Nat.le_refl _) _ _ _ _ bl8⟩
end Go.Proofs.YtpdbndkckioamaaDoor
