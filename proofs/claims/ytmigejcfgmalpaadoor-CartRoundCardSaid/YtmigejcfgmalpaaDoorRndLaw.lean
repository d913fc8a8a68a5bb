/-
  The law CartRound returns true of every cartridge; conditions: its numbers are ints, the tables lie in their variables.
-/
import Derived.Test.YtmigejcfgmalpaaDoorPar9
import Derived.Test.YtmigejcfgmalpaaDoorThrTw0
import Derived.Test.YtmigejcfgmalpaaDoorThrPlain
import Derived.Test.YtmigejcfgmalpaaDoorRndSum
set_option linter.unusedSimpArgs false
set_option linter.unusedVariables false
namespace Go.Proofs.YtmigejcfgmalpaaDoor
open Go.RowKit Classical
/-- The law's own cartridge, in its block. -/
structure Ra (w : World) (ds : Array Value) (d : CF) (T P Q R : List Nat) (W : World) : Prop where
  b : Blk W w.heap.size ds 24
  x : Ct W ds d T P Q R
  bl : Below w.heap.size w W
theorem Ra.below {w W W' : World} {ds : Array Value} {d : CF} {T P Q R : List Nat} (K : Ra w ds d T P Q R W) (hb : Below W.heap.size W W') : Ra w ds d T P Q R W' := ⟨K.b.below K.b.lt hb, K.x.below hb, K.bl.trans (hb.mono K.bl.size)⟩
/-- A cartridge in a block that the law made. -/
structure Rb (g : Nat) (es : Array Value) (e : CF) (T P Q R : List Nat) (W : World) : Prop where
  b : Blk W g es 24
  x : Cl W es e T P Q R
theorem Rb.below {g : Nat} {W W' : World} {es : Array Value} {e : CF} {T P Q R : List Nat} (K : Rb g es e T P Q R W) (hb : Below W.heap.size W W') : Rb g es e T P Q R W' := ⟨K.b.below K.b.lt hb, K.x.below hb⟩
theorem Rb.laid {W : World} {xs : Array Value} {e : CF} {T P Q R : List Nat} (X : Cl W xs e T P Q R) : Rb W.heap.size xs e T P Q R ((W.alloc (.cells Z19 24)).setCells W.heap.size 0 xs.toList) :=
  ⟨(Blk.new W Z19 24).setAll (L := xs) (by rw [X.c.size]; rfl), X.below (setCells_below (Nat.le_refl _) _ _ _ _ ((Below.refl _ _).alloc (Nat.le_refl _) _))⟩
theorem lb (W : World) (xs : Array Value) : Below W.heap.size W ((W.alloc (.cells Z19 24)).setCells W.heap.size 0 xs.toList) := setCells_below (Nat.le_refl _) _ _ _ _ ((Below.refl _ _).alloc (Nat.le_refl _) _)
set_option maxRecDepth 100000 in
set_option maxHeartbeats 6400000 in
theorem round_law (cs : Array Value) (c : CF) (p q fill : Int) (w : World) (C : IsC cs c)
    (h0 : -9223372036854775808 ≤ c.fmt ∧ c.fmt ≤ 9223372036854775807) (h1 : -9223372036854775808 ≤ c.map ∧ c.map ≤ 9223372036854775807) (h6 : -9223372036854775808 ≤ c.con ∧ c.con ≤ 9223372036854775807) (h8 : -9223372036854775808 ≤ c.tim ∧ c.tim ≤ 9223372036854775807) (h11 : -9223372036854775808 ≤ c.pr ∧ c.pr ≤ 9223372036854775807)
    (hp : -9223372036854775808 ≤ p ∧ p ≤ 9223372036854775807) (hq : -9223372036854775808 ≤ q ∧ q ≤ 9223372036854775807) (hf : -9223372036854775808 ≤ fill ∧ fill ≤ 9223372036854775807) (B : Bnd w) (Tt : Tz w) (Tb : Tab w) :
    Calls Tryd.prog 5 #[.agg cs, .int .i64 p, .int .i64 q, .int .i64 fill] w fun e w' => e = .returned (.bool true) ∧ Below w.heap.size w w' := by
  have HS : Hid (cs.size = 19) := C.size
  have hsz := C.size
  have PC : Hid (∀ W : World, Calls _ _ _ _ _) := fun W => plain_any cs c p q fill W C h0 h1 h6 h8 h11 hp hq hf
  clear h0 h1 h6 h8 h11 hp hq hf
  go_enter Tryd.func5, Tryd.ntmps5
  go_upto_region 1 with fail
  have hb0 : Below w.heap.size w (w.alloc (.cells cs 24)) := (Below.refl _ _).alloc (Nat.le_refl _) _
  have b0 : Blk (w.alloc (.cells cs 24)) w.heap.size cs 24 := Blk.new w cs _
  generalize w.alloc (.cells cs 24) = W0 at *
  clear hsz C
  go_cut [] (fun wx => ∃ ds d T P Q R, Ra w ds d T P Q R wx ∧ Th d)
  case first =>
    go_wp2_with (first
      | (refine wpList_load_mid rfl 24 _ rfl w.heap.size 0 rfl cs.toList _ b0.range Tryd.underlying24 rfl (by rw [Array.length_toList, HS.out]; exact Tryd.infoCart) ?_; rw [Array.toArray_toList])
      | (go_at_call 17; go_must (refine (PC.out _).mono ?_; rintro e W1 ⟨ds, d, T, P, Q, R, rfl, D, th, lt, lp, lq, lr, L1, L2, L3, L4, hb1⟩; have HD : Hid (ds.size = 19 ∧ ds.all (·.oneCell') = true) := ⟨D.size, D.one⟩; have b1 := b0.below b0.lt hb1; have hbw1 := hb0.trans (hb1.mono hb0.size); have hlt := b0.lt))
      | (refine wpList_store_mid rfl 24 _ _ rfl w.heap.size 0 ds rfl rfl (by exact b1.there _ (by rw [HD.out.1]; exact HS.out)) (by rw [HD.out.1]; exact Tryd.infoCart) HD.out.2 ?_))
    go_meet
    have M1 := L1.puts hlt ds.toList 0
    have M2 := L2.puts hlt ds.toList 0
    have M3 := L3.puts hlt ds.toList 0
    have M4 := L4.puts hlt ds.toList 0
    exact ⟨ds, d, T, P, Q, R, ⟨b1.setAll (L := ds) (by rw [HD.out.1, HS.out]), ⟨⟨D, lt, lp, lq, lr, M1.at lt, M2.at lp, M3.at lq, M4.at lr⟩, M1.bytes, M2.bytes, M3.bytes, M4.bytes⟩, setCells_below (Nat.le_refl _) _ _ _ _ hbw1⟩, th⟩
  case rest =>
  clear b0 hb0 PC HS
  obtain ⟨ds, d, T, P, Q, R, A0, th⟩ := hcut
  generalize wc = W1 at *
  clear W0
  go_upto_region 2 with fail
  have HS : Hid (ds.size = 19) := A0.x.x.c.size
  have hbd := th.bounds
  have hfit : Fit d 2 := .inl rfl
  obtain ⟨x1, hx1⟩ := hb_of th.self.1
  obtain ⟨x2, hx2⟩ := hb_of (th.turn hfit).1
  have hxf : x2.f = 2 := by have := hx2.cf; have e : (cvD d 2).fmt = 2 := rfl; omega
  have TW : Hid (∀ W : World, Ra w ds d T P Q R W → Calls _ _ _ _ _) := fun W K => twin_ct ds d T P Q R W K.x
  have VC : Hid (∀ (xs : Array Value) (W : World), Below w.heap.size w W → Cl W xs d T P Q R → Calls _ _ _ _ _) := fun xs W hb XL => convert_good xs d 2 T P Q R W XL hbd.1 hbd.2 (B.below B.lt hb) (Tt.below hb) (th.well hfit).1
  have VD : Hid (∀ (xs : Array Value) (W : World), Below w.heap.size w W → Cl W xs (cvD d 2) T P Q R → Calls _ _ _ _ _) := fun xs W hb XL => convert_good xs (cvD d 2) d.fmt T P Q R W XL hbd.1 hbd.2 (B.below B.lt hb) (Tt.below hb) (th.well hfit).2
  have BK : Hid (cvD (cvD d 2) d.fmt = d) := th.back 2
  have P1 : Hid (∀ (xs : Array Value) (W : World), Below w.heap.size w W → Cl W xs d T P Q R → Calls _ _ _ _ _) := fun xs W hb XL => print_any xs d x1 T P Q R W XL (fun _ => hx1) hbd.1 hbd.2 (B.below B.lt hb) (Tt.below hb)
  have P2 : Hid (∀ (xs : Array Value) (W : World), Below w.heap.size w W → Cl W xs (cvD d 2) T P Q R → Calls _ _ _ _ _) := fun xs W hb XL => print_any xs (cvD d 2) x2 T P Q R W XL (fun _ => hx2) hbd.1 hbd.2 (B.below B.lt hb) (Tt.below hb)
  have OK : Hid ((ckE d = 0 ∧ ckN d = 0) ∧ (ckE (cvD d 2) = 0 ∧ ckN (cvD d 2) = 0)) := ⟨th.self, th.turn hfit⟩
  go_cut [9, 10, 11] (fun p q r wx => ∃ g es, p = .pointer (some ⟨g, 0, none⟩) ∧ q = .int .i64 0 ∧ r = .int .i64 0 ∧ Rb g es (cvD d 2) T P Q R wx ∧ Ra w ds d T P Q R wx)
  case first =>
    go_wp2_with (first
      | (refine wpList_load_mid rfl 24 _ rfl w.heap.size 0 rfl ds.toList _ A0.b.range Tryd.underlying24 rfl (by rw [Array.length_toList, HS.out]; exact Tryd.infoCart) ?_; rw [Array.toArray_toList])
      | (go_at_call 14; go_must (refine (TW.out _ A0).mono ?_; rintro e W4 ⟨ys, rfl, YL, hb4⟩; have A4 := A0.below hb4))
      | (go_at_call 7; go_must (refine (VC.out _ _ A4.bl YL).mono ?_; rintro e W5 ⟨xs, rfl, XL, hb5⟩; have HX : Hid (xs.size = 19 ∧ xs.all (·.oneCell') = true) := ⟨XL.c.size, XL.c.one⟩; have A5 := A4.below hb5))
      | (refine wpList_store_mid rfl 24 _ _ rfl _ 0 xs rfl rfl ((Blk.new _ _ _).there _ (by first | exact HX.out.1.symm | (rw [HX.out.1]; rfl))) (by rw [HX.out.1]; exact Tryd.infoCart) HX.out.2 ?_))
    go_meet
    exact ⟨_, xs, rfl, rfl, rfl, Rb.laid XL, A5.below (lb _ _)⟩
  case rest =>
  clear A0 VC
  obtain ⟨g9, es, rfl, rfl, rfl, E9, A0⟩ := hcut
  generalize wc = W2 at *
  go_upto_region 3 with fail
  have HE : Hid (es.size = 19) := E9.x.c.size
  have HL1 : Hid (imL d x1 T P Q R = hdL d x1 ++ T ++ P ++ Q ++ R) := by unfold Hid imL; rw [if_pos OK.out.1.1]
  have HL2 : Hid (imL (cvD d 2) x2 T P Q R = hdL (cvD d 2) x2 ++ T ++ P ++ Q ++ R) := by unfold Hid imL; rw [if_pos OK.out.2.1]
  go_cut [12, 13, 14] (fun p q r wx => ∃ a n k, p = .slice a n k ∧ q = .int .i64 0 ∧ r = .int .i64 0 ∧ (hdL d x1 ++ T ++ P ++ Q ++ R).length = n ∧ Row wx a (hdL d x1 ++ T ++ P ++ Q ++ R) ∧ n ≤ k ∧ Rb g9 es (cvD d 2) T P Q R wx ∧ Ra w ds d T P Q R wx)
  case first =>
    go_wp2_with (first
      | (refine wpList_load_mid rfl 24 _ rfl w.heap.size 0 rfl ds.toList _ A0.b.range Tryd.underlying24 rfl (by rw [Array.length_toList, HS.out]; exact Tryd.infoCart) ?_; rw [Array.toArray_toList])
      | (go_at_call 14; go_must (refine (TW.out _ A0).mono ?_; rintro e W4 ⟨ys, rfl, YL, hb4⟩; have A4 := A0.below hb4; have E4 := E9.below hb4))
      | (go_at_call 13; go_must (refine (P1.out _ _ A4.bl YL).mono ?_; rintro e W5 ⟨a1, n1, k1, rfl, hn1, hr1, hk1, hb5⟩; rw [OK.out.1.1, OK.out.1.2])))
    go_meet
    exact ⟨a1, n1, k1, rfl, rfl, rfl, by rw [← HL1.out]; exact hn1, by rw [← HL1.out]; exact hr1, hk1, E4.below hb5, A4.below hb5⟩
  case rest =>
  clear A0 E9
  obtain ⟨a1, n1, k1, rfl, rfl, rfl, hn1, hr1, hk1, E9, A0⟩ := hcut
  generalize wc = W3 at *
  go_upto_region 4 with fail
  go_cut [15, 16, 17] (fun p q r wx => ∃ a n k, p = .slice a n k ∧ q = .int .i64 0 ∧ r = .int .i64 0 ∧ (hdL (cvD d 2) x2 ++ T ++ P ++ Q ++ R).length = n ∧ Row wx a (hdL (cvD d 2) x2 ++ T ++ P ++ Q ++ R) ∧ n ≤ k ∧ Row wx a1 (hdL d x1 ++ T ++ P ++ Q ++ R) ∧ Rb g9 es (cvD d 2) T P Q R wx ∧ Ra w ds d T P Q R wx)
  case first =>
    go_wp2_with (first
      | (refine wpList_load_mid rfl 24 _ rfl g9 0 rfl es.toList _ E9.b.range Tryd.underlying24 rfl (by rw [Array.length_toList, HE.out]; exact Tryd.infoCart) ?_; rw [Array.toArray_toList])
      | (go_at_call 13; go_must (refine (P2.out _ _ A0.bl E9.x).mono ?_; rintro e W5 ⟨a2, n2, k2, rfl, hn2, hr2, hk2, hb5⟩; rw [OK.out.2.1, OK.out.2.2])))
    go_meet
    exact ⟨a2, n2, k2, rfl, rfl, rfl, by rw [← HL2.out]; exact hn2, by rw [← HL2.out]; exact hr2, hk2, hr1.below hb5, E9.below hb5, A0.below hb5⟩
  case rest =>
  clear A0 E9 hr1
  obtain ⟨a2, n2, k2, rfl, rfl, rfl, hn2, hr2, hk2, hr1, E9, A0⟩ := hcut
  generalize wc = W4 at *
  go_upto_region 5 with fail
  obtain ⟨aT, kT, eT, rT⟩ := A0.x.x.rt
  obtain ⟨aP, kP, eP, rP⟩ := A0.x.x.rp
  obtain ⟨aQ, kQ, eQ, rQ⟩ := A0.x.x.rq
  obtain ⟨aR, kR, eR, rR⟩ := A0.x.x.rr
  have d15 := (A0.b.cell 15).trans eT
  have d16 := (A0.b.cell 16).trans eP
  have d17 := (A0.b.cell 17).trans eQ
  have d18 := (A0.b.cell 18).trans eR
  have HLE : Hid (T.length = d.nt ∧ P.length = d.np ∧ Q.length = d.nq ∧ R.length = d.nr) := ⟨A0.x.x.lt, A0.x.x.lp, A0.x.x.lq, A0.x.x.lr⟩
  have m15 : d.nt ≤ 512 := by have := th.nt; omega
  have m16 : d.np ≤ 65536 := by obtain ⟨j, h1, h2, h3⟩ := th.np; omega
  have m16' : 16384 ≤ d.np := by obtain ⟨j, h1, h2, h3⟩ := th.np; omega
  have m17 : d.nq ≤ 65536 := by obtain ⟨j, h1, h2⟩ := th.nq; omega
  have m18 : d.nr ≤ 9 := th.nr
  clear rT rP rQ rR
  have nn1 : n1 = 16 + d.nt + d.np + d.nq + d.nr := by rw [← hn1]; simp only [List.length_append, hdL_len, HLE.out.1, HLE.out.2.1, HLE.out.2.2.1, HLE.out.2.2.2]
  have nn2 : n2 = 16 + d.nt + d.np + d.nq + d.nr := by rw [← hn2]; simp only [List.length_append, hdL_len, HLE.out.1, HLE.out.2.1, HLE.out.2.2.1, HLE.out.2.2.2]
  go_upto_region 6 with fail
  obtain ⟨b1, o1, rfl⟩ : ∃ b o, a1 = some ⟨b, o, none⟩ := by
    rcases hr1 with e | ⟨b, o, e, _⟩
    · rw [e] at hn1; simp at hn1; omega
    · exact ⟨b, o, e⟩
  obtain ⟨b2, o2, rfl⟩ : ∃ b o, a2 = some ⟨b, o, none⟩ := by
    rcases hr2 with e | ⟨b, o, e, _⟩
    · rw [e] at hn2; simp at hn2; omega
    · exact ⟨b, o, e⟩
  have c1 : ((hdL d x1 ++ T ++ P ++ Q ++ R).drop 16).take (n1 - 16) = T ++ P ++ Q ++ R := by
    have := cut_end (hdL d x1) (T ++ P ++ Q ++ R) (hdL_len d x1) (show (T ++ P ++ Q ++ R).length = n1 - 16 by simp only [List.length_append, HLE.out.1, HLE.out.2.1, HLE.out.2.2.1, HLE.out.2.2.2]; omega)
    simpa [List.append_assoc] using this
  have c2 : ((hdL (cvD d 2) x2 ++ T ++ P ++ Q ++ R).drop 16).take (n2 - 16) = T ++ P ++ Q ++ R := by
    have := cut_end (hdL (cvD d 2) x2) (T ++ P ++ Q ++ R) (hdL_len _ x2) (show (T ++ P ++ Q ++ R).length = n2 - 16 by simp only [List.length_append, HLE.out.1, HLE.out.2.1, HLE.out.2.2.1, HLE.out.2.2.2]; omega)
    simpa [List.append_assoc] using this
  have SN : Hid (∀ nn : Nat, _) := fun nn : Nat => same_n (n1 - 16) (n2 - 16) (T ++ P ++ Q ++ R) (by simp only [List.length_append, HLE.out.1, HLE.out.2.1, HLE.out.2.2.1, HLE.out.2.2.2]; omega) (by simp only [List.length_append, HLE.out.1, HLE.out.2.1, HLE.out.2.2.1, HLE.out.2.2.2]; omega) (by omega) (some ⟨b1, o1 + 16, none⟩) (some ⟨b2, o2 + 16, none⟩) (k1 - 16) (k2 - 16) (W4.drewN nn) (by have := hr1.sub 16 (n1 - 16) (by rw [hn1]; omega); rw [c1] at this; exact this.drewN nn) (by have := hr2.sub 16 (n2 - 16) (by rw [hn2]; omega); rw [c2] at this; exact this.drewN nn)
  have HNN : Hid (n1 = 16 + d.nt + d.np + d.nq + d.nr ∧ n2 = 16 + d.nt + d.np + d.nq + d.nr) := ⟨nn1, nn2⟩
  have k16a : ¬ k1 = 16 := by omega
  have k16b : ¬ k2 = 16 := by omega
  have g1 : 16 ≤ n1 := by omega
  have g2 : 16 ≤ n2 := by omega
  have e1 : ((n1 : Int) != 16 + (d.nt : Int) + (d.np : Int) + (d.nq : Int) + (d.nr : Int)) = false := by rw [bne_eq_false_iff_eq]; omega
  have e2 : ((n2 : Int) != 16 + (d.nt : Int) + (d.np : Int) + (d.nq : Int) + (d.nr : Int)) = false := by rw [bne_eq_false_iff_eq]; omega
  clear nn1 nn2 c1 c2 d15 d16 d17 d18 eT eP eQ eR
  go_quiet ((go_at_call 18; exact Calls.quiet_of (SN.out _)))
  have hdw : Below W4.heap.size W4 (W4.drewN nq) := below_draws (Below.refl _ _) _
  replace A0 := A0.below hdw
  replace E9 := E9.below hdw
  replace hr1 := hr1.below hdw
  replace hr2 := hr2.below hdw
  clear SN hdw k16a k16b g1 g2 e1 e2 P2 TW
  generalize W4.drewN nq = W5 at *
  go_upto_region 8 with fail
  have PG : Hid (Calls _ _ _ _ _) := parse_good (cvD d 2) x2 OK.out.2.1 hx2 hxf T P Q R HLE.out.1 HLE.out.2.1 HLE.out.2.2.1 HLE.out.2.2.2 (some ⟨b2, o2, none⟩) n2 k2 W5 hn2 hk2 hr2
  have HR1 : Hid ((hdL d x1 ++ T ++ P ++ Q ++ R).length = n1 ∧ n1 ≤ k1) := ⟨hn1, hk1⟩
  clear hn1 hn2 hk1 hk2 hr2
  go_cut [10, 19, 20] (fun q p r wx => ∃ g xs, p = .pointer (some ⟨g, 0, none⟩) ∧ q = .int .i64 0 ∧ r = .int .i64 0 ∧ Rb g xs (cvD d 2) T P Q R wx ∧ Row wx (some ⟨b1, o1, none⟩) (hdL d x1 ++ T ++ P ++ Q ++ R) ∧ Rb g9 es (cvD d 2) T P Q R wx ∧ Ra w ds d T P Q R wx)
  case first =>
    go_wp2_with (first
      | (go_at_call 15; go_must (refine PG.out.mono ?_; rintro e W6 ⟨xs, rfl, XL, hb6⟩; have HX : Hid (xs.size = 19 ∧ xs.all (·.oneCell') = true) := ⟨XL.c.size, XL.c.one⟩; have A6 := A0.below hb6; have E6 := E9.below hb6; have r6 := hr1.below hb6))
      | (refine wpList_store_mid rfl 24 _ _ rfl _ 0 xs rfl rfl ((Blk.new _ _ _).there _ (by first | exact HX.out.1.symm | (rw [HX.out.1]; rfl))) (by rw [HX.out.1]; exact Tryd.infoCart) HX.out.2 ?_))
    go_meet
    exact ⟨_, xs, rfl, rfl, rfl, Rb.laid XL, r6.below (lb _ _), E6.below (lb _ _), A6.below (lb _ _)⟩
  case rest =>
  clear A0 E9 hr1 PG
  obtain ⟨g19, xs, rfl, rfl, rfl, X9, hr1, E9, A0⟩ := hcut
  generalize wc = W6 at *
  go_upto_region 9 with fail
  have HXS : Hid (xs.size = 19) := X9.x.c.size
  have d0 := (A0.b.cell 0).trans A0.x.x.c.h0
  go_cut [13, 21, 22] (fun q p r wx => ∃ g ys, p = .pointer (some ⟨g, 0, none⟩) ∧ q = .int .i64 0 ∧ r = .int .i64 0 ∧ Rb g ys d T P Q R wx ∧ Rb g19 xs (cvD d 2) T P Q R wx ∧ Row wx (some ⟨b1, o1, none⟩) (hdL d x1 ++ T ++ P ++ Q ++ R) ∧ Rb g9 es (cvD d 2) T P Q R wx ∧ Ra w ds d T P Q R wx)
  case first =>
    go_wp2_with (first
      | (refine wpList_load_mid rfl 24 _ rfl g19 0 rfl xs.toList _ X9.b.range Tryd.underlying24 rfl (by rw [Array.length_toList, HXS.out]; exact Tryd.infoCart) ?_; rw [Array.toArray_toList])
      | (go_at_call 7; go_must (refine (VD.out _ _ A0.bl X9.x).mono ?_; rintro e W7 ⟨ys, rfl, YL, hb7⟩; rw [BK.out] at YL; have HX : Hid (ys.size = 19 ∧ ys.all (·.oneCell') = true) := ⟨YL.c.size, YL.c.one⟩; have A7 := A0.below hb7; have E7 := E9.below hb7; have X7 := X9.below hb7; have r7 := hr1.below hb7))
      | (refine wpList_store_mid rfl 24 _ _ rfl _ 0 ys rfl rfl ((Blk.new _ _ _).there _ (by first | exact HX.out.1.symm | (rw [HX.out.1]; rfl))) (by rw [HX.out.1]; exact Tryd.infoCart) HX.out.2 ?_))
    go_meet
    exact ⟨_, ys, rfl, rfl, rfl, Rb.laid YL, X7.below (lb _ _), r7.below (lb _ _), E7.below (lb _ _), A7.below (lb _ _)⟩
  case rest =>
  clear A0 E9 hr1 X9 VD d0
  obtain ⟨g21, ys, rfl, rfl, rfl, Y9, X9, hr1, E9, A0⟩ := hcut
  generalize wc = W7 at *
  go_upto_region 10 with fail
  have HYS : Hid (ys.size = 19) := Y9.x.c.size
  go_cut [16, 23, 24] (fun q p r wx => ∃ a k, p = .slice a n1 k ∧ q = .int .i64 0 ∧ r = .int .i64 0 ∧ Row wx a (hdL d x1 ++ T ++ P ++ Q ++ R) ∧ Rb g21 ys d T P Q R wx ∧ Rb g19 xs (cvD d 2) T P Q R wx ∧ Row wx (some ⟨b1, o1, none⟩) (hdL d x1 ++ T ++ P ++ Q ++ R) ∧ Rb g9 es (cvD d 2) T P Q R wx ∧ Ra w ds d T P Q R wx)
  case first =>
    go_wp2_with (first
      | (refine wpList_load_mid rfl 24 _ rfl g21 0 rfl ys.toList _ Y9.b.range Tryd.underlying24 rfl (by rw [Array.length_toList, HYS.out]; exact Tryd.infoCart) ?_; rw [Array.toArray_toList])
      | (go_at_call 13; go_must (refine (P1.out _ _ A0.bl Y9.x).mono ?_; rintro e W8 ⟨a3, n3, k3, rfl, hn3, hr3, hk3, hb8⟩; rw [OK.out.1.1, OK.out.1.2]; rw [HL1.out] at hn3 hr3; obtain rfl : n3 = n1 := hn3.symm.trans HR1.out.1)))
    go_meet
    exact ⟨a3, k3, rfl, rfl, rfl, hr3, Y9.below hb8, X9.below hb8, hr1.below hb8, E9.below hb8, A0.below hb8⟩
  case rest =>
  clear A0 E9 hr1 X9 Y9 P1
  obtain ⟨a3, k3, rfl, rfl, rfl, hr3, Y9, X9, hr1, E9, A0⟩ := hcut
  generalize wc = W8 at *
  go_upto_region 11 with fail
  have EQ1 : Hid (Calls _ _ _ _ _) := equal_yes xs es (cvD d 2) T P Q R W8 X9.x E9.x
  go_wp2_with (first | (refine wpList_load_want (by rfl) 24 _ rfl g19 0 rfl xs.toList _ X9.b.range Tryd.underlying24 rfl (by rw [Array.length_toList, HXS.out]; exact Tryd.infoCart) ?_; rw [Array.toArray_toList]) | (refine wpList_load_want (by rfl) 24 _ rfl g9 0 rfl es.toList _ E9.b.range Tryd.underlying24 rfl (by rw [Array.length_toList, HE.out]; exact Tryd.infoCart) ?_; rw [Array.toArray_toList]))
  refine EQ1.out.mono ?_
  rintro e W9 ⟨rfl, hb9⟩
  replace A0 := A0.below hb9
  replace X9 := X9.below hb9
  replace Y9 := Y9.below hb9
  replace hr1 := hr1.below hb9
  replace hr3 := hr3.below hb9
  clear EQ1 E9 hb9
  have EQ2 : Hid (Calls _ _ _ _ _) := equal_yes ys ds d T P Q R W9 Y9.x A0.x.x
  go_wp2_with (first | (refine wpList_load_want (by rfl) 24 _ rfl g21 0 rfl ys.toList _ Y9.b.range Tryd.underlying24 rfl (by rw [Array.length_toList, HYS.out]; exact Tryd.infoCart) ?_; rw [Array.toArray_toList]) | (refine wpList_load_want (by rfl) 24 _ rfl w.heap.size 0 rfl ds.toList _ A0.b.range Tryd.underlying24 rfl (by rw [Array.length_toList, HS.out]; exact Tryd.infoCart) ?_; rw [Array.toArray_toList]))
  refine EQ2.out.mono ?_
  rintro e W10 ⟨rfl, hb10⟩
  replace A0 := A0.below hb10
  replace X9 := X9.below hb10
  replace Y9 := Y9.below hb10
  replace hr1 := hr1.below hb10
  replace hr3 := hr3.below hb10
  clear EQ2 hb10
  have SN : Hid (Calls _ _ _ _ _) := same_n n1 n1 (hdL d x1 ++ T ++ P ++ Q ++ R) HR1.out.1 HR1.out.1 (by have := HNN.out.1; omega) a3 (some ⟨b1, o1, none⟩) k3 k1 W10 hr3 hr1
  go_wp2_with fail
  refine SN.out.mono ?_
  rintro e W11 ⟨rfl, j11, hj⟩
  have hb11 : Below W10.heap.size W10 W11 := by rw [hj]; exact below_draws (Below.refl _ _) _
  replace A0 := A0.below hb11
  replace X9 := X9.below hb11
  replace Y9 := Y9.below hb11
  replace hr1 := hr1.below hb11
  clear SN hb11 hj hr3
  go_upto_region 13 with fail
  have HBY : Hid (Bytes P ∧ Bytes Q) := ⟨A0.x.bp, A0.x.bq⟩
  obtain ⟨sp1, sk1, se1, sr1⟩ := A0.x.x.rp
  obtain ⟨sq1, sl1, sf1, ss1⟩ := A0.x.x.rq
  have SU : Hid (Calls _ _ _ _ _) := sum_any ds HS.out P Q sp1 sq1 d.np d.nq sk1 sl1 W11 HLE.out.2.1 HLE.out.2.2.1 HBY.out.1 HBY.out.2 (by omega) (by omega) se1 sf1 sr1 ss1 (Tb.below Tb.lt A0.bl)
  clear se1 sf1 sr1 ss1
  go_wp2_with (refine wpList_load_mid rfl 24 _ rfl w.heap.size 0 rfl ds.toList _ A0.b.range Tryd.underlying24 rfl (by rw [Array.length_toList, HS.out]; exact Tryd.infoCart) ?_; rw [Array.toArray_toList])
  refine SU.out.mono ?_
  rintro e V1 ⟨rfl, hv1⟩
  replace A0 := A0.below hv1
  replace X9 := X9.below hv1
  replace Y9 := Y9.below hv1
  replace hr1 := hr1.below hv1
  clear SU hv1
  go_upto_region 14 with fail
  obtain ⟨sp2, sk2, se2, sr2⟩ := X9.x.rp
  obtain ⟨sq2, sl2, sf2, ss2⟩ := X9.x.rq
  have SU : Hid (Calls _ _ _ _ _) := sum_any xs HXS.out P Q sp2 sq2 d.np d.nq sk2 sl2 V1 HLE.out.2.1 HLE.out.2.2.1 HBY.out.1 HBY.out.2 (by omega) (by omega) se2 sf2 sr2 ss2 (Tb.below Tb.lt A0.bl)
  clear se2 sf2 sr2 ss2
  go_wp2_with (refine wpList_load_mid rfl 24 _ rfl g19 0 rfl xs.toList _ X9.b.range Tryd.underlying24 rfl (by rw [Array.length_toList, HXS.out]; exact Tryd.infoCart) ?_; rw [Array.toArray_toList])
  refine SU.out.mono ?_
  rintro e V2 ⟨rfl, hv2⟩
  replace A0 := A0.below hv2
  replace X9 := X9.below hv2
  replace Y9 := Y9.below hv2
  replace hr1 := hr1.below hv2
  clear SU hv2
  go_upto_region 15 with fail
  obtain ⟨sp3, sk3, se3, sr3⟩ := Y9.x.rp
  obtain ⟨sq3, sl3, sf3, ss3⟩ := Y9.x.rq
  have SU : Hid (Calls _ _ _ _ _) := sum_any ys HYS.out P Q sp3 sq3 d.np d.nq sk3 sl3 V2 HLE.out.2.1 HLE.out.2.2.1 HBY.out.1 HBY.out.2 (by omega) (by omega) se3 sf3 sr3 ss3 (Tb.below Tb.lt A0.bl)
  clear se3 sf3 sr3 ss3
  go_wp2_with (refine wpList_load_mid rfl 24 _ rfl g21 0 rfl ys.toList _ Y9.b.range Tryd.underlying24 rfl (by rw [Array.length_toList, HYS.out]; exact Tryd.infoCart) ?_; rw [Array.toArray_toList])
  refine SU.out.mono ?_
  rintro e V3 ⟨rfl, hv3⟩
  replace A0 := A0.below hv3
  replace X9 := X9.below hv3
  replace Y9 := Y9.below hv3
  replace hr1 := hr1.below hv3
  clear SU hv3
  go_upto_region 16 with fail
  obtain ⟨zT, lT, yT, -⟩ := A0.x.x.rt
  obtain ⟨zP, lP, yP, -⟩ := A0.x.x.rp
  obtain ⟨zQ, lQ, yQ, -⟩ := A0.x.x.rq
  have d15 := (A0.b.cell 15).trans yT
  have d16 := (A0.b.cell 16).trans yP
  have d17 := (A0.b.cell 17).trans yQ
  have hn1k : n1 ≤ k1 := HR1.out.2
  have hN := HNN.out.1
  have cM : ((hdL d x1 ++ T ++ P ++ Q ++ R).drop (16 + d.nt)).take (d.np + d.nq) = P ++ Q := by
    have := cut_mid (hdL d x1 ++ T) (P ++ Q) R (show (hdL d x1 ++ T).length = 16 + d.nt by rw [List.length_append, hdL_len, HLE.out.1]) (show (P ++ Q).length = d.np + d.nq by rw [List.length_append, HLE.out.2.1, HLE.out.2.2.1])
    simpa [List.append_assoc] using this
  have rM : Row V3 (some ⟨b1, o1 + (16 + d.nt), none⟩) (P ++ Q) := by
    have := hr1.sub (16 + d.nt) (d.np + d.nq) (by rw [HR1.out.1]; omega)
    rwa [cM] at this
  have bPQ : Bytes (P ++ Q) := fun y hy => by
    rcases List.mem_append.1 hy with h | h
    · exact HBY.out.1 y h
    · exact HBY.out.2 y h
  have kne : ¬ k1 = 16 + d.nt := by omega
  have ksum : 16 + d.nt + d.np + d.nq ≤ k1 := by omega
  have CR : Hid (∀ cp : Nat, Calls _ _ _ _ _) := fun cp => crc_n (d.np + d.nq) (P ++ Q) (by rw [List.length_append, HLE.out.2.1, HLE.out.2.2.1]) bPQ (by omega) (some ⟨b1, o1 + (16 + d.nt), none⟩) cp V3 rM (Tb.below Tb.lt A0.bl)
  clear yT yP yQ cM rM bPQ hN
  go_wp2_with fail
  have eN : 16 + d.nt + d.np + d.nq - (16 + d.nt) = d.np + d.nq := by omega
  rw [eN]
  refine (CR.out _).mono ?_
  rintro e V4 ⟨rfl, rfl⟩
  have qq : (((crc (P ++ Q) : Nat) : Int) == ((crc (P ++ Q) : Nat) : Int)) = true := by simp
  generalize crc (P ++ Q) = cc at *
  clear CR d15 d16 d17 kne ksum eN
  go_wp2
  go_ret
  exact ⟨rfl, A0.bl⟩
end Go.Proofs.YtmigejcfgmalpaaDoor
