/-
  What the function twice answers of a cartridge that can be told in the other format: true; conditions: its lists lie in memory, the tables in their variables.
-/
import Derived.Test.YtmgflaagddlheaaDoorThrSpec
import Derived.Test.YtmgflaagddlheaaDoorThrTwin
import Derived.Test.YtmgflaagddlheaaDoorCnvCode
set_option linter.unusedSimpArgs false
set_option linter.unusedVariables false
namespace Go.Proofs.YtmgflaagddlheaaDoor
open Go.RowKit Classical
theorem Th.bounds {d : CF} (h : Th d) : (-9223372036854775808 ≤ d.pr ∧ d.pr ≤ 9223372036854775807) ∧ (-9223372036854775808 ≤ d.pn ∧ d.pn ≤ 9223372036854775807) := by
  obtain ⟨k, hk, -, hr, hn⟩ := h.work
  have hp : ∀ k : Nat, k ≤ 7 → (1 : Int) ≤ 2 ^ k ∧ (2 : Int) ^ k ≤ 128 := by decide
  have := hp k hk
  rw [hr, hn]
  cases d.bat <;> simp <;> omega
/-- What the law knows of a cartridge. -/
structure Ct (W : World) (cs : Array Value) (d : CF) (T P Q R : List Nat) : Prop where
  x : Cl W cs d T P Q R
  bt : Bytes T
  bp : Bytes P
  bq : Bytes Q
  br : Bytes R
theorem Ct.below {W W' : World} {cs : Array Value} {d : CF} {T P Q R : List Nat} (h : Ct W cs d T P Q R) (hb : Below W.heap.size W W') : Ct W' cs d T P Q R := ⟨h.x.below hb, h.bt, h.bp, h.bq, h.br⟩
theorem twin_ct (cs : Array Value) (d : CF) (T P Q R : List Nat) (w : World) (X : Ct w cs d T P Q R) :
    Calls Tryd.prog 19 #[.agg cs] w fun e w' => ∃ xs, e = .returned (.agg xs) ∧ Cl w' xs d T P Q R ∧ Below w.heap.size w w' := by
  obtain ⟨a1, k1, e1, r1⟩ := X.x.rt
  obtain ⟨a2, k2, e2, r2⟩ := X.x.rp
  obtain ⟨a3, k3, e3, r3⟩ := X.x.rq
  obtain ⟨a4, k4, e4, r4⟩ := X.x.rr
  have C : CartAt w cs T P Q R a1 a2 a3 a4 d.nt d.np d.nq d.nr k1 k2 k3 k4 := ⟨X.x.c.size, X.x.c.one, X.x.lt, X.x.lp, X.x.lq, X.x.lr, X.bt, X.bp, X.bq, X.br, X.x.c.mt, X.x.c.mp, X.x.c.mq, X.x.c.mr, e1, e2, e3, e4, r1, r2, r3, r4⟩
  refine (twin_any cs T P Q R a1 a2 a3 a4 d.nt d.np d.nq d.nr k1 k2 k3 k4 w C).mono ?_
  rintro e w' ⟨gt, gp, gq, gr, rfl, -, -, -, -, ot, op, oq, or, hb⟩
  exact ⟨_, rfl, cl_lists X.x.c X.x.lt X.x.lp X.x.lq X.x.lr _ _ _ _ _ _ _ _ ot.row op.row oq.row or.row, hb⟩
theorem convert_good (cs : Array Value) (c : CF) (f : Int) (T P Q R : List Nat) (w : World) (X : Cl w cs c T P Q R) (hpr : -9223372036854775808 ≤ c.pr ∧ c.pr ≤ 9223372036854775807) (hpn : -9223372036854775808 ≤ c.pn ∧ c.pn ≤ 9223372036854775807) (B : Bnd w) (Tt : Tz w) (hk : cvK c f = 3) :
    Calls Tryd.prog 9 #[.agg cs, .int .i64 f] w fun e w' => ∃ xs, e = .returned (.tuple #[.agg xs, .int .i64 0, .int .i64 0]) ∧ Cl w' xs (cvD c f) T P Q R ∧ Below w.heap.size w w' := by
  refine (convert_any cs c f T P Q R w X hpr hpn B Tt).mono ?_
  rintro e w' ⟨xs, rfl, XL, hb⟩
  refine ⟨xs, by unfold cvE cvN; rw [hk]; rfl, ?_, hb⟩
  unfold cvC cvT at XL
  rwa [if_pos hk, if_pos hk, if_pos hk, if_pos hk, if_pos hk] at XL
set_option maxRecDepth 100000 in
set_option maxHeartbeats 3200000 in
theorem twice_any (cs : Array Value) (d : CF) (T P Q R : List Nat) (f : Int) (w : World) (X : Ct w cs d T P Q R) (th : Th d) (hf : Fit d f) (B : Bnd w) (Tt : Tz w) :
    Calls Tryd.prog 7 #[.agg cs, .int .i64 f] w fun e w' => e = .returned (.bool true) ∧ Below w.heap.size w w' := by
  have HS : Hid (cs.size = 19) := X.x.c.size
  have hsz := X.x.c.size
  have hbd := th.bounds
  go_enter Tryd.func7, Tryd.ntmps7
  go_upto_region 1 with fail
  have hb0 : Below w.heap.size w (w.alloc (.cells cs 24)) := (Below.refl _ _).alloc (Nat.le_refl _) _
  have b0 : Blk (w.alloc (.cells cs 24)) w.heap.size cs 24 := Blk.new w cs _
  generalize w.alloc (.cells cs 24) = W0 at *
  clear hsz
  have XH : Hid (∀ W : World, Below w.heap.size w W → Ct W cs d T P Q R) := fun W hb => X.below hb
  have TC : Hid (Calls _ _ _ _ _) := twin_ct cs d T P Q R W0 (X.below hb0)
  have VC : Hid (∀ (xs : Array Value) (W : World), Below w.heap.size w W → Cl W xs d T P Q R → Calls _ _ _ _ _) := fun xs W hb XL => convert_good xs d f T P Q R W XL hbd.1 hbd.2 (B.below B.lt hb) (Tt.below hb) (th.well hf).1
  have VD : Hid (∀ (xs : Array Value) (W : World), Below w.heap.size w W → Cl W xs (cvD d f) T P Q R → Calls _ _ _ _ _) := fun xs W hb XL => convert_good xs (cvD d f) d.fmt T P Q R W XL hbd.1 hbd.2 (B.below B.lt hb) (Tt.below hb) (th.well hf).2
  have CK : Hid (∀ (xs : Array Value) (W : World), Below w.heap.size w W → Cl W xs (cvD d f) T P Q R → Calls _ _ _ _ _) := fun xs W hb XL => check_any xs (cvD d f) XL.c hbd.1 hbd.2 W (B.below B.lt hb) (Tt.below hb)
  have BK : Hid (cvD (cvD d f) d.fmt = d) := th.back f
  have OK : Hid (ckE (cvD d f) = 0 ∧ ckN (cvD d f) = 0) := th.turn hf
  clear B Tt th hf hbd X
  go_cut [5, 6, 7] (fun p q r wx => ∃ g xs, p = .pointer (some ⟨g, 0, none⟩) ∧ q = .int .i64 0 ∧ r = .int .i64 0 ∧ Blk wx g xs 24 ∧ Cl wx xs (cvD d f) T P Q R ∧ Blk wx w.heap.size cs 24 ∧ Below w.heap.size w wx)
  case first =>
    go_wp2_with (first
      | (refine wpList_load_mid rfl 24 _ rfl w.heap.size 0 rfl cs.toList _ b0.range Tryd.underlying24 rfl (by rw [Array.length_toList, HS.out]; exact Tryd.infoCart) ?_; rw [Array.toArray_toList])
      | (go_at_call 19; go_must (refine TC.out.mono ?_; rintro e W4 ⟨ys, rfl, YL, hb4⟩; have hbw4 := hb0.trans (hb4.mono hb0.size); have b4 := b0.below b0.lt hb4))
      | (go_at_call 9; go_must (refine (VC.out _ _ hbw4 YL).mono ?_; rintro e W5 ⟨xs, rfl, XL, hb5⟩; have HX : Hid (xs.size = 19 ∧ xs.all (·.oneCell') = true) := ⟨XL.c.size, XL.c.one⟩; have hbw5 := hbw4.trans (hb5.mono hbw4.size); have b5 := b4.below b4.lt hb5))
      | (refine wpList_store_mid rfl 24 _ _ rfl _ 0 xs rfl rfl ((Blk.new _ _ _).there _ (by first | exact HX.out.1.symm | (rw [HX.out.1]; rfl))) (by rw [HX.out.1]; exact Tryd.infoCart) HX.out.2 ?_))
    go_meet
    have hl : Below W5.heap.size W5 ((W5.alloc (.cells Z19 24)).setCells W5.heap.size 0 xs.toList) := setCells_below (Nat.le_refl _) _ _ _ _ ((Below.refl _ _).alloc (Nat.le_refl _) _)
    exact ⟨_, xs, rfl, rfl, rfl, (Blk.new W5 Z19 24).setAll (L := xs) HX.out.1, XL.below hl, b5.below b5.lt hl, hbw5.trans (hl.mono hbw5.size)⟩
  case rest =>
  clear TC VC b0 hb0
  obtain ⟨g, xs, rfl, rfl, rfl, bx, XL, bc, hbw⟩ := hcut
  generalize wc = W1 at *
  clear W0
  have XC := XH.out _ hbw
  have p0 := (bx.cell 0).trans (show _ = some (.int .i64 f) from XL.c.h0)
  have p1 := (bx.cell 1).trans (show _ = some (.int .i64 d.map) from XL.c.h1)
  have p3 := (bx.cell 3).trans (show _ = some (.bool d.vert) from XL.c.h3)
  have p4 := (bx.cell 4).trans (show _ = some (.bool d.four) from XL.c.h4)
  have p5 := (bx.cell 5).trans (show _ = some (.bool d.bat) from XL.c.h5)
  have q0 := (bc.cell 0).trans XC.x.c.h0
  have q1 := (bc.cell 1).trans XC.x.c.h1
  have q3 := (bc.cell 3).trans XC.x.c.h3
  have q4 := (bc.cell 4).trans XC.x.c.h4
  have q5 := (bc.cell 5).trans XC.x.c.h5
  have u0 : (f != f) = false := by simp
  have u1 : (d.map != d.map) = false := by simp
  obtain ⟨a2, j2, e2, r2⟩ := XC.x.rp
  obtain ⟨a3, j3, e3, r3⟩ := XC.x.rq
  obtain ⟨b2, k2, f2, s2⟩ := XL.rp
  obtain ⟨b3, k3, f3, s3⟩ := XL.rq
  have q16 := (bc.cell 16).trans e2
  have q17 := (bc.cell 17).trans e3
  have p16 := (bx.cell 16).trans (show _ = some (.slice b2 d.np k2) from f2)
  have p17 := (bx.cell 17).trans (show _ = some (.slice b3 d.nq k3) from f3)
  have S2 : Hid (∀ nn : Nat, _) := fun nn : Nat => same_n d.np d.np P XC.x.lp XC.x.lp (by have := XC.x.c.mp; omega) a2 b2 j2 k2 (W1.drewN nn) (r2.drewN nn) (s2.drewN nn)
  have S3 : Hid (∀ nn : Nat, _) := fun nn : Nat => same_n d.nq d.nq Q XC.x.lq XC.x.lq (by have := XC.x.c.mq; omega) a3 b3 j3 k3 (W1.drewN nn) (r3.drewN nn) (s3.drewN nn)
  have D : Hid (∀ a b : Nat, (W1.drewN a).drewN b = W1.drewN (a + b)) := fun a b => by rw [drewN_two]
  have XX : Hid (Cl W1 xs (cvD d f) T P Q R ∧ Ct W1 cs d T P Q R) := ⟨XL, XC⟩
  clear XL XC e2 e3 f2 f3 r2 r3 s2 s3
  go_upto_region 4 with fail
  cases hv : d.vert <;> cases hfo : d.four <;> cases hba : d.bat
  all_goals
    rw [hv] at p3 q3
    rw [hfo] at p4 q4
    rw [hba] at p5 q5
    clear hv hfo hba
    go_wp2_with fail
    refine (S2.out 0).mono ?_
    rintro e w1 ⟨rfl, m2, hw1⟩
    rw [D.out] at hw1
    subst hw1
    go_wp2_with fail
    refine (S3.out _).mono ?_
    rintro e w1 ⟨rfl, m3, hw1⟩
    rw [D.out] at hw1
    subst hw1
    go_upto_region 6 with fail
    clear S2 S3 D u0 u1 p0 p1 p3 p4 p5 q1 q3 q4 q5 p16 p17 q16 q17
    have hdr : Below W1.heap.size W1 (W1.drewN (m2 + m3)) := below_draws (Below.refl _ _) _
    have bx2 := bx.below bx.lt hdr
    have bc2 := bc.below bc.lt hdr
    have hbw2 := hbw.trans (hdr.mono hbw.size)
    have XX2 : Hid (Cl (W1.drewN (m2 + m3)) xs (cvD d f) T P Q R ∧ Ct (W1.drewN (m2 + m3)) cs d T P Q R) := ⟨XX.out.1.below hdr, XX.out.2.below hdr⟩
    clear bx bc hbw XX q0 hdr
    generalize W1.drewN (m2 + m3) = W2 at *
    have HX : Hid (xs.size = 19) := XX2.out.1.c.size
    have CKC : Hid (Calls _ _ _ _ _) := CK.out xs W2 hbw2 XX2.out.1
    go_wp2_with (first
      | (refine wpList_load_mid rfl 24 _ rfl g 0 rfl xs.toList _ bx2.range Tryd.underlying24 rfl (by rw [Array.length_toList, HX.out]; exact Tryd.infoCart) ?_; rw [Array.toArray_toList]))
    refine CKC.out.mono ?_
    rintro e W3 ⟨rfl, hb3⟩
    rw [OK.out.1, OK.out.2]
    have bx3 := bx2.below bx2.lt hb3
    have bc3 := bc2.below bc2.lt hb3
    have hbw3 := hbw2.trans (hb3.mono hbw2.size)
    have XX3 : Hid (Cl W3 xs (cvD d f) T P Q R ∧ Ct W3 cs d T P Q R) := ⟨XX2.out.1.below hb3, XX2.out.2.below hb3⟩
    clear bx2 bc2 hbw2 XX2 CKC hb3 CK
    go_upto_region 7 with fail
    have q0 := (bc3.cell 0).trans XX3.out.2.x.c.h0
    have VDC : Hid (Calls _ _ _ _ _) := VD.out xs W3 hbw3 XX3.out.1
    go_cut [6, 10, 11] (fun q p r wx => ∃ g ys, p = .pointer (some ⟨g, 0, none⟩) ∧ q = .int .i64 0 ∧ r = .int .i64 0 ∧ Blk wx g ys 24 ∧ Cl wx ys d T P Q R ∧ Blk wx w.heap.size cs 24 ∧ Below w.heap.size w wx)
    case first =>
      go_wp2_with (first
        | (refine wpList_load_mid rfl 24 _ rfl g 0 rfl xs.toList _ bx3.range Tryd.underlying24 rfl (by rw [Array.length_toList, HX.out]; exact Tryd.infoCart) ?_; rw [Array.toArray_toList])
        | (go_at_call 9; go_must (refine VDC.out.mono ?_; rintro e W5 ⟨ys, rfl, YL, hb5⟩; rw [BK.out] at YL; have HY : Hid (ys.size = 19 ∧ ys.all (·.oneCell') = true) := ⟨YL.c.size, YL.c.one⟩; have hbw5 := hbw3.trans (hb5.mono hbw3.size); have b5 := bc3.below bc3.lt hb5))
        | (refine wpList_store_mid rfl 24 _ _ rfl _ 0 ys rfl rfl ((Blk.new _ _ _).there _ (by first | exact HY.out.1.symm | (rw [HY.out.1]; rfl))) (by rw [HY.out.1]; exact Tryd.infoCart) HY.out.2 ?_))
      go_meet
      have hl : Below W5.heap.size W5 ((W5.alloc (.cells Z19 24)).setCells W5.heap.size 0 ys.toList) := setCells_below (Nat.le_refl _) _ _ _ _ ((Below.refl _ _).alloc (Nat.le_refl _) _)
      exact ⟨_, ys, rfl, rfl, rfl, (Blk.new W5 Z19 24).setAll (L := ys) HY.out.1, YL.below hl, b5.below b5.lt hl, hbw5.trans (hl.mono hbw5.size)⟩
    case rest =>
    clear VD VDC q0 bx3 bc3 hbw3 XX3
    obtain ⟨g2, ys, rfl, rfl, rfl, bY, YL, bC, hbw6⟩ := hcut
    have HY : Hid (ys.size = 19) := YL.c.size
    have EC : Hid (Calls _ _ _ _ _) := equal_yes cs ys d T P Q R wc (XH.out _ hbw6).x YL
    clear YL XH
    go_wp2_with (first
      | (refine wpList_load_want (by rfl) 24 _ rfl w.heap.size 0 rfl cs.toList _ bC.range Tryd.underlying24 rfl (by rw [Array.length_toList, HS.out]; exact Tryd.infoCart) ?_; rw [Array.toArray_toList])
      | (refine wpList_load_want (by rfl) 24 _ rfl g2 0 rfl ys.toList _ bY.range Tryd.underlying24 rfl (by rw [Array.length_toList, HY.out]; exact Tryd.infoCart) ?_; rw [Array.toArray_toList]))
    refine EC.out.mono ?_
    rintro e W7 ⟨rfl, hb7⟩
    go_wp2
    go_ret
    exact ⟨rfl, hbw6.trans (hb7.mono hbw6.size)⟩
end Go.Proofs.YtmgflaagddlheaaDoor
