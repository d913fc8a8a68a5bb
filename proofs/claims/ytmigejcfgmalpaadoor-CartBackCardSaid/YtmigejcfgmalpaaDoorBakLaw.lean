/-
  The law CartBack returns true of every cartridge; conditions: its numbers are ints, the tables lie in their variables.
-/
import Derived.Test.YtmigejcfgmalpaaDoorPar9
import Derived.Test.YtmigejcfgmalpaaDoorThrTw0
import Derived.Test.YtmigejcfgmalpaaDoorCopied
import Derived.Test.YtmigejcfgmalpaaDoorBakWhole
set_option linter.unusedSimpArgs false
set_option linter.unusedVariables false
namespace Go.Proofs.YtmigejcfgmalpaaDoor
open Go.RowKit
/-- The law's own cartridge, in its block. -/
structure Ra (w : World) (ds : Array Value) (d : CF) (T P Q R : List Nat) (W : World) : Prop where
  b : Blk W w.heap.size ds 24
  x : Ct W ds d T P Q R
  bl : Below w.heap.size w W
theorem Ra.below {w W W' : World} {ds : Array Value} {d : CF} {T P Q R : List Nat} (K : Ra w ds d T P Q R W) (hb : Below W.heap.size W W') : Ra w ds d T P Q R W' := ⟨K.b.below K.b.lt hb, K.x.below hb, K.bl.trans (hb.mono K.bl.size)⟩
/-- A cartridge in a block that the law made. -/
structure Rb (g : Nat) (es : Array Value) (e : CF) (T P Q R : List Nat) (W : World) : Prop where
  b : Blk W g es 24
  x : Cl W es e T P Q R
theorem Rb.below {g : Nat} {W W' : World} {es : Array Value} {e : CF} {T P Q R : List Nat} (K : Rb g es e T P Q R W) (hb : Below W.heap.size W W') : Rb g es e T P Q R W' := ⟨K.b.below K.b.lt hb, K.x.below hb⟩
theorem Rb.laid {W : World} {xs : Array Value} {e : CF} {T P Q R : List Nat} (X : Cl W xs e T P Q R) : Rb W.heap.size xs e T P Q R ((W.alloc (.cells Z19 24)).setCells W.heap.size 0 xs.toList) :=
  ⟨(Blk.new W Z19 24).setAll (L := xs) (by rw [X.c.size]; rfl), X.below (setCells_below (Nat.le_refl _) _ _ _ _ ((Below.refl _ _).alloc (Nat.le_refl _) _))⟩
theorem lb (W : World) (xs : Array Value) : Below W.heap.size W ((W.alloc (.cells Z19 24)).setCells W.heap.size 0 xs.toList) := setCells_below (Nat.le_refl _) _ _ _ _ ((Below.refl _ _).alloc (Nat.le_refl _) _)
theorem copied_row (n : Nat) (l : List Nat) (hn : l.length = n) (hl : Bytes l) (hlen : n ≤ 140737488351232) (a : Option Addr) (cap : Nat) (w : World) (hrow : Row w a l) :
    Calls Tryd.prog 16 #[.slice a n cap] w fun e w' => ∃ g, e = .returned (.slice (some ⟨g, 0, none⟩) n n) ∧ Row w' (some ⟨g, 0, none⟩) l ∧ Below w.heap.size w w' := by
  subst hn
  refine (copied_any l hl hlen a cap w hrow).mono ?_
  rintro e w' ⟨g, rfl, hg, ho, hb⟩
  exact ⟨g, rfl, (RowF.of_own ho hg).row, hb⟩
set_option maxRecDepth 100000 in
set_option maxHeartbeats 6400000 in
theorem back_law (cs : Array Value) (c : CF) (p q fill : Int) (w : World) (C : IsC cs c) (N : Num c)
    (hp : -9223372036854775808 ≤ p ∧ p ≤ 9223372036854775807) (hq : -9223372036854775808 ≤ q ∧ q ≤ 9223372036854775807) (hf : -9223372036854775808 ≤ fill ∧ fill ≤ 9223372036854775807) (B : Bnd w) (Tt : Tz w) :
    Calls Tryd.prog 4 #[.agg cs, .int .i64 p, .int .i64 q, .int .i64 fill] w fun e w' => e = .returned (.bool true) ∧ Below w.heap.size w w' := by
  have HS : Hid (cs.size = 19) := C.size
  have hsz := C.size
  have PC : Hid (∀ W : World, Calls _ _ _ _ _) := fun W => whole_wh cs c p q fill W C N hp hq hf
  clear hp hq hf N
  go_enter Tryd.func4, Tryd.ntmps4
  go_upto_region 1 with fail
  have hb0 : Below w.heap.size w (w.alloc (.cells cs 24)) := (Below.refl _ _).alloc (Nat.le_refl _) _
  have b0 : Blk (w.alloc (.cells cs 24)) w.heap.size cs 24 := Blk.new w cs _
  generalize w.alloc (.cells cs 24) = W0 at *
  clear hsz C
  go_cut [] (fun wx => ∃ ds d T P Q R, Ra w ds d T P Q R wx ∧ Wh d)
  case first =>
    go_wp2_with (first
      | (refine wpList_load_mid rfl 24 _ rfl w.heap.size 0 rfl cs.toList _ b0.range Tryd.underlying24 rfl (by rw [Array.length_toList, HS.out]; exact Tryd.infoCart) ?_; rw [Array.toArray_toList])
      | (go_at_call 12; go_must (refine (PC.out _).mono ?_; rintro e W1 ⟨ds, d, T, P, Q, R, rfl, D, wh, lt, lp, lq, lr, L1, L2, L3, L4, hb1⟩; have HD : Hid (ds.size = 19 ∧ ds.all (·.oneCell') = true) := ⟨D.size, D.one⟩; have b1 := b0.below b0.lt hb1; have hbw1 := hb0.trans (hb1.mono hb0.size); have hlt := b0.lt))
      | (refine wpList_store_mid rfl 24 _ _ rfl w.heap.size 0 ds rfl rfl (by exact b1.there _ (by rw [HD.out.1]; exact HS.out)) (by rw [HD.out.1]; exact Tryd.infoCart) HD.out.2 ?_))
    go_meet
    have M1 := L1.puts hlt ds.toList 0
    have M2 := L2.puts hlt ds.toList 0
    have M3 := L3.puts hlt ds.toList 0
    have M4 := L4.puts hlt ds.toList 0
    exact ⟨ds, d, T, P, Q, R, ⟨b1.setAll (L := ds) (by rw [HD.out.1, HS.out]), ⟨⟨D, lt, lp, lq, lr, M1.at lt, M2.at lp, M3.at lq, M4.at lr⟩, M1.bytes, M2.bytes, M3.bytes, M4.bytes⟩, setCells_below (Nat.le_refl _) _ _ _ _ hbw1⟩, wh⟩
  case rest =>
  clear b0 hb0 PC HS
  obtain ⟨ds, d, T, P, Q, R, A0, wh⟩ := hcut
  generalize wc = W1 at *
  clear W0
  go_upto_region 2 with fail
  have HS : Hid (ds.size = 19) := A0.x.x.c.size
  have hb1 := wh.pr.bd
  have hb2 := wh.pn.bd
  obtain ⟨x, hx⟩ := hb_of wh.ck.1
  have hxf : x.f = 2 := by have := hx.cf; have e := wh.f; omega
  have TW : Hid (∀ W : World, Ra w ds d T P Q R W → Calls _ _ _ _ _) := fun W K => twin_ct ds d T P Q R W K.x
  have PR : Hid (∀ (xs : Array Value) (W : World), Below w.heap.size w W → Cl W xs d T P Q R → Calls _ _ _ _ _) := fun xs W hb XL => print_any xs d x T P Q R W XL (fun _ => hx) ⟨by omega, by omega⟩ ⟨by omega, by omega⟩ (B.below B.lt hb) (Tt.below hb)
  have OK : Hid (ckE d = 0 ∧ ckN d = 0) := wh.ck
  have HL1 : Hid (imL d x T P Q R = hdL d x ++ T ++ P ++ Q ++ R) := by unfold Hid imL; rw [if_pos OK.out.1]
  have HX : Hid (Hb d x ∧ x.f = 2) := ⟨hx, hxf⟩
  have HW : Hid (Wh d) := wh
  have HLE : Hid (T.length = d.nt ∧ P.length = d.np ∧ Q.length = d.nq ∧ R.length = d.nr) := ⟨A0.x.x.lt, A0.x.x.lp, A0.x.x.lq, A0.x.x.lr⟩
  clear hb1 hb2 hx hxf wh
  go_cut [9, 10, 11] (fun p q r wx => ∃ a n k, p = .slice a n k ∧ q = .int .i64 0 ∧ r = .int .i64 0 ∧ (hdL d x ++ T ++ P ++ Q ++ R).length = n ∧ Row wx a (hdL d x ++ T ++ P ++ Q ++ R) ∧ n ≤ k ∧ Ra w ds d T P Q R wx)
  case first =>
    go_wp2_with (first
      | (refine wpList_load_mid rfl 24 _ rfl w.heap.size 0 rfl ds.toList _ A0.b.range Tryd.underlying24 rfl (by rw [Array.length_toList, HS.out]; exact Tryd.infoCart) ?_; rw [Array.toArray_toList])
      | (go_at_call 14; go_must (refine (TW.out _ A0).mono ?_; rintro e W4 ⟨ys, rfl, YL, hb4⟩; have A4 := A0.below hb4))
      | (go_at_call 13; go_must (refine (PR.out _ _ A4.bl YL).mono ?_; rintro e W5 ⟨a1, n1, k1, rfl, hn1, hr1, hk1, hb5⟩; rw [OK.out.1, OK.out.2])))
    go_meet
    exact ⟨a1, n1, k1, rfl, rfl, rfl, by rw [← HL1.out]; exact hn1, by rw [← HL1.out]; exact hr1, hk1, A4.below hb5⟩
  case rest =>
  clear A0 TW PR
  obtain ⟨a1, n1, k1, rfl, rfl, rfl, hn1, hr1, hk1, A0⟩ := hcut
  generalize wc = W3 at *
  go_upto_region 3 with fail
  obtain ⟨aT, kT, eT, rT⟩ := A0.x.x.rt
  obtain ⟨aP, kP, eP, rP⟩ := A0.x.x.rp
  obtain ⟨aQ, kQ, eQ, rQ⟩ := A0.x.x.rq
  obtain ⟨aR, kR, eR, rR⟩ := A0.x.x.rr
  have d15 := (A0.b.cell 15).trans eT
  have d16 := (A0.b.cell 16).trans eP
  have d17 := (A0.b.cell 17).trans eQ
  have d18 := (A0.b.cell 18).trans eR
  have m15 : d.nt ≤ 512 := by have := HW.out.nt; omega
  have m16 : d.np ≤ 65536 := HW.out.np.2.1
  have m17 : d.nq ≤ 65536 := by rcases HW.out.nq with e | e; omega; exact e.2.1
  have m18 : d.nr ≤ 33 := by rcases HW.out.nr with e | e <;> omega
  clear rT rP rQ rR
  have nn1 : n1 = 16 + d.nt + d.np + d.nq + d.nr := by rw [← hn1]; simp only [List.length_append, hdL_len, HLE.out.1, HLE.out.2.1, HLE.out.2.2.1, HLE.out.2.2.2]
  have e1 : ((n1 : Int) != 16 + (d.nt : Int) + (d.np : Int) + (d.nq : Int) + (d.nr : Int)) = false := by rw [bne_eq_false_iff_eq]; omega
  have HI' : Hid ((hdL d x ++ T ++ P ++ Q ++ R).length = n1 ∧ n1 ≤ k1 ∧ n1 ≤ 140737488351232) := ⟨hn1, hk1, by omega⟩
  have HR : Hid (Row W3 a1 (hdL d x ++ T ++ P ++ Q ++ R)) := hr1
  have HY : Hid (Bytes (hdL d x ++ T ++ P ++ Q ++ R)) := by
    intro y hy
    simp only [List.mem_append] at hy
    rcases hy with (((h | h) | h) | h) | h
    · exact hd_bytes HX.out.1 HX.out.2 y h
    · exact A0.x.bt y h
    · exact A0.x.bp y h
    · exact A0.x.bq y h
    · exact A0.x.br y h
  clear hn1 hk1 hr1 nn1 eT eP eQ eR
  go_upto_region 5 with fail
  clear d15 d16 d17 d18 e1 m15 m16 m17 m18
  have CP : Hid (Calls _ _ _ _ _) := copied_row n1 _ HI'.out.1 HY.out HI'.out.2.2 a1 k1 W3 HR.out
  go_cut [12, 13, 14] (fun p q r wx => ∃ g xs, p = .pointer (some ⟨g, 0, none⟩) ∧ q = .int .i64 0 ∧ r = .int .i64 0 ∧ Rb g xs d T P Q R wx ∧ Ra w ds d T P Q R wx)
  case first =>
    go_wp2_with (first
      | (go_at_call 16; go_must (refine CP.out.mono ?_; rintro e W5 ⟨g5, rfl, r5, hb5⟩; have A5 := A0.below hb5; have HR5 : Hid (Row W5 (some ⟨g5, 0, none⟩) (hdL d x ++ T ++ P ++ Q ++ R)) := r5; clear r5))
      | (go_at_call 15; go_must (refine (parse_good d x OK.out.1 HX.out.1 HX.out.2 T P Q R HLE.out.1 HLE.out.2.1 HLE.out.2.2.1 HLE.out.2.2.2 (some ⟨g5, 0, none⟩) n1 n1 W5 HI'.out.1 (Nat.le_refl _) HR5.out).mono ?_; rintro e W6 ⟨xs, rfl, XL, hb6⟩; have HX6 : Hid (xs.size = 19 ∧ xs.all (·.oneCell') = true) := ⟨XL.c.size, XL.c.one⟩; have A6 := A5.below hb6))
      | (refine wpList_store_mid rfl 24 _ _ rfl _ 0 xs rfl rfl ((Blk.new _ _ _).there _ (by first | exact HX6.out.1.symm | (rw [HX6.out.1]; rfl))) (by rw [HX6.out.1]; exact Tryd.infoCart) HX6.out.2 ?_))
    go_meet
    exact ⟨_, xs, rfl, rfl, rfl, Rb.laid XL, A6.below (lb _ _)⟩
  case rest =>
  clear A0 CP HR
  obtain ⟨g12, xs, rfl, rfl, rfl, X9, A0⟩ := hcut
  generalize wc = W6 at *
  go_upto_region 6 with fail
  have HXS : Hid (xs.size = 19) := X9.x.c.size
  have EQ1 : Hid (Calls _ _ _ _ _) := equal_yes ds xs d T P Q R W6 A0.x.x X9.x
  go_wp2_with (first | (refine wpList_load_want (by rfl) 24 _ rfl w.heap.size 0 rfl ds.toList _ A0.b.range Tryd.underlying24 rfl (by rw [Array.length_toList, HS.out]; exact Tryd.infoCart) ?_; rw [Array.toArray_toList]) | (refine wpList_load_want (by rfl) 24 _ rfl g12 0 rfl xs.toList _ X9.b.range Tryd.underlying24 rfl (by rw [Array.length_toList, HXS.out]; exact Tryd.infoCart) ?_; rw [Array.toArray_toList]))
  refine EQ1.out.mono ?_
  rintro e W7 ⟨rfl, hb7⟩
  replace A0 := A0.below hb7
  clear EQ1 X9 hb7
  go_wp2
  go_ret
  exact ⟨rfl, A0.bl⟩
end Go.Proofs.YtmigejcfgmalpaaDoor
