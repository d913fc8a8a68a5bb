/-
  The law CartTaken returns true; conditions: the numbers are ints, the tables lie in their variables.
-/
import Derived.Test.YtpdbndkckioamaaDoorTakS
import Derived.Test.YtpdbndkckioamaaDoorPcuImgT
import Derived.StillTailTactics
set_option linter.unusedSimpArgs false
set_option linter.unusedVariables false
namespace Go.Proofs.YtpdbndkckioamaaDoor
open Go.RowKit Classical
theorem infoHead : (Tryd.prog.info? 34).map (·.size) = some 22 := by kernel_rfl
theorem copied_own (n : Nat) (l : List Nat) (hn : l.length = n) (hl : Bytes l) (hlen : n ≤ 140737488351232) (a : Option Addr) (cap : Nat) (w : World) (hrow : Row w a l) :
    Calls Tryd.prog 13 #[.slice a n cap] w fun e w' => ∃ g, e = .returned (.slice (some ⟨g, 0, none⟩) n n) ∧ w.heap.size ≤ g ∧ Own w' g l ∧ Below w.heap.size w w' := by
  subst hn
  exact copied_any l hl hlen a cap w hrow
/-- What an image that is taken says. -/
structure Tn (L T P Q R : List Nat) (c : CF) (n tt fin : Nat) : Prop where
  ln : L.length = n
  z : pz L = (0, 0)
  nt : c.nt = tt
  fe : 16 + tt + c.np + c.nq = fin
  nr : fin + c.nr = n
  np : 0 < c.np
  nm : n ≤ 2097152
  t : T = (L.drop 16).take tt
  p : P = (L.drop (16 + tt)).take c.np
  q : Q = (L.drop (16 + tt + c.np)).take c.nq
  r : R = (L.drop fin).take c.nr
  ck : ckE c = 0
theorem tn_of {L : List Nat} {fin tt n : Nat} (im : Im L fin) (ht : (hdOf L).tr = tt) (hn : L.length = n) : Tn L (pT L) (pP L) (pQ L) (pR L) (pC L) n tt fin := by
  have hz := im.ok
  have h0 : (pz L).1 = 0 := by rw [hz]
  have ec : pC L = (hdOf L).cf (hdOf L).cr (hdOf L).tr (hdOf L).prg (hdOf L).chr (L.length - (hdOf L).fin) := if_pos h0
  have fe := im.fe
  have e1 : (pC L).nt = tt := by rw [ec]; exact ht
  have e2 : (pC L).np = (hdOf L).prg := by rw [ec]; rfl
  have e3 : (pC L).nq = (hdOf L).chr := by rw [ec]; rfl
  have e4 : (pC L).nr = L.length - fin := by rw [ec, ← fe]; rfl
  have fd : 16 + tt + (hdOf L).prg + (hdOf L).chr = fin := by rw [← ht]; exact fe
  have le := im.le
  refine ⟨hn, hz, e1, by rw [e2, e3]; exact fd, by rw [e4]; omega, by rw [e2]; have := im.prg.1; omega, by rw [← hn]; exact im.max, ?_, ?_, ?_, ?_, pz_ck L im.bys h0⟩
  · unfold pT; rw [if_pos h0, ht]
  · unfold pP; rw [if_pos h0, ht, e2]
  · unfold pQ; rw [if_pos h0, ht, e2, e3]
  · unfold pR; rw [if_pos h0, fe, e4]
theorem drop_all {L T P Q R : List Nat} {c : CF} {n tt fin : Nat} (K : Tn L T P Q R c n tt fin) : L.drop 16 = T ++ P ++ Q ++ R := by
  have h1 := K.fe
  have h2 := K.nr
  have h3 := K.ln
  have e1 := List.take_append_drop tt (L.drop 16)
  have e2 := List.take_append_drop c.np (L.drop (16 + tt))
  have e3 := List.take_append_drop c.nq (L.drop (16 + tt + c.np))
  have e4 : (L.drop fin).take c.nr = L.drop fin := List.take_of_length_le (by rw [List.length_drop]; omega)
  rw [List.drop_drop] at e1 e2 e3
  rw [h1] at e3
  rw [K.t, K.p, K.q, K.r, e4, List.append_assoc, List.append_assoc, e3, e2, e1]
theorem rz_le : ∀ k : Nat, k ≤ 15 → rz k ≤ 2097152 := by decide +kernel
theorem prpn_ok (L : List Nat) (hB : Bytes L) (h0 : (pz L).1 = 0) : (-9223372036854775808 ≤ (pC L).pr ∧ (pC L).pr ≤ 9223372036854775807) ∧ (-9223372036854775808 ≤ (pC L).pn ∧ (pC L).pn ≤ 9223372036854775807) := by
  have ec : pC L = (hdOf L).cf (hdOf L).cr (hdOf L).tr (hdOf L).prg (hdOf L).chr (L.length - (hdOf L).fin) := if_pos h0
  have K := hd_ok L hB
  rw [ec]
  generalize hdOf L = h at *
  have hw : h.wu ≤ 255 := by
    unfold Hq.wu
    have := K.k8
    split <;> omega
  have k10 := K.k10
  have r1 := rz_le (h.b10 % 16) (by omega)
  have r2 := rz_le (h.b10 / 16) (by omega)
  have e1 : (if h.f = 2 then rz (h.b10 % 16) else if h.bat then 0 else h.wu * 8192) ≤ 4194304 := by
    split
    · omega
    · split <;> omega
  have e2 : (if h.f = 2 then rz (h.b10 / 16) else if h.bat then h.wu * 8192 else 0) ≤ 4194304 := by
    split
    · omega
    · split <;> omega
  have f1 : (h.cf h.cr h.tr h.prg h.chr (L.length - h.fin)).pr = ((if h.f = 2 then rz (h.b10 % 16) else if h.bat then 0 else h.wu * 8192 : Nat) : Int) := rfl
  have f2 : (h.cf h.cr h.tr h.prg h.chr (L.length - h.fin)).pn = ((if h.f = 2 then rz (h.b10 / 16) else if h.bat then h.wu * 8192 else 0 : Nat) : Int) := rfl
  rw [f1, f2]
  omega
theorem hdl_bytes {c : CF} {x : HN} (hk : ckE c = 0) (X : Hb c x) : ∀ y ∈ hdL c x, y < 256 := by
  obtain ⟨⟨z1, z2⟩, z3, z4⟩ := sizes_of X
  have g := (h6_is c x (may_is hk).2.2.2).1.1.1.1
  have hh1 := hi_lt c.np 16384
  have hh2 := hi_lt c.nq 8192
  have hm := X.m
  have hs := X.s
  have hk4 := X.k
  have hkd := X.kd
  have ht := X.t
  have hd := X.d
  have hmi := X.mi
  intro y hy
  unfold hdL at hy
  rcases (show x.f = 0 ∨ x.f = 1 ∨ x.f = 2 by have := X.f; omega) with e | e | e
  · rw [if_pos e] at hy
    simp at hy
    omega
  · have hm1 := X.m1 e
    obtain ⟨w1, w2, w3⟩ := X.w e
    rw [if_neg (by omega), if_pos e] at hy
    have hu : (if x.u = 1 then 0 else x.u) < 256 := by split <;> omega
    generalize (if x.u = 1 then 0 else x.u) = u at *
    simp at hy
    omega
  · obtain ⟨⟨p1, q1⟩, ⟨p2, q2⟩, ⟨p3, q3⟩, p4, q4⟩ := X.r e
    rw [if_neg (by omega), if_neg (by omega)] at hy
    simp at hy
    omega
theorem exec_sl {ρ : Operand → Value} {o : Oper} {x lo hi : Operand} {b off n k l h p d : Nat} {w : World} (ho : o.op = .slice 22 x (some lo) (some hi) none) (hx : ρ x = .slice (some ⟨b, off, none⟩) n k) (hl : ρ lo = .int .i64 (l : Nat)) (hh : ρ hi = .int .i64 (h : Nat)) (h1 : l ≤ h) (h2 : h ≤ k) (hp : p = if k = l then off else off + l) (hd : d = h - l) : (execOp ρ o).run Tryd.prog w = .ok (.value (.slice (some ⟨b, p, none⟩) d (k - l))) w := by
  obtain ⟨dst, o, ty, pos, after, guard⟩ := o
  simp only at ho
  subst ho
  unfold execOp
  have q1 : (0 : Int) ≤ (l : Int) := by omega
  have q2 : (l : Int) ≤ (h : Int) := by omega
  have q3 : (h : Int) ≤ (k : Int) := by omega
  subst hp; subst hd
  by_cases e : k = l
  · rw [if_pos e]
    simp only [Option.map, hx, hl, hh]
    go_simp
    intro hlt
    exfalso
    omega
  · rw [if_neg e]
    simp only [Option.map, hx, hl, hh]
    go_simp
theorem exec_sf {ρ : Operand → Value} {o : Oper} {x lo : Operand} {b off n k l p d : Nat} {w : World} (ho : o.op = .slice 22 x (some lo) none none) (hx : ρ x = .slice (some ⟨b, off, none⟩) n k) (hl : ρ lo = .int .i64 (l : Nat)) (h1 : l ≤ n) (h2 : n ≤ k) (hp : p = if k = l then off else off + l) (hd : d = n - l) : (execOp ρ o).run Tryd.prog w = .ok (.value (.slice (some ⟨b, p, none⟩) d (k - l))) w := by
  obtain ⟨dst, o, ty, pos, after, guard⟩ := o
  simp only at ho
  subst ho
  unfold execOp
  have q1 : (0 : Int) ≤ (l : Int) := by omega
  have q2 : (l : Int) ≤ (n : Int) := by omega
  have q3 : (n : Int) ≤ (k : Int) := by omega
  subst hp; subst hd
  by_cases e : k = l
  · rw [if_pos e]
    simp only [Option.map, hx, hl]
    go_simp
  · rw [if_neg e]
    simp only [Option.map, hx, hl]
    go_simp
theorem bel_drew {B : Nat} {a w w' : World} (h : Below B a w) (e : ∃ m, w' = w.drewN m) : Below B a w' := by
  obtain ⟨m, rfl⟩ := e
  exact ⟨h.os, h.tape, h.output, h.size, h.block⟩
theorem exec_neq64 {ρ : Operand → Value} {o : Oper} {x y : Operand} {t z : TypeId} {a b : Int} {r : Bool} {w : World} (ho : o.op = .binOp .neq t x y z) (hx : ρ x = .int .i64 a) (hy : ρ y = .int .i64 b) (ht : Tryd.prog.underlying t = some (.int .i64)) (hr : (a != b) = r) : (execOp ρ o).run Tryd.prog w = .ok (.value (.bool r)) w := by
  obtain ⟨dst, o, ty, pos, after, guard⟩ := o
  simp only at ho
  subst ho
  unfold execOp
  simp only [hx, hy]
  go_simp
theorem callH {P : Program} {ops : Array Oper} {Q : Exit → Act → World → Prop} {md : Region.Mode} {S : World → Prop} {i : Nat} {fuel : Nat} {listed : Array Bool} {a : Act} {w : World} {o : Oper} {f : FuncId} {args : Array Value} {v : Value} {R : World → Prop} (a' : Act)
    (hr : Region.ready md ops listed = [i]) (hi : ops[i]? = some o) (hw : Region.wanted o (yielded ops a.tmps) = true) (he : (execOp a.eval o).run P w = .ok (.enter f args) w)
    (hc : Calls P f args w fun e w' => e = .returned v ∧ R w') (ha : a.put o.dst v = a') (h : ∀ w', R w' → S w' ∧ wpAnyH P md ops Q S fuel (listed.setIfInBounds i true) a' w') : wpAnyH P md ops Q S (fuel + 1) listed a w :=
  wpAnyH_all hr (List.cons_ne_nil _ _) fun j hj => by
    obtain rfl := List.mem_singleton.1 hj
    exact wpOp_contract hi hw he hc a' ha h
/-- The law's block with a cartridge. -/
structure Nk (w : World) (g : Nat) (xs : Array Value) (c : CF) (T P Q R : List Nat) (W : World) : Prop where
  b : Blk W g xs 25
  c : Cl W xs c T P Q R
  bl : Below w.heap.size w W
theorem Nk.below {w W W' : World} {g : Nat} {xs : Array Value} {c : CF} {T P Q R : List Nat} (K : Nk w g xs c T P Q R W) (hb : Below W.heap.size W W') : Nk w g xs c T P Q R W' := ⟨K.b.below K.b.lt hb, K.c.below hb, K.bl.trans (hb.mono K.bl.size)⟩
set_option maxRecDepth 100000 in
set_option maxHeartbeats 6400000 in
theorem taken_law (hs : Array Value) (f : Int) (bl : List Nat) (p q : Int) (tr : Bool) (r fl : Int) (w : World) (HH0 : IsH hs f bl p q tr r fl)
    (hf : -9223372036854775808 ≤ f ∧ f ≤ 9223372036854775807) (hp : -9223372036854775808 ≤ p ∧ p ≤ 9223372036854775807) (hq : -9223372036854775808 ≤ q ∧ q ≤ 9223372036854775807) (hr : -9223372036854775808 ≤ r ∧ r ≤ 9223372036854775807) (hfl : -9223372036854775808 ≤ fl ∧ fl ≤ 9223372036854775807) (B : Bnd w) (Tt : Tz w) :
    Calls Tryd.prog 4 #[.agg hs] w fun e w' => e = .returned (.bool true) ∧ Below w.heap.size w w' := by
  obtain ⟨tt, htt⟩ : ∃ tt : Nat, (if tr then 512 else 0) = tt := ⟨_, rfl⟩
  have HTT : Hid ((if tr then 512 else 0) = tt) := htt
  have IMG : Hid (∀ W : World, Calls _ _ _ _ _) := fun W => image_t hs f bl p q tr r fl W HH0 hf hp hq hr hfl
  rw [htt] at IMG
  clear htt
  have HS : Hid (hs.size = 22) := HH0.size
  have H19 : Hid (hs[19]? = some (.bool tr)) := HH0.h19
  have hsz := HH0.size
  have HBT : Hid (Bnd w ∧ Tz w) := ⟨B, Tt⟩
  have HBL : Hid (1 < w.heap.size) := B.lt
  clear HH0 hf hp hq hr hfl B Tt
  go_enter Tryd.func4, Tryd.ntmps4
  go_upto_region 1 with fail
  have b0 : Blk (w.alloc (.cells hs 34)) w.heap.size hs 34 := Blk.new w hs _
  have hb0 : Below w.heap.size w (w.alloc (.cells hs 34)) := (Below.refl _ _).alloc (Nat.le_refl _) _
  generalize w.alloc (.cells hs 34) = W0 at *
  clear hsz
  go_cut [3, 4] (fun p q wx => ∃ (L : List Nat) (a : Option Addr) (n k fin : Nat), p = .slice a n k ∧ q = .int .i64 (fin : Nat) ∧ L.length = n ∧ Im L fin ∧ Row wx a L ∧ n ≤ k ∧ Below w.heap.size w wx ∧ Blk wx w.heap.size hs 34 ∧ (hdOf L).tr = tt)
  case first =>
    go_wp2_with (first
      | (refine wpList_load_mid rfl 34 _ rfl w.heap.size 0 rfl hs.toList _ b0.range Tryd.underlying34 rfl (by rw [Array.length_toList, HS.out]; exact infoHead) ?_; rw [Array.toArray_toList])
      | (go_at_call 12; go_must (refine (IMG.out _).mono ?_; rintro e W1 ⟨L, a, n, k, fin, rfl, hlen, im, rf, hk, hb1, htr⟩)))
    go_meet
    exact ⟨L, a, n, k, fin, rfl, rfl, hlen, im, rf.row, hk, hb0.trans (hb1.mono hb0.size), b0.below b0.lt hb1, htr⟩
  case rest =>
  clear IMG b0 hb0
  obtain ⟨L, a, n, k, fin, rfl, rfl, hlen, im, hr0, hk, hb1, b0, htr⟩ := hcut
  generalize wc = W1 at *
  have HTN : Hid (Tn L (pT L) (pP L) (pQ L) (pR L) (pC L) n tt fin) := tn_of im htr hlen
  have HBY : Hid (Bytes L) := im.bys
  have hn := HTN.out.nm
  obtain ⟨x, hx⟩ := hb_of HTN.out.ck
  have hln := p_lens L
  have hprpn : (-9223372036854775808 ≤ (pC L).pr ∧ (pC L).pr ≤ 9223372036854775807) ∧ (-9223372036854775808 ≤ (pC L).pn ∧ (pC L).pn ≤ 9223372036854775807) := prpn_ok L HBY.out (by rw [HTN.out.z])
  have HPAG : Hid (∀ (I : List Nat) (g : Nat) (W : World), Bytes I → I.length = n → pz I = (0, 0) → pC I = pC L → pT I = pT L → pP I = pP L → pQ I = pQ L → pR I = pR L → Own W g I → Calls Tryd.prog 8 #[.slice (some ⟨g, 0, none⟩) n n] W fun e w' => ∃ xs, e = .returned (.tuple #[.agg xs, .int .i64 0, .int .i64 0]) ∧ Cl w' xs (pC L) (pT L) (pP L) (pQ L) (pR L) ∧ Below W.heap.size W w') := fun I g W hB hl h1 h2 h3 h4 h5 h6 ho => by
    refine (parse_g I hB (some ⟨g, 0, none⟩) n n W hl (Nat.le_refl _) ho.row).mono ?_
    rintro e w' ⟨xs, rfl, XL, hb⟩
    rw [h2, h3, h4, h5, h6] at XL
    exact ⟨xs, by rw [h1]; rfl, XL, hb⟩
  obtain ⟨I, hI⟩ : ∃ I, I = hdL (pC L) x ++ pT L ++ pP L ++ pQ L ++ pR L := ⟨_, rfl⟩
  obtain ⟨⟨⟨i1, i2⟩, i3, i4⟩, i5, i6⟩ := im_round HTN.out.ck hx hln.1 hln.2.1 hln.2.2.1 hln.2.2.2 I hI
  have hIl : I.length = n := by
    rw [hI]; simp only [List.length_append, hdl16, hln.1, hln.2.1, hln.2.2.1, hln.2.2.2]
    have h1 := HTN.out.fe; have h2 := HTN.out.nr; have h3 := HTN.out.nt; omega
  have h16 := drop_all HTN.out
  have hI16 : I.drop 16 = L.drop 16 := by
    rw [h16, hI, show hdL (pC L) x ++ pT L ++ pP L ++ pQ L ++ pR L = hdL (pC L) x ++ (pT L ++ pP L ++ pQ L ++ pR L) by simp [List.append_assoc], List.drop_append_of_le_length (by rw [hdl16]; exact Nat.le_refl _), List.drop_of_length_le (by rw [hdl16]; exact Nat.le_refl _), List.nil_append]
  have hIb : Bytes I := fun y hy => by
    rw [hI] at hy
    simp only [List.mem_append] at hy
    have hd : ∀ z ∈ pT L ++ pP L ++ pQ L ++ pR L, z < 256 := fun z hz => by rw [← h16] at hz; exact HBY.out z (List.mem_of_mem_drop hz)
    rcases hy with (((hy | hy) | hy) | hy) | hy
    · exact hdl_bytes HTN.out.ck hx y hy
    · exact hd y (by simp [hy])
    · exact hd y (by simp [hy])
    · exact hd y (by simp [hy])
    · exact hd y (by simp [hy])
  have PG1 : Hid (∀ (g : Nat) (W : World), Own W g L → Calls _ _ _ _ _) := fun g W ho => HPAG.out L g W HBY.out HTN.out.ln HTN.out.z rfl rfl rfl rfl rfl ho
  have PG2 : Hid (∀ (g : Nat) (W : World), Own W g I → Calls _ _ _ _ _) := fun g W ho => HPAG.out I g W hIb hIl i1 i2 i3 i4 i5 i6 ho
  have PR : Hid (∀ (xs : Array Value) (W : World), Below w.heap.size w W → Cl W xs (pC L) (pT L) (pP L) (pQ L) (pR L) → Calls Tryd.prog 16 #[.agg xs] W fun e w' => ∃ a' k', e = .returned (.tuple #[.slice a' n k', .int .i64 0, .int .i64 (ckN (pC L))]) ∧ Row w' a' I ∧ n ≤ k' ∧ Below W.heap.size W w') := fun xs W hb XL => by
    refine (print_any xs (pC L) x (pT L) (pP L) (pQ L) (pR L) W XL (fun _ => hx) hprpn.1 hprpn.2 (HBT.out.1.below HBL.out hb) (HBT.out.2.below hb)).mono ?_
    rintro e w' ⟨a', n', k', rfl, h1, h2, h3, h4⟩
    have eI : imL (pC L) x (pT L) (pP L) (pQ L) (pR L) = I := by unfold imL; rw [if_pos HTN.out.ck, hI]
    rw [eI] at h1 h2
    obtain rfl : n' = n := h1.symm.trans hIl
    exact ⟨a', k', by rw [HTN.out.ck], h2, h3, h4⟩
  have CK : Hid (∀ (xs : Array Value) (W : World), Below w.heap.size w W → IsC xs (pC L) → Calls Tryd.prog 15 #[.agg xs] W fun e w' => e = .returned (.tuple #[.int .i64 0, .int .i64 (ckN (pC L))]) ∧ Below W.heap.size W w') := fun xs W hb C => by
    have := check_any xs (pC L) C hprpn.1 hprpn.2 W (HBT.out.1.below HBL.out hb) (HBT.out.2.below hb)
    rwa [HTN.out.ck] at this
  have JIF : Hid ((I.length = n ∧ Bytes I) ∧ I.drop 16 = L.drop 16) := ⟨⟨hIl, hIb⟩, hI16⟩
  clear HPAG hI i1 i2 i3 i4 i5 i6 hIl h16 hI16 hIb hx hprpn im htr hlen HBT HBL
  generalize pC L = c at *
  generalize pT L = T at *
  generalize pP L = P at *
  generalize pQ L = Q at *
  generalize pR L = R at *
  generalize ckN c = cn at *
  have HLN : Hid _ := hln
  clear hln
  go_upto_region 2 with fail
  have CP1 : Hid (Calls _ _ _ _ _) := copied_own n L HTN.out.ln HBY.out (by omega) a k W1 hr0
  go_cut [5, 6, 7] (fun p q r wx => ∃ g xs, p = .pointer (some ⟨g, 0, none⟩) ∧ q = .int .i64 0 ∧ r = .int .i64 0 ∧ Nk w g xs c T P Q R wx ∧ Row wx a L ∧ Blk wx w.heap.size hs 34)
  case first =>
    go_wp2_with (first
      | (go_at_call 13; go_must (refine CP1.out.mono ?_; rintro e W5 ⟨g5, rfl, hg5, ho5, hb5⟩; have hb05 := hb1.trans (hb5.mono hb1.size); have r5 := hr0.below hb5; have b5 := b0.below b0.lt hb5))
      | (go_at_call 8; go_must (refine (PG1.out g5 W5 ho5).mono ?_; rintro e W6 ⟨xs, rfl, XL, hb6⟩; have HX6 : Hid (xs.size = 19 ∧ xs.all (·.oneCell') = true) := ⟨XL.c.size, XL.c.one⟩; have hb06 := hb05.trans (hb6.mono hb05.size); have r6 := r5.below hb6; have b6 := b5.below b5.lt hb6))
      | (refine wpList_store_mid rfl 25 _ _ rfl _ 0 xs rfl rfl ((Blk.new _ _ _).there _ (by first | exact HX6.out.1.symm | (rw [HX6.out.1]; rfl))) (by rw [HX6.out.1]; exact Tryd.infoCart) HX6.out.2 ?_))
    go_meet
    have hl : Below W6.heap.size W6 ((W6.alloc (.cells Z19 25)).setCells W6.heap.size 0 xs.toList) := setCells_below (Nat.le_refl _) _ _ _ _ ((Below.refl _ _).alloc (Nat.le_refl _) _)
    exact ⟨_, xs, rfl, rfl, rfl, ⟨(Blk.new W6 Z19 25).setAll (L := xs) (by rw [HX6.out.1]; rfl), XL.below hl, hb06.trans (hl.mono hb06.size)⟩, r6.below hl, b6.below b6.lt hl⟩
  case rest =>
  clear CP1 PG1 hr0 hb1 b0
  obtain ⟨g5, xs, rfl, rfl, rfl, N0, r0, b0⟩ := hcut
  generalize wc = W2 at *
  have d19 := (b0.cell 19).trans H19.out
  go_upto_if 40 with fail
  go_cut [8] (fun z wx => z = .int .i64 ((16 + tt : Nat) : Int) ∧ wx = W2)
  case first =>
    cases tr
    · have HT : Hid (0 = tt) := HTT.out
      go_wp2
      go_meet
      exact ⟨by rw [← HT.out]; rfl, rfl⟩
    · have HT : Hid (512 = tt) := HTT.out
      go_wp2
      go_meet
      exact ⟨by rw [← HT.out]; rfl, rfl⟩
  case rest =>
  obtain ⟨rfl, hwc⟩ := hcut
  subst hwc
  clear d19 b0
  obtain ⟨aT, kT, eT, rT⟩ := N0.c.rt
  obtain ⟨aP, kP, eP, rP⟩ := N0.c.rp
  obtain ⟨aQ, kQ, eQ, rQ⟩ := N0.c.rq
  obtain ⟨aR, kR, eR, rR⟩ := N0.c.rr
  obtain ⟨np, hnp⟩ : ∃ np, c.np = np := ⟨_, rfl⟩
  obtain ⟨nq, hnq⟩ : ∃ nq, c.nq = nq := ⟨_, rfl⟩
  obtain ⟨nr, hnr⟩ : ∃ nr, c.nr = nr := ⟨_, rfl⟩
  have t1 := HTN.out.fe
  have t2 := HTN.out.nr
  have t3 := HTN.out.np
  rw [HTN.out.nt] at eT
  rw [hnp] at eP t1 t3
  rw [hnq] at eQ t1
  rw [hnr] at eR t2
  have HNN : Hid ((c.np = np ∧ c.nq = nq) ∧ c.nr = nr) := ⟨⟨hnp, hnq⟩, hnr⟩
  clear hnp hnq hnr
  obtain ⟨n1, hn1⟩ : ∃ n1, 16 + tt = n1 := ⟨_, rfl⟩
  obtain ⟨pp, hpp⟩ : ∃ pp, n1 + np = pp := ⟨_, rfl⟩
  rw [hn1]
  have v1 : (n1 : Int) + (np : Int) = (pp : Int) := by omega
  have v2 : (n1 : Int) - 16 = (tt : Int) := by omega
  have v3 : ((np : Int) == 0) = false := by rw [beq_eq_false_iff_ne]; omega
  have v4 : (pp : Int) + (nq : Int) = (fin : Int) := by omega
  have v5 : (n : Int) - (fin : Int) = (nr : Int) := by omega
  have lfin : fin ≤ 2097152 := by omega
  have lpp : pp ≤ 2097152 := by omega
  have ln1 : n1 ≤ 2097152 := by omega
  have HSM : Hid ((16 + tt = n1 ∧ n1 + np = pp) ∧ (pp + nq = fin ∧ fin + nr = n)) := ⟨⟨hn1, hpp⟩, by omega, t2⟩
  clear hn1 hpp t1 t2
  have d15 := (N0.b.cell 15).trans eT
  have d16 := (N0.b.cell 16).trans eP
  have d17 := (N0.b.cell 17).trans eQ
  have d18 := (N0.b.cell 18).trans eR
  go_upto_region 11 with fail
  have q1 : (16 : Int) ≤ (n1 : Int) := by have := HSM.out; omega
  have q2 : (n1 : Int) ≤ (pp : Int) := by have := HSM.out; omega
  have q3 : (pp : Int) ≤ (fin : Int) := by have := HSM.out; omega
  have q4 : (fin : Int) ≤ (n : Int) := by have := HSM.out; omega
  have q5 : (n : Int) ≤ (k : Int) := by omega
  have q1n : 16 ≤ n1 := by omega
  have q2n : n1 ≤ pp := by omega
  have q3n : pp ≤ fin := by omega
  have q4n : fin ≤ n := by omega
  have q6 : (n1 : Int) ≤ (k : Int) := by omega
  have q7 : (pp : Int) ≤ (k : Int) := by omega
  have q8 : (fin : Int) ≤ (k : Int) := by omega
  obtain ⟨b, off, ea, hcell⟩ : ∃ b off, a = some ⟨b, off, none⟩ ∧ Row wc (some ⟨b, off, none⟩) L := by
    rcases r0 with h | ⟨b, off, h, hc⟩
    · exfalso; have := HTN.out.ln; rw [h] at this; simp at this; omega
    · exact ⟨b, off, h, .inr ⟨b, off, rfl, hc⟩⟩
  subst ea
  generalize wc = W2 at *
  obtain ⟨o1, ho1⟩ : ∃ o, o = if k = 16 then off else off + 16 := ⟨_, rfl⟩
  obtain ⟨o2, ho2⟩ : ∃ o, o = if k = n1 then off else off + n1 := ⟨_, rfl⟩
  obtain ⟨o3, ho3⟩ : ∃ o, o = if k = pp then off else off + pp := ⟨_, rfl⟩
  obtain ⟨o4, ho4⟩ : ∃ o, o = if k = fin then off else off + fin := ⟨_, rfl⟩
  have lT : T.length = tt := by rw [HLN.out.1, HTN.out.nt]
  have lP : P.length = np := by rw [HLN.out.2.1, HNN.out.1.1]
  have lQ : Q.length = nq := by rw [HLN.out.2.2.1, HNN.out.1.2]
  have lR : R.length = nr := by rw [HLN.out.2.2.2, HNN.out.2]
  have rw1 : Row W2 (some ⟨b, o1, none⟩) T := by rw [ho1, if_neg (by omega), HTN.out.t]; exact hcell.sub 16 tt (by have := HTN.out.ln; have := HSM.out; omega)
  have rw2 : Row W2 (some ⟨b, o2, none⟩) P := by rw [ho2, if_neg (by omega), HTN.out.p, HNN.out.1.1, HSM.out.1.1]; exact hcell.sub n1 np (by have := HTN.out.ln; have := HSM.out; omega)
  have rw3 : Row W2 (some ⟨b, o3, none⟩) Q := by
    by_cases h : k = pp
    · exact .inl (List.eq_nil_of_length_eq_zero (by have := HSM.out; omega))
    · rw [ho3, if_neg h, HTN.out.q, HNN.out.1.1, HNN.out.1.2, HSM.out.1.1, HSM.out.1.2]; exact hcell.sub pp nq (by have := HTN.out.ln; have := HSM.out; omega)
  have rw4 : Row W2 (some ⟨b, o4, none⟩) R := by
    by_cases h : k = fin
    · exact .inl (List.eq_nil_of_length_eq_zero (by have := HSM.out; omega))
    · rw [ho4, if_neg h, HTN.out.r, HNN.out.2]; exact hcell.sub fin nr (by have := HTN.out.ln; have := HSM.out; omega)
  have hnn : n ≤ 2097152 := by omega
  have es1 : tt = n1 - 16 := by have := HSM.out; omega
  have es2 : np = pp - n1 := by have := HSM.out; omega
  have es3 : nq = fin - pp := by have := HSM.out; omega
  have es4 : nr = n - fin := by have := HSM.out; omega
  have S1 : Hid (∀ (v : World), Below W2.heap.size W2 v → Calls _ _ _ v _) := fun v hv => same_n tt tt T lT lT (by omega) aT (some ⟨b, o1, none⟩) kT (k - 16) v (rT.below hv) (rw1.below hv)
  have S2 : Hid (∀ (v : World), Below W2.heap.size W2 v → Calls _ _ _ v _) := fun v hv => same_n np np P lP lP (by omega) aP (some ⟨b, o2, none⟩) kP (k - n1) v (rP.below hv) (rw2.below hv)
  have S3 : Hid (∀ (v : World), Below W2.heap.size W2 v → Calls _ _ _ v _) := fun v hv => same_n nq nq Q lQ lQ (by omega) aQ (some ⟨b, o3, none⟩) kQ (k - pp) v (rQ.below hv) (rw3.below hv)
  have S4 : Hid (∀ (v : World), Below W2.heap.size W2 v → Calls _ _ _ v _) := fun v hv => same_n nr nr R lR lR (by omega) aR (some ⟨b, o4, none⟩) kR (k - fin) v (rR.below hv) (rw4.below hv)
  have D15 : Hid (xs[15]? = some (.slice aT tt kT)) := eT
  have D16 : Hid (xs[16]? = some (.slice aP np kP)) := eP
  have D17 : Hid (xs[17]? = some (.slice aQ nq kQ)) := eQ
  have D18 : Hid (xs[18]? = some (.slice aR nr kR)) := eR
  clear rT rP rQ rR rw1 rw2 rw3 rw4 lT lP lQ lR eT eP eQ eR d15 d16 d17 d18
  go_cut [112] (fun z wx => z = .bool false ∧ Below W2.heap.size W2 wx)
  case first =>
    rename_i J0 K0 hJ0 hK0
    have s0 : Below W2.heap.size W2 W2.drew := (Below.refl _ _).drew
    refine wp_region_held (S := fun v => Below W2.heap.size W2 v) (by kernel_rfl) ?_
    refine takeH (i := 0) (v := .pointer (some ⟨g5, 15, none⟩)) _ rfl (by kernel_rfl) (by kernel_rfl) (by kernel_rfl) (fun _ _ _ h => h) (.inl ⟨by kernel_rfl, fun _ _ => by kernel_rfl⟩) s0 rfl ?_
    refine takeH (i := 1) (v := .slice aT tt kT) _ rfl (by kernel_rfl) (by kernel_rfl) (by kernel_rfl) (fun _ _ _ h => h) (.inl ⟨by kernel_rfl, fun v hv => by have c : v.cell? ⟨g5, 15, none⟩ = some (.slice aT tt kT) := ((N0.b.below N0.b.lt hv).cell 15).trans D15.out; go_simp⟩) s0 rfl ?_
    refine takeH (i := 2) (v := .slice (some ⟨b, off, none⟩) n k) _ rfl (by kernel_rfl) (by kernel_rfl) (by kernel_rfl) (fun _ _ _ h => h) (.inl ⟨by kernel_rfl, fun _ _ => by kernel_rfl⟩) s0 rfl ?_
    refine takeH (i := 3) (v := .int .i64 ((n1 : Nat) : Int)) _ rfl (by kernel_rfl) (by kernel_rfl) (by kernel_rfl) (fun _ _ _ h => h) (.inl ⟨by kernel_rfl, fun _ _ => by kernel_rfl⟩) s0 rfl ?_
    refine takeH (i := 4) (v := .slice (some ⟨b, o1, none⟩) tt (k - 16)) _ rfl (by kernel_rfl) (by kernel_rfl) (by kernel_rfl) (fun _ _ _ h => h) (.inl ⟨by kernel_rfl, fun v _ => exec_sl (b := b) (off := off) (n := n) (k := k) rfl (by kernel_rfl) (by kernel_rfl) (by kernel_rfl) (l := 16) (h := n1) (by omega) (by omega) ho1 es1⟩) s0 rfl ?_
    refine callH (i := 5) (f := 14) (v := .bool true) _ (by kernel_rfl) rfl (by kernel_rfl) (by kernel_rfl) (S1.out _ s0) rfl ?_
    intro Wq1 hbq1
    have sq1 : Below W2.heap.size W2 Wq1 := bel_drew s0 hbq1
    clear hbq1
    refine ⟨sq1, ?_⟩
    refine takeH (i := 6) (v := .bool false) _ rfl (by kernel_rfl) (by kernel_rfl) (by kernel_rfl) (fun _ _ _ h => h) (.inl ⟨by kernel_rfl, fun _ _ => by kernel_rfl⟩) sq1 rfl ?_
    refine takeH (i := 7) (v := .bool false) _ rfl (by kernel_rfl) (by kernel_rfl) (by kernel_rfl) (fun _ _ _ h => h) (.inl ⟨by kernel_rfl, fun _ _ => by kernel_rfl⟩) sq1 rfl ?_
    refine takeH (i := 8) (v := .pointer (some ⟨g5, 16, none⟩)) _ rfl (by kernel_rfl) (by kernel_rfl) (by kernel_rfl) (fun _ _ _ h => h) (.inl ⟨by kernel_rfl, fun _ _ => by kernel_rfl⟩) sq1 rfl ?_
    refine takeH (i := 9) (v := .slice aP np kP) _ rfl (by kernel_rfl) (by kernel_rfl) (by kernel_rfl) (fun _ _ _ h => h) (.inl ⟨by kernel_rfl, fun v hv => by have c : v.cell? ⟨g5, 16, none⟩ = some (.slice aP np kP) := ((N0.b.below N0.b.lt hv).cell 16).trans D16.out; go_simp⟩) sq1 rfl ?_
    refine takeH (i := 10) (v := .slice (some ⟨b, off, none⟩) n k) _ rfl (by kernel_rfl) (by kernel_rfl) (by kernel_rfl) (fun _ _ _ h => h) (.inl ⟨by kernel_rfl, fun _ _ => by kernel_rfl⟩) sq1 rfl ?_
    refine takeH (i := 11) (v := .int .i64 ((n1 : Nat) : Int)) _ rfl (by kernel_rfl) (by kernel_rfl) (by kernel_rfl) (fun _ _ _ h => h) (.inl ⟨by kernel_rfl, fun _ _ => by kernel_rfl⟩) sq1 rfl ?_
    refine takeH (i := 12) (v := .int .i64 ((pp : Nat) : Int)) _ rfl (by kernel_rfl) (by kernel_rfl) (by kernel_rfl) (fun _ _ _ h => h) (.inl ⟨by kernel_rfl, fun _ _ => by kernel_rfl⟩) sq1 rfl ?_
    refine takeH (i := 13) (v := .slice (some ⟨b, o2, none⟩) np (k - n1)) _ rfl (by kernel_rfl) (by kernel_rfl) (by kernel_rfl) (fun _ _ _ h => h) (.inl ⟨by kernel_rfl, fun v _ => exec_sl (b := b) (off := off) (n := n) (k := k) rfl (by kernel_rfl) (by kernel_rfl) (by kernel_rfl) (l := n1) (h := pp) (by omega) (by omega) ho2 es2⟩) sq1 rfl ?_
    refine callH (i := 14) (f := 14) (v := .bool true) _ (by kernel_rfl) rfl (by kernel_rfl) (by kernel_rfl) (S2.out _ sq1) rfl ?_
    intro Wq2 hbq2
    have sq2 : Below W2.heap.size W2 Wq2 := bel_drew sq1 hbq2
    clear hbq2
    refine ⟨sq2, ?_⟩
    refine takeH (i := 15) (v := .bool false) _ rfl (by kernel_rfl) (by kernel_rfl) (by kernel_rfl) (fun _ _ _ h => h) (.inl ⟨by kernel_rfl, fun _ _ => by kernel_rfl⟩) sq2 rfl ?_
    refine takeH (i := 16) (v := .bool false) _ rfl (by kernel_rfl) (by kernel_rfl) (by kernel_rfl) (fun _ _ _ h => h) (.inl ⟨by kernel_rfl, fun _ _ => by kernel_rfl⟩) sq2 rfl ?_
    refine takeH (i := 17) (v := .bool false) _ rfl (by kernel_rfl) (by kernel_rfl) (by kernel_rfl) (fun _ _ _ h => h) (.inl ⟨by kernel_rfl, fun _ _ => by kernel_rfl⟩) sq2 rfl ?_
    refine takeH (i := 18) (v := .pointer (some ⟨g5, 17, none⟩)) _ rfl (by kernel_rfl) (by kernel_rfl) (by kernel_rfl) (fun _ _ _ h => h) (.inl ⟨by kernel_rfl, fun _ _ => by kernel_rfl⟩) sq2 rfl ?_
    refine takeH (i := 19) (v := .slice aQ nq kQ) _ rfl (by kernel_rfl) (by kernel_rfl) (by kernel_rfl) (fun _ _ _ h => h) (.inl ⟨by kernel_rfl, fun v hv => by have c : v.cell? ⟨g5, 17, none⟩ = some (.slice aQ nq kQ) := ((N0.b.below N0.b.lt hv).cell 17).trans D17.out; go_simp⟩) sq2 rfl ?_
    refine takeH (i := 20) (v := .slice (some ⟨b, off, none⟩) n k) _ rfl (by kernel_rfl) (by kernel_rfl) (by kernel_rfl) (fun _ _ _ h => h) (.inl ⟨by kernel_rfl, fun _ _ => by kernel_rfl⟩) sq2 rfl ?_
    refine takeH (i := 21) (v := .int .i64 ((pp : Nat) : Int)) _ rfl (by kernel_rfl) (by kernel_rfl) (by kernel_rfl) (fun _ _ _ h => h) (.inl ⟨by kernel_rfl, fun _ _ => by kernel_rfl⟩) sq2 rfl ?_
    refine takeH (i := 22) (v := .int .i64 ((fin : Nat) : Int)) _ rfl (by kernel_rfl) (by kernel_rfl) (by kernel_rfl) (fun _ _ _ h => h) (.inl ⟨by kernel_rfl, fun _ _ => by kernel_rfl⟩) sq2 rfl ?_
    refine takeH (i := 23) (v := .slice (some ⟨b, o3, none⟩) nq (k - pp)) _ rfl (by kernel_rfl) (by kernel_rfl) (by kernel_rfl) (fun _ _ _ h => h) (.inl ⟨by kernel_rfl, fun v _ => exec_sl (b := b) (off := off) (n := n) (k := k) rfl (by kernel_rfl) (by kernel_rfl) (by kernel_rfl) (l := pp) (h := fin) (by omega) (by omega) ho3 es3⟩) sq2 rfl ?_
    refine callH (i := 24) (f := 14) (v := .bool true) _ (by kernel_rfl) rfl (by kernel_rfl) (by kernel_rfl) (S3.out _ sq2) rfl ?_
    intro Wq3 hbq3
    have sq3 : Below W2.heap.size W2 Wq3 := bel_drew sq2 hbq3
    clear hbq3
    refine ⟨sq3, ?_⟩
    refine takeH (i := 25) (v := .bool false) _ rfl (by kernel_rfl) (by kernel_rfl) (by kernel_rfl) (fun _ _ _ h => h) (.inl ⟨by kernel_rfl, fun _ _ => by kernel_rfl⟩) sq3 rfl ?_
    refine takeH (i := 26) (v := .bool false) _ rfl (by kernel_rfl) (by kernel_rfl) (by kernel_rfl) (fun _ _ _ h => h) (.inl ⟨by kernel_rfl, fun _ _ => by kernel_rfl⟩) sq3 rfl ?_
    refine takeH (i := 27) (v := .bool false) _ rfl (by kernel_rfl) (by kernel_rfl) (by kernel_rfl) (fun _ _ _ h => h) (.inl ⟨by kernel_rfl, fun _ _ => by kernel_rfl⟩) sq3 rfl ?_
    refine takeH (i := 28) (v := .pointer (some ⟨g5, 18, none⟩)) _ rfl (by kernel_rfl) (by kernel_rfl) (by kernel_rfl) (fun _ _ _ h => h) (.inl ⟨by kernel_rfl, fun _ _ => by kernel_rfl⟩) sq3 rfl ?_
    refine takeH (i := 29) (v := .slice aR nr kR) _ rfl (by kernel_rfl) (by kernel_rfl) (by kernel_rfl) (fun _ _ _ h => h) (.inl ⟨by kernel_rfl, fun v hv => by have c : v.cell? ⟨g5, 18, none⟩ = some (.slice aR nr kR) := ((N0.b.below N0.b.lt hv).cell 18).trans D18.out; go_simp⟩) sq3 rfl ?_
    refine takeH (i := 30) (v := .slice (some ⟨b, off, none⟩) n k) _ rfl (by kernel_rfl) (by kernel_rfl) (by kernel_rfl) (fun _ _ _ h => h) (.inl ⟨by kernel_rfl, fun _ _ => by kernel_rfl⟩) sq3 rfl ?_
    refine takeH (i := 31) (v := .int .i64 ((fin : Nat) : Int)) _ rfl (by kernel_rfl) (by kernel_rfl) (by kernel_rfl) (fun _ _ _ h => h) (.inl ⟨by kernel_rfl, fun _ _ => by kernel_rfl⟩) sq3 rfl ?_
    refine takeH (i := 32) (v := .slice (some ⟨b, o4, none⟩) nr (k - fin)) _ rfl (by kernel_rfl) (by kernel_rfl) (by kernel_rfl) (fun _ _ _ h => h) (.inl ⟨by kernel_rfl, fun v _ => exec_sf (b := b) (off := off) (n := n) (k := k) rfl (by kernel_rfl) (by kernel_rfl) (l := fin) (by omega) (by omega) ho4 es4⟩) sq3 rfl ?_
    refine callH (i := 33) (f := 14) (v := .bool true) _ (by kernel_rfl) rfl (by kernel_rfl) (by kernel_rfl) (S4.out _ sq3) rfl ?_
    intro Wq4 hbq4
    have sq4 : Below W2.heap.size W2 Wq4 := bel_drew sq3 hbq4
    clear hbq4
    refine ⟨sq4, ?_⟩
    refine takeH (i := 34) (v := .bool false) _ rfl (by kernel_rfl) (by kernel_rfl) (by kernel_rfl) (fun _ _ _ h => h) (.inl ⟨by kernel_rfl, fun _ _ => by kernel_rfl⟩) sq4 rfl ?_
    refine takeH (i := 35) (v := .bool false) _ rfl (by kernel_rfl) (by kernel_rfl) (by kernel_rfl) (fun _ _ _ h => h) (.inl ⟨by kernel_rfl, fun _ _ => by kernel_rfl⟩) sq4 rfl ?_
    refine wpAnyH_done (by kernel_rfl) ?_ _
    exact hK0 _ _ (Met.intro (hJ0 _ _ ⟨u21, u22, u23, u24, u25, u26, u27, u28, u29, u30, u31, u32, u33, u34, u35, u36, u37, u38, u39, u40, .int .i64 ((n1 : Nat) : Int), .pointer (some ⟨g5, 16, none⟩), .slice aP np kP, .int .i64 ((np : Nat) : Int), .int .i64 ((pp : Nat) : Int), .pointer (some ⟨g5, 15, none⟩), .slice aT tt kT, .int .i64 ((tt : Nat) : Int), .int .i64 ((n1 : Nat) : Int), .int .i64 ((tt : Nat) : Int), .bool false, .bool false, .pointer (some ⟨g5, 16, none⟩), .slice aP np kP, .int .i64 ((np : Nat) : Int), .bool false, .bool false, .bool false, .int .i64 ((pp : Nat) : Int), .pointer (some ⟨g5, 17, none⟩), .slice aQ nq kQ, .int .i64 ((nq : Nat) : Int), .int .i64 ((fin : Nat) : Int), .int .i64 ((fin : Nat) : Int), .bool false, .bool false, .bool false, .pointer (some ⟨g5, 18, none⟩), .slice aR nr kR, .int .i64 ((nr : Nat) : Int), .slice (some ⟨b, off, none⟩) n k, .int .i64 ((n : Nat) : Int), .int .i64 ((fin : Nat) : Int), .int .i64 ((nr : Nat) : Int), .bool false, .bool false, .pointer (some ⟨g5, 15, none⟩), .slice aT tt kT, .slice (some ⟨b, off, none⟩) n k, .int .i64 ((n1 : Nat) : Int), .slice (some ⟨b, o1, none⟩) tt (k - 16), .bool true, .bool false, .bool false, .pointer (some ⟨g5, 16, none⟩), .slice aP np kP, .slice (some ⟨b, off, none⟩) n k, .int .i64 ((n1 : Nat) : Int), .int .i64 ((pp : Nat) : Int), .slice (some ⟨b, o2, none⟩) np (k - n1), .bool true, .bool false, .bool false, .bool false, .pointer (some ⟨g5, 17, none⟩), .slice aQ nq kQ, .slice (some ⟨b, off, none⟩) n k, .int .i64 ((pp : Nat) : Int), .int .i64 ((fin : Nat) : Int), .slice (some ⟨b, o3, none⟩) nq (k - pp), .bool true, .bool false, .bool false, .bool false, .pointer (some ⟨g5, 18, none⟩), .slice aR nr kR, .slice (some ⟨b, off, none⟩) n k, .int .i64 ((fin : Nat) : Int), .slice (some ⟨b, o4, none⟩) nr (k - fin), .bool true, .bool false, .bool false, u113, u114, u115, u116, u117, u118, u119, u120, u121, u122, u123, u124, u125, u126, u127, u128, u129, u130, u131, u132, u133, u134, u135, u136, u137, u138, u139, u140, u141, u142, u143, u144, u145, u146, u147, u148, u149, u150, u151, u152, u153, u154, u155, u156, u157, u158, u159, u160, u161, u162, u163, u164, u165, u166, u167, u168, u169, u170, u171, u172, u173, ⟨rfl, sq4⟩, by kernel_rfl⟩))
  case rest =>
  clear S1 S2 S3 S4 D15 D16 D17 D18 ho1 ho2 ho3 ho4
  obtain ⟨rfl, hb8⟩ := hcut
  replace N0 := N0.below hb8
  have r0 := hcell.below hb8
  clear hcell hb8
  generalize wc = W3 at *
  have HXS : Hid (xs.size = 19) := N0.c.c.size
  go_upto_region 13 with fail
  go_cut [10] (fun p wx => p = .int .i64 0 ∧ Below W3.heap.size W3 wx)
  case first =>
    go_wp2_with (first
      | (refine wpList_load_mid rfl 25 _ rfl g5 0 rfl xs.toList _ N0.b.range Tryd.underlying25 rfl (by rw [Array.length_toList, HXS.out]; exact Tryd.infoCart) ?_; rw [Array.toArray_toList])
      | (go_at_call 15; go_must (refine (CK.out xs W3 N0.bl N0.c.c).mono ?_; rintro e W7 ⟨rfl, hb7⟩)))
    go_meet
    exact ⟨rfl, hb7⟩
  case rest =>
  clear CK
  obtain ⟨rfl, hb7⟩ := hcut
  replace N0 := N0.below hb7
  replace r0 := r0.below hb7
  clear hb7
  generalize wc = W4 at *
  go_upto_region 14 with fail
  go_cut [12, 13] (fun p q wx => ∃ a' k', p = .slice a' n k' ∧ q = .int .i64 0 ∧ Row wx a' I ∧ n ≤ k' ∧ Below W4.heap.size W4 wx)
  case first =>
    go_wp2_with (first
      | (refine wpList_load_mid rfl 25 _ rfl g5 0 rfl xs.toList _ N0.b.range Tryd.underlying25 rfl (by rw [Array.length_toList, HXS.out]; exact Tryd.infoCart) ?_; rw [Array.toArray_toList])
      | (go_at_call 16; go_must (refine (PR.out xs W4 N0.bl N0.c).mono ?_; rintro e W7 ⟨a7, k7, rfl, hr7, hk7, hb7⟩)))
    go_meet
    exact ⟨a7, k7, rfl, rfl, hr7, hk7, hb7⟩
  case rest =>
  obtain ⟨a7, k7, rfl, rfl, hr7, hk7, hb7⟩ := hcut
  replace N0 := N0.below hb7
  replace r0 := r0.below hb7
  clear hb7
  generalize wc = W5 at *
  obtain ⟨b7, f7, ea, r7⟩ : ∃ b' f', a7 = some ⟨b', f', none⟩ ∧ Row W5 (some ⟨b', f', none⟩) I := by
    rcases hr7 with h | ⟨b', f', h, hc⟩
    · exfalso; have := JIF.out.1.1; rw [h] at this; simp at this; omega
    · exact ⟨b', f', h, .inr ⟨b', f', rfl, hc⟩⟩
  subst ea
  clear hr7
  obtain ⟨p7, hp7⟩ : ∃ o, o = if k7 = 16 then f7 else f7 + 16 := ⟨_, rfl⟩
  obtain ⟨p8, hp8⟩ : ∃ o, o = if k = 16 then off else off + 16 := ⟨_, rfl⟩
  obtain ⟨n6, hn6⟩ : ∃ m, m = n - 16 := ⟨_, rfl⟩
  have hTL : (L.drop 16).take n6 = L.drop 16 := by rw [List.take_of_length_le]; rw [List.length_drop, HTN.out.ln]; omega
  have hlL : (L.drop 16).length = n6 := by rw [List.length_drop, HTN.out.ln]; omega
  have x7 : Row W5 (some ⟨b7, p7, none⟩) (L.drop 16) := by
    rw [hp7, if_neg (by omega)]
    have := r7.sub 16 n6 (by rw [JIF.out.1.1]; omega)
    rwa [JIF.out.2, hTL] at this
  have x8 : Row W5 (some ⟨b, p8, none⟩) (L.drop 16) := by
    rw [hp8, if_neg (by omega)]
    have := r0.sub 16 n6 (by rw [HTN.out.ln]; omega)
    rwa [hTL] at this
  have S5 : Hid (∀ (v : World), Below W5.heap.size W5 v → Calls _ _ _ v _) := fun v hv => same_n n6 n6 (L.drop 16) hlL hlL (by omega) (some ⟨b7, p7, none⟩) (some ⟨b, p8, none⟩) (k7 - 16) (k - 16) v (x7.below hv) (x8.below hv)
  clear x7 x8 hTL hlL
  go_upto_region 15 with fail
  go_cut [144] (fun z wx => z = .bool false ∧ Below W5.heap.size W5 wx)
  case first =>
    rename_i J0 K0 hJ0 hK0
    have s0 : Below W5.heap.size W5 W5.drew := (Below.refl _ _).drew
    refine wp_region_held (S := fun v => Below W5.heap.size W5 v) (by kernel_rfl) ?_
    refine takeH (i := 0) (v := .int .i64 0) _ rfl (by kernel_rfl) (by kernel_rfl) (by kernel_rfl) (fun _ _ _ h => h) (.inl ⟨by kernel_rfl, fun _ _ => by kernel_rfl⟩) s0 rfl ?_
    refine takeH (i := 1) (v := .bool false) _ rfl (by kernel_rfl) (by kernel_rfl) (by kernel_rfl) (fun _ _ _ h => h) (.inl ⟨by kernel_rfl, fun _ _ => by kernel_rfl⟩) s0 rfl ?_
    refine takeH (i := 2) (v := .bool false) _ rfl (by kernel_rfl) (by kernel_rfl) (by kernel_rfl) (fun _ _ _ h => h) (.inl ⟨by kernel_rfl, fun _ _ => by kernel_rfl⟩) s0 rfl ?_
    refine takeH (i := 3) (v := .int .i64 0) _ rfl (by kernel_rfl) (by kernel_rfl) (by kernel_rfl) (fun _ _ _ h => h) (.inl ⟨by kernel_rfl, fun _ _ => by kernel_rfl⟩) s0 rfl ?_
    refine takeH (i := 4) (v := .bool false) _ rfl (by kernel_rfl) (by kernel_rfl) (by kernel_rfl) (fun _ _ _ h => h) (.inl ⟨by kernel_rfl, fun _ _ => by kernel_rfl⟩) s0 rfl ?_
    refine takeH (i := 5) (v := .bool false) _ rfl (by kernel_rfl) (by kernel_rfl) (by kernel_rfl) (fun _ _ _ h => h) (.inl ⟨by kernel_rfl, fun _ _ => by kernel_rfl⟩) s0 rfl ?_
    refine takeH (i := 6) (v := .bool false) _ rfl (by kernel_rfl) (by kernel_rfl) (by kernel_rfl) (fun _ _ _ h => h) (.inl ⟨by kernel_rfl, fun _ _ => by kernel_rfl⟩) s0 rfl ?_
    refine takeH (i := 7) (v := .slice (some ⟨b7, f7, none⟩) n k7) _ rfl (by kernel_rfl) (by kernel_rfl) (by kernel_rfl) (fun _ _ _ h => h) (.inl ⟨by kernel_rfl, fun _ _ => by kernel_rfl⟩) s0 rfl ?_
    refine takeH (i := 8) (v := .int .i64 ((n : Nat) : Int)) _ rfl (by kernel_rfl) (by kernel_rfl) (by kernel_rfl) (fun _ _ _ h => h) (.inl ⟨by kernel_rfl, fun _ _ => by kernel_rfl⟩) s0 rfl ?_
    refine takeH (i := 9) (v := .slice (some ⟨b, off, none⟩) n k) _ rfl (by kernel_rfl) (by kernel_rfl) (by kernel_rfl) (fun _ _ _ h => h) (.inl ⟨by kernel_rfl, fun _ _ => by kernel_rfl⟩) s0 rfl ?_
    refine takeH (i := 10) (v := .int .i64 ((n : Nat) : Int)) _ rfl (by kernel_rfl) (by kernel_rfl) (by kernel_rfl) (fun _ _ _ h => h) (.inl ⟨by kernel_rfl, fun _ _ => by kernel_rfl⟩) s0 rfl ?_
    refine takeH (i := 11) (v := .bool false) _ rfl (by kernel_rfl) (by kernel_rfl) (by kernel_rfl) (fun _ _ _ h => h) (.inl ⟨by kernel_rfl, fun v _ => exec_neq64 (a := ((n : Nat) : Int)) (b := ((n : Nat) : Int)) rfl (by kernel_rfl) (by kernel_rfl) (by kernel_rfl) (by simp)⟩) s0 rfl ?_
    refine takeH (i := 12) (v := .bool false) _ rfl (by kernel_rfl) (by kernel_rfl) (by kernel_rfl) (fun _ _ _ h => h) (.inl ⟨by kernel_rfl, fun _ _ => by kernel_rfl⟩) s0 rfl ?_
    refine takeH (i := 13) (v := .bool false) _ rfl (by kernel_rfl) (by kernel_rfl) (by kernel_rfl) (fun _ _ _ h => h) (.inl ⟨by kernel_rfl, fun _ _ => by kernel_rfl⟩) s0 rfl ?_
    refine takeH (i := 14) (v := .slice (some ⟨b7, f7, none⟩) n k7) _ rfl (by kernel_rfl) (by kernel_rfl) (by kernel_rfl) (fun _ _ _ h => h) (.inl ⟨by kernel_rfl, fun _ _ => by kernel_rfl⟩) s0 rfl ?_
    refine takeH (i := 15) (v := .slice (some ⟨b7, p7, none⟩) n6 (k7 - 16)) _ rfl (by kernel_rfl) (by kernel_rfl) (by kernel_rfl) (fun _ _ _ h => h) (.inl ⟨by kernel_rfl, fun v _ => exec_sf (b := b7) (off := f7) (n := n) (k := k7) (l := 16) rfl (by kernel_rfl) (by kernel_rfl) (by omega) (by omega) hp7 hn6⟩) s0 rfl ?_
    refine takeH (i := 16) (v := .slice (some ⟨b, off, none⟩) n k) _ rfl (by kernel_rfl) (by kernel_rfl) (by kernel_rfl) (fun _ _ _ h => h) (.inl ⟨by kernel_rfl, fun _ _ => by kernel_rfl⟩) s0 rfl ?_
    refine takeH (i := 17) (v := .slice (some ⟨b, p8, none⟩) n6 (k - 16)) _ rfl (by kernel_rfl) (by kernel_rfl) (by kernel_rfl) (fun _ _ _ h => h) (.inl ⟨by kernel_rfl, fun v _ => exec_sf (b := b) (off := off) (n := n) (k := k) (l := 16) rfl (by kernel_rfl) (by kernel_rfl) (by omega) (by omega) hp8 hn6⟩) s0 rfl ?_
    refine callH (i := 18) (f := 14) (v := .bool true) _ (by kernel_rfl) rfl (by kernel_rfl) (by kernel_rfl) (S5.out _ s0) rfl ?_
    intro Wq1 hbq1
    have sq1 : Below W5.heap.size W5 Wq1 := bel_drew s0 hbq1
    clear hbq1
    refine ⟨sq1, ?_⟩
    refine takeH (i := 19) (v := .bool false) _ rfl (by kernel_rfl) (by kernel_rfl) (by kernel_rfl) (fun _ _ _ h => h) (.inl ⟨by kernel_rfl, fun _ _ => by kernel_rfl⟩) sq1 rfl ?_
    refine takeH (i := 20) (v := .bool false) _ rfl (by kernel_rfl) (by kernel_rfl) (by kernel_rfl) (fun _ _ _ h => h) (.inl ⟨by kernel_rfl, fun _ _ => by kernel_rfl⟩) sq1 rfl ?_
    refine wpAnyH_done (by kernel_rfl) ?_ _
    exact hK0 _ _ (Met.intro (hJ0 _ _ ⟨u21, u22, u23, u24, u25, u26, u27, u28, u29, u30, u31, u32, u33, u34, u35, u36, u37, u38, u39, u40, u41, u42, u43, u44, u45, u46, u47, u48, u49, u50, u51, u52, u53, u54, u55, u56, u57, u58, u59, u60, u61, u62, u63, u64, u65, u66, u67, u68, u69, u70, u71, u72, u73, u74, u75, u76, u77, u78, u79, u80, u81, u82, u83, u84, u85, u86, u87, u88, u89, u90, u91, u92, u93, u94, u95, u96, u97, u98, u99, u100, u101, u102, u103, u104, u105, u106, u107, u108, u109, u110, u111, u112, u113, u114, u115, u116, u117, u118, u119, u120, u121, u122, u123, .int .i64 0, .bool false, .bool false, .int .i64 0, .bool false, .bool false, .bool false, .slice (some ⟨b7, f7, none⟩) n k7, .int .i64 ((n : Nat) : Int), .slice (some ⟨b, off, none⟩) n k, .int .i64 ((n : Nat) : Int), .bool false, .bool false, .bool false, .slice (some ⟨b7, f7, none⟩) n k7, .slice (some ⟨b7, p7, none⟩) n6 (k7 - 16), .slice (some ⟨b, off, none⟩) n k, .slice (some ⟨b, p8, none⟩) n6 (k - 16), .bool true, .bool false, .bool false, u145, u146, u147, u148, u149, u150, u151, u152, u153, u154, u155, u156, u157, u158, u159, u160, u161, u162, u163, u164, u165, u166, u167, u168, u169, u170, u171, u172, u173, ⟨rfl, sq1⟩, by kernel_rfl⟩))
  case rest =>
  clear S5 hp7 hp8
  obtain ⟨rfl, hb8⟩ := hcut
  replace N0 := N0.below hb8
  replace r7 := r7.below hb8
  clear hb8 r0
  generalize wc = W6 at *
  go_upto_region 17 with fail
  have CP2 : Hid (Calls _ _ _ _ _) := copied_own n I JIF.out.1.1 JIF.out.1.2 (by omega) (some ⟨b7, f7, none⟩) k7 W6 r7
  go_cut [15, 16] (fun p q wx => ∃ g ys, p = .pointer (some ⟨g, 0, none⟩) ∧ q = .int .i64 0 ∧ Nk w g ys c T P Q R wx ∧ Nk w g5 xs c T P Q R wx ∧ Row wx (some ⟨b7, f7, none⟩) I)
  case first =>
    go_wp2_with (first
      | (go_at_call 13; go_must (refine CP2.out.mono ?_; rintro e W8 ⟨g8, rfl, hg8, ho8, hb8⟩; have N8 := N0.below hb8; have r8 := r7.below hb8))
      | (go_at_call 8; go_must (refine (PG2.out g8 W8 ho8).mono ?_; rintro e W9 ⟨ys, rfl, YL, hb9⟩; have HY9 : Hid (ys.size = 19 ∧ ys.all (·.oneCell') = true) := ⟨YL.c.size, YL.c.one⟩; have N9 := N8.below hb9; have r9 := r8.below hb9))
      | (refine wpList_store_mid rfl 25 _ _ rfl _ 0 ys rfl rfl ((Blk.new _ _ _).there _ (by first | exact HY9.out.1.symm | (rw [HY9.out.1]; rfl))) (by rw [HY9.out.1]; exact Tryd.infoCart) HY9.out.2 ?_))
    go_meet
    have hl : Below W9.heap.size W9 ((W9.alloc (.cells Z19 25)).setCells W9.heap.size 0 ys.toList) := setCells_below (Nat.le_refl _) _ _ _ _ ((Below.refl _ _).alloc (Nat.le_refl _) _)
    exact ⟨_, ys, rfl, rfl, ⟨(Blk.new W9 Z19 25).setAll (L := ys) (by rw [HY9.out.1]; rfl), YL.below hl, N9.bl.trans (hl.mono N9.bl.size)⟩, N9.below hl, r9.below hl⟩
  case rest =>
  clear CP2 PG2 N0 r7
  obtain ⟨g9, ys, rfl, rfl, N1, N0, r7⟩ := hcut
  generalize wc = W7 at *
  have HYS : Hid (ys.size = 19) := N1.c.c.size
  go_upto_region 18 with fail
  go_cut [18, 19] (fun p q wx => ∃ a' k', p = .slice a' n k' ∧ q = .int .i64 0 ∧ Row wx a' I ∧ Below W7.heap.size W7 wx)
  case first =>
    go_wp2_with (first
      | (refine wpList_load_mid rfl 25 _ rfl g9 0 rfl ys.toList _ N1.b.range Tryd.underlying25 rfl (by rw [Array.length_toList, HYS.out]; exact Tryd.infoCart) ?_; rw [Array.toArray_toList])
      | (go_at_call 16; go_must (refine (PR.out ys W7 N1.bl N1.c).mono ?_; rintro e W8 ⟨a8, k8, rfl, hr8, hk8, hb8⟩)))
    go_meet
    exact ⟨a8, k8, rfl, rfl, hr8, hb8⟩
  case rest =>
  clear PR
  obtain ⟨a8, k8, rfl, rfl, hr8, hb8⟩ := hcut
  replace N0 := N0.below hb8
  replace N1 := N1.below hb8
  replace r7 := r7.below hb8
  clear hb8
  generalize wc = W8 at *
  go_upto_region 19 with fail
  have EQ1 : Hid (Calls _ _ _ _ _) := equal_yes xs ys c T P Q R W8 N0.c N1.c
  go_wp2_with (first | (refine wpList_load_want (by rfl) 25 _ rfl g5 0 rfl xs.toList _ N0.b.range Tryd.underlying25 rfl (by rw [Array.length_toList, HXS.out]; exact Tryd.infoCart) ?_; rw [Array.toArray_toList]) | (refine wpList_load_want (by rfl) 25 _ rfl g9 0 rfl ys.toList _ N1.b.range Tryd.underlying25 rfl (by rw [Array.length_toList, HYS.out]; exact Tryd.infoCart) ?_; rw [Array.toArray_toList]))
  refine EQ1.out.mono ?_
  rintro e W9 ⟨rfl, hb9⟩
  replace N0 := N0.below hb9
  replace r7 := r7.below hb9
  replace hr8 := hr8.below hb9
  clear EQ1 N1 hb9
  go_wp2_with fail
  refine (same_n n n I JIF.out.1.1 JIF.out.1.1 (by omega) (some ⟨b7, f7, none⟩) a8 k7 k8 W9 r7 hr8).mono ?_
  rintro e W10 ⟨rfl, hd⟩
  have hb10 := bel_drew N0.bl hd
  clear hd N0 r7 hr8
  go_wp2
  go_ret
  exact ⟨rfl, hb10⟩
end Go.Proofs.YtpdbndkckioamaaDoor
