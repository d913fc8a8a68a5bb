/-
  The contract of Translate of package xlate.
-/
import Derived.Test.YtfdiplgjiidnbaaDoorXlTrS
set_option linter.unusedSimpArgs false
set_option linter.unusedVariables false
namespace Go.Proofs.YtfdiplgjiidnbaaDoor
open Go.RowKit Classical
theorem exec_conv {P : Program} {ρ : Operand → Value} {o : Oper} {x : Operand} {s t : TypeId} {v u : Value} {w : World} (ho : o.op = .convert s t x) (hx : ρ x = v) (hc : (convert s t v).run P w = .ok u w) : (execOp ρ o).run P w = .ok (.value u) w := by
  obtain ⟨dst, o, ty, pos, after, guard⟩ := o
  simp only at ho
  subst ho
  unfold execOp
  simp only [hx, Sem.run_bind, hc, Result.andThen, Sem.run_pure]
abbrev ZB : Array Value := #[.int .u16 0, .int .i64 0, .string ⟨#[]⟩, .int .i64 0, .slice none 0 0, .int .i64 0, .int .i64 0]
theorem TrOk.err {w w' : World} {pc : Nat} {tag lim x : Int} {L : List Nat} (hE : trE pc tag lim L.length = x) (hx : x ≠ 0) (hb : Below w.heap.size w w') : TrOk w pc tag lim L (.returned (.tuple #[.agg ZB, .int .i64 x])) w' :=
  ⟨.slice none 0 0, [], by rw [hE, if_neg hx, if_neg hx]; rfl, by rw [hE, if_neg hx], World.ownsRow_nil _ _ _ _, hb⟩
theorem TrOk.ok {w w' : World} {pc : Nat} {tag lim : Int} {L : List Nat} {ops : Value} {ps : List Pc} (hE : trE pc tag lim L.length = 0) (hp : trP pc tag lim L = ps) (hr : w'.ownsRow w.heap.size 35 7 ops (mcs L ps).length (mflat (mcs L ps))) (hb : Below w.heap.size w w') : TrOk w pc tag lim L (.returned (.tuple #[.agg (blkC (pc : Nat) tag L ps ops), .int .i64 0])) w' :=
  ⟨ops, ps, by rw [hE, if_pos rfl, if_pos rfl], by rw [hE, if_pos rfl, hp], hr, hb⟩
theorem results_cell_one {fn : Func} {p q : Tmp} {ty : TypeId} (h : fn.results = #[.cell p ty, .tmp q]) (tmps : Array Value) (P : Program) (w : World) :
    (results fn tmps).run P w = ((asAddr (tmps.getD p undef)).run P w).andThen fun a w₁ => ((loadVar ty a).run P w₁).andThen fun v w₂ => .ok (.tuple #[v, tmps.getD q undef]) w₂ := by
  simp only [results, h]
  simp [Sem.run_bind, Result.andThen]
theorem ret_agg2 {P : Program} {fn : Func} {R : Ending → World → Prop} {ac : Act} {w : World} {p q : Tmp} {ty : TypeId} {m : Nat} {L : Array Value} {d : TypeDesc} {t : TypeId} {x : Value} (h : fn.results = #[.cell p ty, .tmp q]) (hp : ac.tmps.getD p undef = .pointer (some ⟨m, 0, none⟩)) (hq : ac.tmps.getD q undef = x) (hdf : ac.defers = [])
    (hb : Blk w m L t) (hu : P.underlying ty = some d) (hd : d.isRow = true) (hi : (P.info? ty).map (·.size) = some L.size) (hR : R (.returned (.tuple #[.agg L, x])) w) : bodyPost P fn R .ret ac w := by
  refine bodyPost_ret (v := .tuple #[.agg L, x]) ?_ hdf hR
  rw [results_cell_one h]
  show ((asAddr (ac.tmps.getD p undef)).run P w).andThen _ = _
  rw [hp, hq]
  have hr := run_loadVar_mid (P := P) w m 0 ty L.toList d hb.range' hu hd (by rw [Array.length_toList]; exact hi)
  simp only [asAddr, Sem.run_pure, Result.andThen_ok]
  rw [hr]
  rfl
theorem orow_types {base s n m : Nat} {T T' : TypeId} {v : Value} {cells : List Value} {cs : Array Value} {w : World} (h : w.ownsRow base T s v n cells) (P : Blk w m cs T') (hT : T ≠ T') (i : Nat) (vs : List Value) : (w.setCells m i vs).ownsRow base T s v n cells := by
  have hne : ∀ g k, v = .slice (some ⟨g, 0, none⟩) n k → g ≠ m := fun g k e he => orow_type h P hT (by rw [e, he]; rfl)
  have : ∀ (vs : List Value) (i : Nat) (w : World), w.ownsRow base T s v n cells → (w.setCells m i vs).ownsRow base T s v n cells := by
    intro vs
    induction vs with
    | nil => exact fun _ _ h => h
    | cons x vs ih => exact fun i w h => ih (i + 1) _ (orow_ne h hne)
  exact this vs i w h
structure Ts (w : World) (b o cap : Nat) (ps : List Pc) (vp : Value) (v : World) : Prop where
  r : v.ownsRow (w.heap.size + 1) 56 11 vp ps.length (flat b o cap ps)
  z : ∃ cs, Blk v w.heap.size cs 27 ∧ cs.size = 7
  hb : Below w.heap.size w v
theorem Ts.on {w v v' : World} {b o cap : Nat} {ps : List Pc} {vp : Value} (h : Ts w b o cap ps vp v) (hb : Below v.heap.size v v') : Ts w b o cap ps vp v' :=
  ⟨orow_keep h.r hb, h.z.elim fun cs hc => ⟨cs, hc.1.below hc.1.lt hb, hc.2⟩, h.hb.trans (hb.mono h.hb.size)⟩
structure Ts1 (w : World) (b o cap : Nat) (ps : List Pc) (vp : Value) (L : List Nat) (xb : Value) (v : World) : Prop where
  t : Ts w b o cap ps vp v
  x : v.ownsRow w.heap.size 5 1 xb (bts L ps).length (vals (bts L ps))
theorem Ts1.on {w v v' : World} {b o cap : Nat} {ps : List Pc} {vp xb : Value} {L : List Nat} (h : Ts1 w b o cap ps vp L xb v) (hb : Below v.heap.size v v') : Ts1 w b o cap ps vp L xb v' := ⟨h.t.on hb, orow_keep h.x hb⟩
structure Ts2 (w : World) (b o cap : Nat) (ps : List Pc) (vp : Value) (L : List Nat) (xm : Value) (v : World) : Prop where
  t : Ts w b o cap ps vp v
  x : v.ownsRow w.heap.size 35 7 xm (mcs L ps).length (mflat (mcs L ps))
theorem Ts2.on {w v v' : World} {b o cap : Nat} {ps : List Pc} {vp xm : Value} {L : List Nat} (h : Ts2 w b o cap ps vp L xm v) (hb : Below v.heap.size v v') : Ts2 w b o cap ps vp L xm v' := ⟨h.t.on hb, orow_keep h.x hb⟩
set_option maxRecDepth 100000 in
set_option maxHeartbeats 4000000 in
theorem translate_any (pc : Nat) (tag lim : Int) (L : List Nat) (a : Option Addr) (b o cap : Nat) (w : World) (hpc : pc < 65536) (HA : CodeAt w a cap L b o) (T : Tabs w) (RT : Rtab w) :
    Calls Tryd.prog 8 #[.int .u16 (pc : Nat), .int .i64 tag, .slice a L.length cap, .int .i64 lim] w fun e w' => TrOk w pc tag lim L e w' := by
  have hbA : ∀ O : Obj, Below w.heap.size w (w.alloc O) := fun O => (Below.refl _ _).alloc (Nat.le_refl _) _
  have hcm := HA.m
  have hle := HA.le
  have LIE : Hid (∀ W, Calls _ _ _ W _) := fun W => lie_any ((pc : Nat) : Int) tag W
  have EB : Hid (∀ W, Calls _ _ _ W _) := fun W => end_any ((pc : Nat) : Int) tag (by omega) (by omega) W
  have HE : Hid (trE pc tag lim L.length = if lim < 1 ∨ 64 < lim then 130 else if lieI (pc : Nat) tag = false then 2 else if endI (pc : Nat) tag - (pc : Nat) < ((L.length : Nat) : Int) then 131 else 0) := rfl
  have e0 : 0 ≤ endI ((pc : Nat) : Int) tag := by unfold endI sizeI; split <;> omega
  have e1 : endI ((pc : Nat) : Int) tag ≤ 81920 := by unfold endI sizeI; split <;> omega
  have e2 := end_bd ((pc : Nat) : Int) tag (by omega)
  have HLEN : Hid (L.length = L.length) := rfl
  obtain ⟨E, hE⟩ : ∃ E, endI ((pc : Nat) : Int) tag = E := ⟨_, rfl⟩
  obtain ⟨X, hX⟩ : ∃ X, lieI ((pc : Nat) : Int) tag = X := ⟨_, rfl⟩
  rw [hE] at EB HE e0 e1 e2
  rw [hX] at LIE HE
  clear hE hX HLEN
  obtain ⟨len, hlen⟩ : ∃ len, L.length = len := ⟨_, rfl⟩
  have HLN : Hid (L.length = len) := hlen
  have HE2 : Hid (trE pc tag lim L.length = if lim < 1 ∨ 64 < lim then 130 else if X = false then 2 else if E - (pc : Nat) < ((len : Nat) : Int) then 131 else 0) := by rw [← hlen]; exact HE
  clear HE
  rw [hlen] at hle ⊢
  clear hlen
  by_cases h1 : lim < 1
  · have hE : trE pc tag lim L.length = 130 := by rw [HE2.out, if_pos (.inl h1)]
    have HEE : Hid (trE pc tag lim L.length = 130) := hE
    clear hE HE2 LIE EB
    go_enter Tryd.func8, Tryd.ntmps8
    go_wp2
    exact bodyPost_ret (v := .tuple #[.agg ZB, .int .i64 130]) (by simp [results, Tryd.results8, go_sem]) rfl (TrOk.err HEE.out (by decide) (hbA _))
  by_cases h2 : 64 < lim
  · have hE : trE pc tag lim L.length = 130 := by rw [HE2.out, if_pos (.inr h2)]
    have HEE : Hid (trE pc tag lim L.length = 130) := hE
    clear hE HE2 LIE EB
    go_enter Tryd.func8, Tryd.ntmps8
    go_wp2
    exact bodyPost_ret (v := .tuple #[.agg ZB, .int .i64 130]) (by simp [results, Tryd.results8, go_sem]) rfl (TrOk.err HEE.out (by decide) (hbA _))
  cases X
  · have hE : trE pc tag lim L.length = 2 := by rw [HE2.out, if_neg (by omega), if_pos rfl]
    have HEE : Hid (trE pc tag lim L.length = 2) := hE
    clear hE HE2 EB
    go_enter Tryd.func8, Tryd.ntmps8
    go_wp2_with (go_at_call 16; go_must (refine (LIE.out _).mono ?_; rintro e W1 ⟨rfl, rfl⟩))
    exact bodyPost_ret (v := .tuple #[.agg ZB, .int .i64 2]) (by simp [results, Tryd.results8, go_sem]) rfl (TrOk.err HEE.out (by decide) (hbA _))
  by_cases h3 : E - ((pc : Nat) : Int) < ((len : Nat) : Int)
  · have hE : trE pc tag lim L.length = 131 := by rw [HE2.out, if_neg (by omega), if_neg (by decide), if_pos h3]
    have HEE : Hid (trE pc tag lim L.length = 131) := hE
    clear hE HE2
    go_enter Tryd.func8, Tryd.ntmps8
    go_wp2_with (first
      | (go_at_call 16; go_must (refine (LIE.out _).mono ?_; rintro e W1 ⟨rfl, rfl⟩))
      | (go_at_call 17; go_must (refine (EB.out _).mono ?_; rintro e W1 ⟨rfl, rfl⟩)))
    exact bodyPost_ret (v := .tuple #[.agg ZB, .int .i64 131]) (by simp [results, Tryd.results8, go_sem]) rfl (TrOk.err HEE.out (by decide) (hbA _))
  have hE : trE pc tag lim L.length = 0 := by rw [HE2.out, if_neg (by omega), if_neg (by decide), if_neg h3]
  have HEE : Hid (trE pc tag lim L.length = 0) := hE
  clear hE HE2
  go_enter Tryd.func8, Tryd.ntmps8
  go_upto_region 7 with (first
    | (go_at_call 16; go_must (refine (LIE.out _).mono ?_; rintro e W1 ⟨rfl, rfl⟩))
    | (go_at_call 17; go_must (refine (EB.out _).mono ?_; rintro e W1 ⟨rfl, rfl⟩)))
  clear LIE EB
  have z0 : Blk (w.alloc (.cells ZB 27)) w.heap.size ZB 27 := Blk.new w _ _
  have hs1 : (w.alloc (.cells ZB 27)).heap.size = w.heap.size + 1 := by simp
  have HS1 : Hid ((w.alloc (.cells ZB 27)).heap.size = w.heap.size + 1) := hs1
  have hb1 := hbA (.cells ZB 27)
  clear hs1 hbA
  generalize w.alloc (.cells ZB 27) = W1 at *
  obtain ⟨lm, rfl⟩ : ∃ lm : Nat, lim = (lm : Int) := ⟨lim.toNat, by omega⟩
  have CU : Hid (Calls _ _ _ _ _) := cut_all pc tag lm L a b o cap W1 hpc (by omega) (by rw [HLN.out]; omega) (HA.on hb1)
  rw [HLN.out] at CU
  have HPK : Hid (∀ p ∈ cutL tag L lm pc 0 0 0, Pok L p) := cutL_ok HA.by' lm pc 0 0 0 hpc (by omega) (by omega)
  have HCL : Hid ((cutL tag L lm pc 0 0 0).length ≤ 64) := by
    have := cutL_len tag L lm pc 0 0 0
    unfold Hid; omega
  have HTP : Hid (trP pc tag ((lm : Nat) : Int) L = livL L (cutL tag L lm pc 0 0 0)) := rfl
  have HHA : Hid (CodeAt w a cap L b o) := HA
  have HT : Hid (Tabs w ∧ Rtab w) := ⟨T, RT⟩
  generalize cutL tag L lm pc 0 0 0 = qs at *
  clear HA T RT
  go_cut [10] (fun v wx => wx.ownsRow (w.heap.size + 1) 56 11 v qs.length (flat b o cap qs) ∧ Blk wx w.heap.size ZB 27 ∧ Below w.heap.size w wx ∧ w.heap.size + 1 ≤ wx.heap.size)
  case first =>
    go_wp2_with (go_at_call 18; go_must (refine CU.out.mono ?_; rintro e W2 ⟨v2, rfl, r2, hb2⟩))
    go_meet
    have hz : w.heap.size < W1.heap.size := z0.lt
    exact ⟨orow_lower r2 (by omega), z0.below hz hb2, hb1.trans (hb2.mono (by omega)), by have := hb2.size; omega⟩
  case rest =>
  clear CU z0 hb1 HS1
  obtain ⟨r2, z2, hb2, hsz⟩ := hcut
  generalize wc = W2 at *
  have G2 : Gr (w.heap.size + 1) b o L W2 := ⟨HHA.out.c.at hb2, HHA.out.lt, HT.out.1.on hb2, HT.out.2.on hb2, by have := HT.out.1.lt.1; omega, by have := HT.out.1.lt.2; omega, by have := HT.out.2.lt; omega⟩
  have LV : Hid (Calls _ _ _ _ _) := live_any L b o cap (w.heap.size + 1) qs.length qs u10 W2 rfl HCL.out HPK.out HHA.out.by' G2 hsz r2
  clear G2 r2
  go_upto_region 8 with fail
  obtain ⟨ps, hps⟩ : ∃ ps, livL L qs = ps := ⟨_, rfl⟩
  have HPS : Hid ((livL L qs = ps ∧ ps.length = qs.length) ∧ ∀ p ∈ ps, Pok L p) := by
    unfold Hid; rw [← hps]; exact ⟨⟨rfl, livL_length L qs⟩, livL_ok qs HPK.out⟩
  rw [hps] at LV
  clear hps
  go_cut [] (fun wx => Ts w b o cap ps u10 wx)
  case first =>
    go_wp2_with (go_at_call 19; go_must (refine LV.out.mono ?_; rintro e W3 ⟨rfl, r3, hb3⟩))
    go_meet
    exact ⟨by rw [HPS.out.1.2]; exact r3, ⟨ZB, z2.below (Nat.lt_succ_self _) hb3, rfl⟩, hb2.trans (hb3.mono (Nat.le_succ _))⟩
  case rest =>
  clear LV z2 hb2 hsz
  generalize wc = W3 at *
  have hn64 : ps.length ≤ 64 := by rw [HPS.out.1.2]; exact HCL.out
  obtain ⟨pa, pcap, ev, -⟩ := orow_form hcut.r
  subst ev
  have FB : Hid (∀ v, Ts w b o cap ps (.slice pa ps.length pcap) v → Calls _ _ _ v _) := fun v h => fbytes_any L b o cap (w.heap.size + 1) ps.length ps (.slice pa ps.length pcap) v rfl hn64 HPS.out.2 (HHA.out.c.at h.hb) h.r
  have FM : Hid (∀ v, Ts w b o cap ps (.slice pa ps.length pcap) v → Calls _ _ _ v _) := fun v h => fmicros_any L b o cap (w.heap.size + 1) ps.length ps (.slice pa ps.length pcap) v rfl hn64 HPS.out.2 HHA.out.by' (HHA.out.c.at h.hb) (HT.out.2.on h.hb) h.r
  have FL : Hid (∀ v, Ts w b o cap ps (.slice pa ps.length pcap) v → Calls _ _ _ v _) := fun v h => fleast_any L b o cap (w.heap.size + 1) ps.length ps (.slice pa ps.length pcap) v rfl hn64 HPS.out.2 h.r
  have FX : Hid (∀ v, Ts w b o cap ps (.slice pa ps.length pcap) v → Calls _ _ _ v _) := fun v h => fmost_any L b o cap (w.heap.size + 1) ps.length ps (.slice pa ps.length pcap) v rfl hn64 HPS.out.2 HHA.out.by' (HHA.out.c.at h.hb) h.r
  have HBB : Hid (Byts (bts L ps)) := bts_byts HHA.out.by' ps
  go_upto_region 9 with fail
  have s0 : Ts w b o cap ps (.slice pa ps.length pcap) W3.drew := hcut.on (Below.refl _ _).drew
  clear hcut
  refine wp_region_held (S := fun v => Ts w b o cap ps (.slice pa ps.length pcap) v) (by kernel_rfl) ?_
  refine takeH (i := 0) (v := .int .u16 ((pc : Nat) : Int)) _ rfl (by kernel_rfl) (by kernel_rfl) (by kernel_rfl) (fun _ _ _ h => h) (.inl ⟨by kernel_rfl, fun _ _ => by kernel_rfl⟩) s0 rfl ?_
  refine takeH (i := 1) (v := .int .i64 tag) _ rfl (by kernel_rfl) (by kernel_rfl) (by kernel_rfl) (fun _ _ _ h => h) (.inl ⟨by kernel_rfl, fun _ _ => by kernel_rfl⟩) s0 rfl ?_
  refine takeH (i := 2) (v := .slice pa ps.length pcap) _ rfl (by kernel_rfl) (by kernel_rfl) (by kernel_rfl) (fun _ _ _ h => h) (.inl ⟨by kernel_rfl, fun _ _ => by kernel_rfl⟩) s0 rfl ?_
  refine takeH (i := 5) (v := .slice pa ps.length pcap) _ rfl (by kernel_rfl) (by kernel_rfl) (by kernel_rfl) (fun _ _ _ h => h) (.inl ⟨by kernel_rfl, fun _ _ => by kernel_rfl⟩) s0 rfl ?_
  refine takeH (i := 6) (v := .int .i64 ((ps.length : Nat) : Int)) _ rfl (by kernel_rfl) (by kernel_rfl) (by kernel_rfl) (fun _ _ _ h => h) (.inl ⟨by kernel_rfl, fun _ _ => by kernel_rfl⟩) s0 rfl ?_
  refine takeH (i := 7) (v := .slice pa ps.length pcap) _ rfl (by kernel_rfl) (by kernel_rfl) (by kernel_rfl) (fun _ _ _ h => h) (.inl ⟨by kernel_rfl, fun _ _ => by kernel_rfl⟩) s0 rfl ?_
  refine takeH (i := 9) (v := .slice pa ps.length pcap) _ rfl (by kernel_rfl) (by kernel_rfl) (by kernel_rfl) (fun _ _ _ h => h) (.inl ⟨by kernel_rfl, fun _ _ => by kernel_rfl⟩) s0 rfl ?_
  refine takeH (i := 11) (v := .slice pa ps.length pcap) _ rfl (by kernel_rfl) (by kernel_rfl) (by kernel_rfl) (fun _ _ _ h => h) (.inl ⟨by kernel_rfl, fun _ _ => by kernel_rfl⟩) s0 rfl ?_
  refine callHE (i := 3) (f := 20) (by kernel_rfl) rfl (by kernel_rfl) (by kernel_rfl) (FB.out _ s0) ?_
  rintro xb Wa ⟨rb, hba⟩
  have s1 : Ts1 w b o cap ps (.slice pa ps.length pcap) L xb Wa := ⟨s0.on hba, orow_lower rb s0.hb.size⟩
  refine ⟨s1.t, ?_⟩
  clear rb hba s0 FB
  refine heldMono (S' := fun v => Ts1 w b o cap ps (.slice pa ps.length pcap) L xb v) (fun _ h => h.t) _ _ _ _ ?_
  refine takeH (i := 4) (v := .string (strB (bts L ps))) _ rfl (by kernel_rfl) (by kernel_rfl) (by kernel_rfl) (fun _ _ _ h => h) (.inl ⟨by kernel_rfl, fun v hv => exec_conv (v := xb) rfl (by kernel_rfl) (orow_str hv.x HBB.out)⟩) s1 rfl ?_
  refine callHE (i := 8) (f := 22) (by kernel_rfl) rfl (by kernel_rfl) (by kernel_rfl) (FM.out _ s1.t) ?_
  rintro xm Wb ⟨rb, hba⟩
  obtain ⟨ma, mc, exm, -⟩ := orow_form rb
  subst exm
  have s2 : Ts2 w b o cap ps (.slice pa ps.length pcap) L (.slice ma (mcs L ps).length mc) Wb := ⟨(s1.on hba).t, orow_lower rb s1.t.hb.size⟩
  refine ⟨s1.on hba, ?_⟩
  refine heldMono (S' := fun v => Ts1 w b o cap ps (.slice pa ps.length pcap) L xb v ∧ Ts2 w b o cap ps (.slice pa ps.length pcap) L (.slice ma (mcs L ps).length mc) v) (fun _ h => h.1) _ _ _ _ ?_
  have s3 : Ts1 w b o cap ps (.slice pa ps.length pcap) L xb Wb ∧ Ts2 w b o cap ps (.slice pa ps.length pcap) L (.slice ma (mcs L ps).length mc) Wb := ⟨s1.on hba, s2⟩
  clear rb hba s1 s2 FM
  refine callH (i := 10) (f := 24) (v := .int .i64 ((lst ps : Nat) : Int)) _ (by kernel_rfl) rfl (by kernel_rfl) (by kernel_rfl) (FL.out _ s3.1.t) rfl ?_
  intro Wc hbc
  have s4 : Ts1 w b o cap ps (.slice pa ps.length pcap) L xb Wc ∧ Ts2 w b o cap ps (.slice pa ps.length pcap) L (.slice ma (mcs L ps).length mc) Wc := ⟨s3.1.on hbc, s3.2.on hbc⟩
  refine ⟨s4, ?_⟩
  clear s3 hbc FL
  refine callH (i := 12) (f := 24) (v := .int .i64 (mst L ps)) _ (by kernel_rfl) rfl (by kernel_rfl) (by kernel_rfl) (FX.out _ s4.1.t) rfl ?_
  intro Wd hbd
  have s5 : Ts1 w b o cap ps (.slice pa ps.length pcap) L xb Wd ∧ Ts2 w b o cap ps (.slice pa ps.length pcap) L (.slice ma (mcs L ps).length mc) Wd := ⟨s4.1.on hbd, s4.2.on hbd⟩
  refine ⟨s5, ?_⟩
  clear s4 hbd FX
  refine takeH (i := 13) (v := .agg (blkC ((pc : Nat) : Int) tag L ps (.slice ma (mcs L ps).length mc))) _ rfl (by kernel_rfl) (by kernel_rfl) (by kernel_rfl) (fun _ _ _ h => h) (.inl ⟨by kernel_rfl, fun _ _ => by kernel_rfl⟩) s5 rfl ?_
  obtain ⟨cs, zc, hz7⟩ := s5.1.t.z
  refine wpAnyH_all (rs := [14]) (by kernel_rfl) (by simp) ?_
  intro i hi
  obtain rfl : i = 14 := by simpa using hi
  refine wpOp_store rfl (by kernel_rfl) 27 (.tmp 8) (.tmp 56) rfl w.heap.size 0 (.agg (blkC ((pc : Nat) : Int) tag L ps (.slice ma (mcs L ps).length mc))) (blkC ((pc : Nat) : Int) tag L ps (.slice ma (mcs L ps).length mc)) (by kernel_rfl) (by kernel_rfl) rfl (zc.there' 7 hz7) (by kernel_rfl) (by kernel_rfl) _ rfl ?_
  intro We eWe
  have z6 : Blk We w.heap.size (blkC ((pc : Nat) : Int) tag L ps (.slice ma (mcs L ps).length mc)) 27 := by rw [eWe]; exact zc.setAll (L := blkC ((pc : Nat) : Int) tag L ps (.slice ma (mcs L ps).length mc)) (by rw [hz7]; rfl)
  have t6 : Ts w b o cap ps (.slice pa ps.length pcap) We := ⟨by rw [eWe]; exact orow_others (Nat.lt_succ_self _) _ _ _ s5.1.t.r, ⟨_, z6, rfl⟩, by rw [eWe]; exact setCells_below' (Nat.le_refl _) _ _ _ _ s5.1.t.hb⟩
  have x6 : We.ownsRow w.heap.size 35 7 (.slice ma (mcs L ps).length mc) (mcs L ps).length (mflat (mcs L ps)) := by rw [eWe]; exact orow_types s5.2.x zc (by decide) _ _
  have b6 : We.ownsRow w.heap.size 5 1 xb (bts L ps).length (vals (bts L ps)) := by rw [eWe]; exact orow_types s5.1.x zc (by decide) _ _
  have s6 : Ts1 w b o cap ps (.slice pa ps.length pcap) L xb We ∧ Ts2 w b o cap ps (.slice pa ps.length pcap) L (.slice ma (mcs L ps).length mc) We := ⟨⟨t6, b6⟩, t6, x6⟩
  clear eWe hi s5 zc hz7
  refine ⟨s6, ?_⟩
  refine takeH (i := 15) (v := .int .i64 0) _ rfl (by kernel_rfl) (by kernel_rfl) (by kernel_rfl) (fun _ _ _ h => h) (.inl ⟨by kernel_rfl, fun _ _ => by kernel_rfl⟩) s6 rfl ?_
  refine wpAnyH_done (by kernel_rfl) ?_ _
  go_wp2
  refine ret_agg2 (m := w.heap.size) (L := blkC ((pc : Nat) : Int) tag L ps (.slice ma (mcs L ps).length mc)) (x := .int .i64 0) Tryd.results8 (by kernel_rfl) (by kernel_rfl) (by kernel_rfl) z6 Tryd.underlying27 rfl (by kernel_rfl) ?_
  exact TrOk.ok HEE.out (by rw [HTP.out]; exact HPS.out.1.1) x6 t6.hb
end Go.Proofs.YtfdiplgjiidnbaaDoor
