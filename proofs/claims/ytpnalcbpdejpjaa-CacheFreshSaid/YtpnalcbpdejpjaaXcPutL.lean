/-
  Put of any block.
-/
import Derived.Test.YtpnalcbpdejpjaaXcPutC
import Derived.Test.YtpnalcbpdejpjaaXcGetL
set_option linter.unusedSimpArgs false
set_option linter.unusedVariables false
namespace Go.Proofs.Ytpnalcbpdejpjaa
open Go.RowKit Classical
theorem wpOp_contractE {P : Program} {ops : Array Oper} {Q : Exit → Act → World → Prop} {i : Nat} {K : Act → World → Prop} {a : Act} {w : World} {o : Oper} {f : FuncId} {args : Array Value} {R : Value → World → Prop}
    (hi : ops[i]? = some o) (hw : Region.wanted o (yielded ops a.tmps) = true) (he : (execOp a.eval o).run P w = .ok (.enter f args) w)
    (hc : Calls P f args w fun e w' => ∃ v, e = .returned v ∧ R v w') (h : ∀ v w', R v w' → K (a.put o.dst v) w') : wpOp P ops Q i K a w := by
  unfold wpOp
  rw [hi]
  simp only [hw, if_true]
  left
  unfold Oper.wp
  rw [he, Oper.upon_enter]
  refine hc.mono ?_
  rintro e w' ⟨v, rfl, hR⟩
  exact h v w' hR
theorem copiedE (pc tag : Int) (s : ByteArray) (ni lo hi : Int) (oa : Option Addr) (on oc : Nat) (cells : List Value) (w : World) (H : Ls w oa on oc cells) (hn : on ≤ 2932031007317) :
    Calls Try.prog 38 #[.agg #[.int .u16 pc, .int .i64 tag, .string s, .int .i64 ni, .slice oa on oc, .int .i64 lo, .int .i64 hi]] w fun e w' => ∃ v, e = .returned v ∧ ∃ la lc, v = .agg #[.int .u16 pc, .int .i64 tag, .string s, .int .i64 ni, .slice la on lc, .int .i64 lo, .int .i64 hi] ∧ Cpd w w' oa on oc cells la lc ∧ Below w.heap.size w w' :=
  (copied_any pc tag s ni lo hi oa on oc cells w H hn).mono fun _ _ ⟨la, lc, h1, h2, h3⟩ => ⟨_, h1, la, lc, rfl, h2, h3⟩
theorem Ca.orow {base q ga kA m k N n fc B n' : Nat} {fa : Option Addr} {A : List Nat} {es : List En} {cnt : Int → Int} {w v : World} {x : Value} {cells : List Value} (h : Ca base q ga kA m k N (.slice fa n fc) A es cnt w) (g : Fr (CaS q ga m (.slice fa n fc)) w v) (r : w.ownsRow B 54 7 x n' cells) : v.ownsRow B 54 7 x n' cells := g.orow r (fun b c e => by
  subst e
  have hf := h.f
  obtain ⟨a9, c9, e9, _⟩ := orow_form hf
  injection e9 with q1 q2 q3
  rw [← q2] at hf
  rintro (rfl | rfl | rfl | hb)
  · exact orow_blk r h.b (by decide) rfl
  · exact orow_apart r h.a (by decide) rfl
  · exact h.mr.row r rfl
  · cases fa with
    | none => exact absurd (show (none : Option Nat) = some b from hb) (by simp)
    | some ad =>
      obtain ⟨g', rfl⟩ := orow_where hf
      have e1 : g' = b := by injection (show some g' = some b from hb)
      subst e1
      exact orow_apart r hf (by decide) rfl)
set_option maxRecDepth 100000 in
set_option maxHeartbeats 4000000 in
theorem putL_of (base q ga kA m k N n fc sl : Nat) (fa : Option Addr) (fv : Value) (A A' : List Nat) (es es' : List En) (cnt cnt' : Int → Int) (pc tag : Int) (s : ByteArray) (ni lo hi place k0 k1 : Int) (oa : Option Addr) (on oc : Nat) (cells : List Value) (r rr : Bool) (RK : Array Value) (k' : Nat) (w : World) (hR : (rr = false ∧ RK = #[.int .u16 0, .int .i64 0] ∧ r = false) ∨ (rr = false ∧ RK = #[.int .u16 0, .int .i64 0] ∧ r = true ∧ ((k0 == pc) && (k1 == tag)) = true) ∨ (rr = true ∧ RK = #[.int .u16 k0, .int .i64 k1] ∧ r = true ∧ ((k0 == pc) && (k1 == tag)) = false)) (H : Ca base q ga kA m k N fv A es cnt w) (hN0 : 1 ≤ N) (hN : N ≤ 65536) (hn : n ≤ 65536) (p0 : 0 ≤ pc) (p1 : pc ≤ 65535) (hsl : slotV pc tag N = ((sl : Nat) : Int)) (hA : A'[sl]? = some 0)
    (f0 : 0 ≤ spF place) (f1 : spF place ≤ 1099511627776) (n0 : 0 ≤ spN place (s.size : Nat)) (n1 : spN place (s.size : Nat) ≤ 140737488355328) (hk : (k' : Int) + (pg1 (spF place) (spN place (s.size : Nat)) - pg0 (spF place) (spN place (s.size : Nat))) ≤ 140000000000000) (hc : ∀ p, -1000000 ≤ cnt' p ∧ cnt' p ≤ 1000000) (hbw : base ≤ w.heap.size)
    (hL : q < w.heap.size ∧ ga < w.heap.size ∧ m < w.heap.size ∧ ∀ b, fa = some ⟨b, 0, none⟩ → b < w.heap.size)
    (hLs : ∀ V, Fr (CaS q ga m (.slice fa n fc)) w V → Ls V oa on oc cells) (hon : on ≤ 2932031007317)
    (DR : ∀ V, Ca base q ga kA m k N fv A es cnt V → w.heap.size ≤ V.heap.size → Calls Try.prog 37 #[.pointer (some ⟨q, 0, none⟩), .int .i64 ((sl : Nat) : Int)] V fun e w' => e = .returned (.tuple #[.agg #[.int .u16 k0, .int .i64 k1], .bool r]) ∧ Ca base q ga kA m k' N (.slice fa n fc) A' es' cnt' w' ∧ Fr (CaS q ga m (.slice fa n fc)) V w') :
    Calls Try.prog 12 #[.pointer (some ⟨q, 0, none⟩), .agg #[.int .u16 pc, .int .i64 tag, .string s, .int .i64 ni, .slice oa on oc, .int .i64 lo, .int .i64 hi], .int .i64 place] w fun e w' => e = .returned (.tuple #[.agg RK, .bool rr]) ∧ (∃ (fa' : Option Addr) (fc' k'' : Nat) (la : Option Addr) (lc : Nat), (k'' : Int) = k' + (pg1 (spF place) (spN place (s.size : Nat)) - pg0 (spF place) (spN place (s.size : Nat))) ∧ Ca base q ga kA m k'' N (.slice fa' (n + 1) fc') (A'.set sl (n + 1)) (es' ++ [(⟨sl, pc, tag, s, ni, la, on, lc, lo, hi, spF place, spN place (s.size : Nat)⟩ : En)]) (addP cnt' (pg0 (spF place) (spN place (s.size : Nat))) (pg1 (spF place) (spN place (s.size : Nat))) 1) w' ∧ ((Value.slice fa' (n + 1) fc').ownBlock = (Value.slice fa n fc).ownBlock ∨ ∃ b, w.heap.size ≤ b ∧ (Value.slice fa' (n + 1) fc').ownBlock = some b) ∧ ((oa = none ∧ la = none ∧ lc = 0) ∨ ((∃ ad, oa = some ad) ∧ ∃ g, la = some ⟨g, 0, none⟩ ∧ lc = on)) ∧ (w').ownsRow w.heap.size 54 7 (.slice la on lc) on cells) ∧ Fr (CaS q ga m (.slice fa n fc)) w w' := by
  have HS : Hid (∀ v, Calls Try.prog 9 #[.agg #[.int .u16 pc, .int .i64 tag], .int .i64 ((N : Nat) : Int)] v fun e w' => e = .returned (.int .i64 ((sl : Nat) : Int)) ∧ Below v.heap.size v w') := fun v => by rw [← hsl]; exact slot_any pc tag N v p0 p1 (by omega) (by omega)
  have HB : Hid ((0 ≤ spF place ∧ spF place ≤ 1099511627776 ∧ 0 ≤ spN place (s.size : Nat) ∧ spN place (s.size : Nat) ≤ 140737488355328) ∧ ((k' : Int) + (pg1 (spF place) (spN place (s.size : Nat)) - pg0 (spF place) (spN place (s.size : Nat))) ≤ 140000000000000) ∧ (∀ p, -1000000 ≤ cnt' p ∧ cnt' p ≤ 1000000)) := ⟨⟨f0, f1, n0, n1⟩, hk, hc⟩
  have HL : Hid (q < w.heap.size ∧ ga < w.heap.size ∧ m < w.heap.size ∧ ∀ b, fa = some ⟨b, 0, none⟩ → b < w.heap.size) := hL
  have HA : Hid (A'[sl]? = some 0 ∧ N ≤ 65536 ∧ n ≤ 65536 ∧ base ≤ w.heap.size) := ⟨hA, hN, hn, hbw⟩
  have HDR : Hid (∀ V, Ca base q ga kA m k N fv A es cnt V → w.heap.size ≤ V.heap.size → Calls _ _ _ V _) := DR
  have hNi : ¬ ((N : Nat) : Int) = 0 := by omega
  have hb0 : Below w.heap.size w ((w.alloc (.cells #[.int .u16 pc, .int .i64 tag, .string s, .int .i64 ni, .slice oa on oc, .int .i64 lo, .int .i64 hi] 34)).alloc (.cells #[.int .u16 0, .int .i64 0] 24)) := ((Below.refl _ _).alloc (Nat.le_refl _) _).alloc (by simp) _
  have ca0 : Ca base q ga kA m k N fv A es cnt ((w.alloc (.cells #[.int .u16 pc, .int .i64 tag, .string s, .int .i64 ni, .slice oa on oc, .int .i64 lo, .int .i64 hi] 34)).alloc (.cells #[.int .u16 0, .int .i64 0] 24)) := H.on hb0
  have z0 : Blk ((w.alloc (.cells #[.int .u16 pc, .int .i64 tag, .string s, .int .i64 ni, .slice oa on oc, .int .i64 lo, .int .i64 hi] 34)).alloc (.cells #[.int .u16 0, .int .i64 0] 24)) w.heap.size #[.int .u16 pc, .int .i64 tag, .string s, .int .i64 ni, .slice oa on oc, .int .i64 lo, .int .i64 hi] 34 := (Blk.new w #[.int .u16 pc, .int .i64 tag, .string s, .int .i64 ni, .slice oa on oc, .int .i64 lo, .int .i64 hi] 34).old _
  have z1 : Blk ((w.alloc (.cells #[.int .u16 pc, .int .i64 tag, .string s, .int .i64 ni, .slice oa on oc, .int .i64 lo, .int .i64 hi] 34)).alloc (.cells #[.int .u16 0, .int .i64 0] 24)) (w.heap.size + 1) #[.int .u16 0, .int .i64 0] 24 := by
    have := Blk.new (w.alloc (.cells #[.int .u16 pc, .int .i64 tag, .string s, .int .i64 ni, .slice oa on oc, .int .i64 lo, .int .i64 hi] 34)) #[.int .u16 0, .int .i64 0] 24
    simpa using this
  have hsz : (((w.alloc (.cells #[.int .u16 pc, .int .i64 tag, .string s, .int .i64 ni, .slice oa on oc, .int .i64 lo, .int .i64 hi] 34)).alloc (.cells #[.int .u16 0, .int .i64 0] 24))).heap.size = w.heap.size + 2 := by simp
  have HR : Hid _ := hR
  have HLS : Hid (∀ V, Fr (CaS q ga m (.slice fa n fc)) w V → Ls V oa on oc cells) := hLs
  have HON : Hid (on ≤ 2932031007317) := hon
  clear hLs hon hR f0 f1 n0 n1 hk hc hL DR hA hN hn hbw H hsl
  go_enter Try.func12, Try.ntmps12
  go_upto_region 1 with fail
  generalize ((w.alloc (.cells #[.int .u16 pc, .int .i64 tag, .string s, .int .i64 ni, .slice oa on oc, .int .i64 lo, .int .i64 hi] 34)).alloc (.cells #[.int .u16 0, .int .i64 0] 24)) = W0 at *
  have SZ : Hid (Calls _ _ _ W0 _) := csize_any q N _ _ W0 (ca0.b.cell 0)
  go_upto_region 3 with (go_at_call 36; go_must (refine SZ.out.mono ?_; rintro e W1 ⟨rfl, hw⟩; obtain rfl := hw.symm))
  clear SZ
  have c0 : W0.cell? ⟨w.heap.size, 0, none⟩ = some (.int .u16 pc) := z0.cell 0
  have c1 : W0.cell? ⟨w.heap.size, 1, none⟩ = some (.int .i64 tag) := z0.cell 1
  go_cut [8] (fun a wx => a = .pointer (some ⟨w.heap.size + 2, 0, none⟩) ∧ Ps w w.heap.size #[.int .u16 pc, .int .i64 tag, .string s, .int .i64 ni, .slice oa on oc, .int .i64 lo, .int .i64 hi] #[.int .u16 pc, .int .i64 tag] (fun v => Ca base q ga kA m k N fv A es cnt v ∧ Below w.heap.size w v) wx)
  case first =>
    go_wp2
    go_meet
    have hb1 : Below W0.heap.size W0 (W0.alloc (.cells #[.int .u16 pc, .int .i64 tag] 24)) := (Below.refl _ _).alloc (Nat.le_refl _) _
    have z2 : Blk (W0.alloc (.cells #[.int .u16 pc, .int .i64 tag] 24)) W0.heap.size #[.int .u16 pc, .int .i64 tag] 24 := Blk.new W0 _ _
    refine ⟨by rw [← hsz], z0.below z0.lt hb1, z1.below z1.lt hb1, by rw [← hsz]; exact z2, ⟨ca0.on hb1, hb0.trans (hb1.mono hb0.size)⟩, ?_⟩
    have := hb1.size; omega
  case rest =>
  clear c0 c1 z0 z1 ca0 hb0 hsz
  obtain ⟨rfl, s0⟩ := hcut
  generalize wc = W1 at *
  go_upto_region 4 with fail
  replace s0 : Ps w w.heap.size #[.int .u16 pc, .int .i64 tag, .string s, .int .i64 ni, .slice oa on oc, .int .i64 lo, .int .i64 hi] #[.int .u16 pc, .int .i64 tag] (fun v => Ca base q ga kA m k N fv A es cnt v ∧ Below w.heap.size w v) W1.drew := s0.on (fun _ _ h c => ⟨c.1.on h, c.2.trans (h.mono c.2.size)⟩) (Below.refl _ _).drew
  go_cut [9] (fun a wx => a = .int .i64 ((sl : Nat) : Int) ∧ Ps w w.heap.size #[.int .u16 pc, .int .i64 tag, .string s, .int .i64 ni, .slice oa on oc, .int .i64 lo, .int .i64 hi] #[.int .u16 pc, .int .i64 tag] (fun v => Ca base q ga kA m k N fv A es cnt v ∧ Below w.heap.size w v) wx)
  case first =>
    rename_i J0 K0 hJ0 hK0
    refine wp_region_held (S := Ps w w.heap.size #[.int .u16 pc, .int .i64 tag, .string s, .int .i64 ni, .slice oa on oc, .int .i64 lo, .int .i64 hi] #[.int .u16 pc, .int .i64 tag] (fun v => Ca base q ga kA m k N fv A es cnt v ∧ Below w.heap.size w v)) (by kernel_rfl) ?_
    refine takeH (i := 0) (v := .agg (#[.int .u16 pc, .int .i64 tag] : Array Value).toList.toArray) _ rfl (by kernel_rfl) (by kernel_rfl) (by kernel_rfl) (fun _ _ _ h => h) (.inl ⟨by kernel_rfl, fun v hv => exec_loadM (cs := (#[.int .u16 pc, .int .i64 tag] : Array Value).toList) rfl (by kernel_rfl) hv.k.range' Try.underlying24 rfl (by kernel_rfl)⟩) s0 rfl ?_
    refine takeH (i := 1) (v := .pointer (some ⟨q, 0, none⟩)) _ rfl (by kernel_rfl) (by kernel_rfl) (by kernel_rfl) (fun _ _ _ h => h) (.inl ⟨by kernel_rfl, fun _ _ => by kernel_rfl⟩) s0 rfl ?_
    refine callH (i := 2) (f := 36) (v := .int .i64 ((N : Nat) : Int)) _ (by kernel_rfl) rfl (by kernel_rfl) (by kernel_rfl) (csize_any q N _ _ _ (s0.c.1.b.cell 0)) rfl ?_
    rintro _ rfl
    refine ⟨s0, ?_⟩
    refine callH (i := 3) (f := 9) (v := .int .i64 ((sl : Nat) : Int)) _ (by kernel_rfl) rfl (by kernel_rfl) (by kernel_rfl) (HS.out _) rfl ?_
    intro V1 hV1
    have s1 := s0.on (fun _ _ h c => ⟨c.1.on h, c.2.trans (h.mono c.2.size)⟩) hV1
    refine ⟨s1, ?_⟩
    refine takeH (i := 4) (v := .int .i64 ((sl : Nat) : Int)) _ rfl (by kernel_rfl) (by kernel_rfl) (by kernel_rfl) (fun _ _ _ h => h) (.inl ⟨by kernel_rfl, fun _ _ => by kernel_rfl⟩) s1 rfl ?_
    refine wpAnyH_done (by kernel_rfl) ?_ _
    exact hK0 _ _ (Met.intro (hJ0 _ _ ⟨.int .i64 ((sl : Nat) : Int), u13, u14, u15, u16, u17, u18, u19, u20, u21, .agg #[.int .u16 pc, .int .i64 tag], .pointer (some ⟨q, 0, none⟩), .int .i64 ((N : Nat) : Int), .int .i64 ((sl : Nat) : Int), u26, u27, u28, u29, u30, u31, u32, u33, u34, u35, u36, u37, u38, u39, u40, u41, u42, u43, u44, u45, u46, u47, u48, u49, u50, u51, u52, u53, u54, u55, u56, u57, u58, u59, u60, u61, u62, ⟨rfl, s1⟩, by kernel_rfl⟩))
  case rest =>
  clear s0 HS
  obtain ⟨rfl, s0⟩ := hcut
  generalize wc = W2 at *
  go_upto_region 5 with fail
  have DQ : Hid (Calls _ _ _ W2 _) := HDR.out W2 s0.c.1 s0.c.2.size
  go_cut [10, 11] (fun a b wx => ∃ b10 B, a = .pointer (some ⟨b10, 0, none⟩) ∧ b = .bool r ∧ Ps w B #[.int .u16 pc, .int .i64 tag, .string s, .int .i64 ni, .slice oa on oc, .int .i64 lo, .int .i64 hi] #[.int .u16 pc, .int .i64 tag] (fun v => Ca base q ga kA m k' N (.slice fa n fc) A' es' cnt' v ∧ Fr (CaS q ga m (.slice fa n fc)) w v ∧ Blk v b10 #[.int .u16 k0, .int .i64 k1] 24) wx ∧ w.heap.size + 2 < B ∧ b10 < B ∧ w.heap.size + 2 < b10)
  case first =>
    go_wp2_with (go_at_call 37; go_must (refine DQ.out.mono ?_; rintro e W3 ⟨rfl, ca3, fr3⟩))
    go_meet
    have nS := CaS.old ca3 HL.out
    have hb3 : Below W3.heap.size W3 (W3.alloc (.cells #[.int .u16 k0, .int .i64 k1] 24)) := (Below.refl _ _).alloc (Nat.le_refl _) _
    have x0 := fr3.blk s0.b (nS _ (by omega))
    have x1 := fr3.blk s0.r (nS _ (by omega))
    have x2 := fr3.blk s0.k (nS _ (by omega))
    have hl2 := x2.lt
    refine ⟨W3.heap.size, (W3.alloc (.cells #[.int .u16 k0, .int .i64 k1] 24)).heap.size, rfl, rfl, ⟨x0.below x0.lt hb3, x1.below x1.lt hb3, x2.below x2.lt hb3, ⟨ca3.on hb3, ((Fr.of_below s0.c.2).trans fr3).trans (Fr.of_below hb3), Blk.new W3 _ _⟩, Nat.le_refl _⟩, ?_, ?_, hl2⟩
    · have := hb3.size; omega
    · simp
  case rest =>
  clear s0 HDR DQ
  obtain ⟨b10, B, rfl, rfl, s0, hB, hbB, hbw⟩ := hcut
  generalize wc = W3 at *
  have HL6 : Hid (q < B ∧ ga < B ∧ m < B ∧ w.heap.size + 2 < B ∧ b10 < B ∧ ∀ b, fa = some ⟨b, 0, none⟩ → b < B) := ⟨by have := HL.out.1; omega, by have := HL.out.2.1; omega, by have := HL.out.2.2.1; omega, hB, hbB, fun b e => by have := HL.out.2.2.2 b e; omega⟩
  go_upto_region 6 with fail
  replace s0 : Ps w B #[.int .u16 pc, .int .i64 tag, .string s, .int .i64 ni, .slice oa on oc, .int .i64 lo, .int .i64 hi] #[.int .u16 pc, .int .i64 tag] (fun v => Ca base q ga kA m k' N (.slice fa n fc) A' es' cnt' v ∧ Fr (CaS q ga m (.slice fa n fc)) w v ∧ Blk v b10 #[.int .u16 k0, .int .i64 k1] 24) W3.drew := s0.on (fun _ _ h c => ⟨c.1.on h, c.2.1.trans (Fr.of_below h), c.2.2.below c.2.2.lt h⟩) (Below.refl _ _).drew
  go_cut [12] (fun a wx => ∃ qh la lc, a = .pointer (some ⟨qh, 0, none⟩) ∧ Blk wx qh #[.int .u16 pc, .int .i64 tag, .string s, .int .i64 ni, .slice la on lc, .int .i64 lo, .int .i64 hi, .int .i64 (spF place), .int .i64 (spN place (s.size : Nat))] 84 ∧ B ≤ qh ∧ Ps w B #[.int .u16 pc, .int .i64 tag, .string s, .int .i64 ni, .slice oa on oc, .int .i64 lo, .int .i64 hi] #[.int .u16 pc, .int .i64 tag] (fun v => Ca base q ga kA m k' N (.slice fa n fc) A' es' cnt' v ∧ Fr (CaS q ga m (.slice fa n fc)) w v ∧ Blk v b10 #[.int .u16 k0, .int .i64 k1] 24) wx ∧ ((oa = none ∧ la = none ∧ lc = 0) ∨ ((∃ ad, oa = some ad) ∧ ∃ g, la = some ⟨g, 0, none⟩ ∧ lc = on)) ∧ (wx).ownsRow w.heap.size 54 7 (.slice la on lc) on cells)
  case first =>
    rename_i J0 K0 hJ0 hK0
    refine wp_region_held (S := Ps w B #[.int .u16 pc, .int .i64 tag, .string s, .int .i64 ni, .slice oa on oc, .int .i64 lo, .int .i64 hi] #[.int .u16 pc, .int .i64 tag] (fun v => Ca base q ga kA m k' N (.slice fa n fc) A' es' cnt' v ∧ Fr (CaS q ga m (.slice fa n fc)) w v ∧ Blk v b10 #[.int .u16 k0, .int .i64 k1] 24)) (by kernel_rfl) ?_
    refine takeH (i := 0) (v := .agg (#[.int .u16 pc, .int .i64 tag, .string s, .int .i64 ni, .slice oa on oc, .int .i64 lo, .int .i64 hi] : Array Value).toList.toArray) _ rfl (by kernel_rfl) (by kernel_rfl) (by kernel_rfl) (fun _ _ _ h => h) (.inl ⟨by kernel_rfl, fun v hv => exec_loadM (cs := (#[.int .u16 pc, .int .i64 tag, .string s, .int .i64 ni, .slice oa on oc, .int .i64 lo, .int .i64 hi] : Array Value).toList) rfl (by kernel_rfl) hv.b.range' Try.underlying34 rfl (by kernel_rfl)⟩) s0 rfl ?_
    refine takeH (i := 2) (v := .int .i64 place) _ rfl (by kernel_rfl) (by kernel_rfl) (by kernel_rfl) (fun _ _ _ h => h) (.inl ⟨by kernel_rfl, fun _ _ => by kernel_rfl⟩) s0 rfl ?_
    refine takeH (i := 3) (v := .pointer (some ⟨w.heap.size, 2, none⟩)) _ rfl (by kernel_rfl) (by kernel_rfl) (by kernel_rfl) (fun _ _ _ h => h) (.inl ⟨by kernel_rfl, fun _ _ => by kernel_rfl⟩) s0 rfl ?_
    refine takeH (i := 4) (v := .string s) _ rfl (by kernel_rfl) (by kernel_rfl) (by kernel_rfl) (fun _ _ _ h => h) (.inl ⟨by kernel_rfl, fun v hv => by have c : v.cell? ⟨w.heap.size, 2, none⟩ = some (.string s) := hv.b.cell 2; go_simp⟩) s0 rfl ?_
    refine takeH (i := 5) (v := .int .i64 ((s.size : Nat) : Int)) _ rfl (by kernel_rfl) (by kernel_rfl) (by kernel_rfl) (fun _ _ _ h => h) (.inl ⟨by kernel_rfl, fun _ _ => by kernel_rfl⟩) s0 rfl ?_
    refine pickH (i := 1) (j := 8) (by kernel_rfl) (wpOp_contractE (f := 38) rfl (by kernel_rfl) (by kernel_rfl) (copiedE pc tag s ni lo hi oa on oc cells W3.drew (HLS.out W3.drew s0.c.2.1) HON.out) ?_) ?_
    · rintro _ V11 ⟨la, lc, rfl, cp, hV11⟩
      have r11 : (V11).ownsRow w.heap.size 54 7 (.slice la on lc) on cells := orow_lower cp.2 (by have := s0.c.2.1.size; exact this)
      have s11 := s0.on (fun _ _ h c => ⟨c.1.on h, c.2.1.trans (Fr.of_below h), c.2.2.below c.2.2.lt h⟩) hV11
      refine ⟨s11, ?_⟩
      refine pickH (i := 6) (j := 8) (by kernel_rfl) (wpOp_contract (f := 39) (v := .agg #[.int .i64 (spF place), .int .i64 (spN place (s.size : Nat))]) rfl (by kernel_rfl) (by kernel_rfl) (spanFrom_any place (s.size : Nat) V11) _ rfl ?_) ?_
      · intro V12 hV12
        have r12 := orow_keep r11 hV12
        have s12 := s11.on (fun _ _ h c => ⟨c.1.on h, c.2.1.trans (Fr.of_below h), c.2.2.below c.2.2.lt h⟩) hV12
        refine ⟨s12, ?_⟩
        refine takeH (i := 7) (v := .agg #[.int .u16 pc, .int .i64 tag, .string s, .int .i64 ni, .slice la on lc, .int .i64 lo, .int .i64 hi, .int .i64 (spF place), .int .i64 (spN place (s.size : Nat))]) _ rfl (by kernel_rfl) (by kernel_rfl) (by kernel_rfl) (fun _ _ _ h => h) (.inl ⟨by kernel_rfl, fun _ _ => by kernel_rfl⟩) s12 rfl ?_
        have s13 := s12.on (fun _ _ h c => ⟨c.1.on h, c.2.1.trans (Fr.of_below h), c.2.2.below c.2.2.lt h⟩) ((Below.refl (V12).heap.size (V12)).alloc (Nat.le_refl _) (.cells #[.int .u16 0, .int .i64 0, .string ⟨#[]⟩, .int .i64 0, .slice none 0 0, .int .i64 0, .int .i64 0, .int .i64 0, .int .i64 0] 84))
        have y13 : Blk ((V12).alloc (.cells #[.int .u16 0, .int .i64 0, .string ⟨#[]⟩, .int .i64 0, .slice none 0 0, .int .i64 0, .int .i64 0, .int .i64 0, .int .i64 0] 84)) (V12).heap.size #[.int .u16 0, .int .i64 0, .string ⟨#[]⟩, .int .i64 0, .slice none 0 0, .int .i64 0, .int .i64 0, .int .i64 0, .int .i64 0] 84 := Blk.new (V12) _ _
        have g13 : B ≤ (V12).heap.size := s12.sz
        obtain ⟨qh13, hq13⟩ : ∃ qh, qh = (V12).heap.size := ⟨_, rfl⟩
        have r13 : ((V12).alloc (.cells #[.int .u16 0, .int .i64 0, .string ⟨#[]⟩, .int .i64 0, .slice none 0 0, .int .i64 0, .int .i64 0, .int .i64 0, .int .i64 0] 84)).ownsRow w.heap.size 54 7 (.slice la on lc) on cells := orow_keep r12 ((Below.refl _ _).alloc (Nat.le_refl _) _)
        obtain ⟨V13, hv13⟩ : ∃ V', V' = (V12).alloc (.cells #[.int .u16 0, .int .i64 0, .string ⟨#[]⟩, .int .i64 0, .slice none 0 0, .int .i64 0, .int .i64 0, .int .i64 0, .int .i64 0] 84) := ⟨_, rfl⟩
        rw [← hv13] at s13 y13 r13
        rw [← hq13] at y13 g13
        refine worldH (i := 8) (v := .pointer (some ⟨qh13, 0, none⟩)) (w1 := V13) _ (by kernel_rfl) rfl (by kernel_rfl) (by subst hq13; subst hv13; kernel_rfl) rfl ⟨s13, ?_⟩
        refine storeH (i := 9) _ (by kernel_rfl) rfl (by kernel_rfl) 84 (.tmp 12) (.tmp 39) rfl qh13 0 (.agg #[.int .u16 pc, .int .i64 tag, .string s, .int .i64 ni, .slice la on lc, .int .i64 lo, .int .i64 hi, .int .i64 (spF place), .int .i64 (spN place (s.size : Nat))]) #[.int .u16 pc, .int .i64 tag, .string s, .int .i64 ni, .slice la on lc, .int .i64 lo, .int .i64 hi, .int .i64 (spF place), .int .i64 (spN place (s.size : Nat))] (by kernel_rfl) (by kernel_rfl) rfl (y13.there' 9 rfl) (by kernel_rfl) (by kernel_rfl) rfl ?_
        intro V14 e14
        have s14 : Ps w B #[.int .u16 pc, .int .i64 tag, .string s, .int .i64 ni, .slice oa on oc, .int .i64 lo, .int .i64 hi] #[.int .u16 pc, .int .i64 tag] (fun v => Ca base q ga kA m k' N (.slice fa n fc) A' es' cnt' v ∧ Fr (CaS q ga m (.slice fa n fc)) w v ∧ Blk v b10 #[.int .u16 k0, .int .i64 k1] 24) V14 := by
          have hg := g13
          have hl := HL6.out
          rw [e14]
          refine s13.over (by omega) _ ⟨?_, s13.c.2.1.setCells (b := qh13) (.inr (by omega)) 0 _, s13.c.2.2.otherCells (by omega) _ _⟩
          exact Ca.fr (S := fun b => b = qh13) s13.c.1 ((Fr.refl (fun b => b = qh13) _).setCells (b := qh13) (.inl rfl) 0 _) (fun e => by have : q = qh13 := e; omega) (fun e => by have : ga = qh13 := e; omega) (fun e => by have : m = qh13 := e; omega) (fun b eb e => by have := hl.2.2.2.2.2 b eb; have : b = qh13 := e; omega)
        have y14 : Blk V14 qh13 #[.int .u16 pc, .int .i64 tag, .string s, .int .i64 ni, .slice la on lc, .int .i64 lo, .int .i64 hi, .int .i64 (spF place), .int .i64 (spN place (s.size : Nat))] 84 := by rw [e14]; exact y13.setAll rfl
        have r14 : (V14).ownsRow w.heap.size 54 7 (.slice la on lc) on cells := by rw [e14]; exact orow_types r13 y13 (by decide) 0 _
        refine ⟨s14, ?_⟩
        refine wpAnyH_done (by kernel_rfl) ?_ _
        exact hK0 _ _ (Met.intro (hJ0 _ _ ⟨.pointer (some ⟨qh13, 0, none⟩), u13, u14, u15, u16, u17, u18, u19, u20, u21, u22, u23, u24, u25, u26, u27, u28, u29, u30, u31, .agg #[.int .u16 pc, .int .i64 tag, .string s, .int .i64 ni, .slice oa on oc, .int .i64 lo, .int .i64 hi], .agg #[.int .u16 pc, .int .i64 tag, .string s, .int .i64 ni, .slice la on lc, .int .i64 lo, .int .i64 hi], .int .i64 place, .pointer (some ⟨w.heap.size, 2, none⟩), .string s, .int .i64 ((s.size : Nat) : Int), .agg #[.int .i64 (spF place), .int .i64 (spN place (s.size : Nat))], .agg #[.int .u16 pc, .int .i64 tag, .string s, .int .i64 ni, .slice la on lc, .int .i64 lo, .int .i64 hi, .int .i64 (spF place), .int .i64 (spN place (s.size : Nat))], u40, u41, u42, u43, u44, u45, u46, u47, u48, u49, u50, u51, u52, u53, u54, u55, u56, u57, u58, u59, u60, u61, u62, ⟨qh13, la, lc, rfl, y14, g13, s14, cp.1, r14⟩, by kernel_rfl⟩))
      · have s15 := s11.on (fun _ _ h c => ⟨c.1.on h, c.2.1.trans (Fr.of_below h), c.2.2.below c.2.2.lt h⟩) ((Below.refl (V11).heap.size (V11)).alloc (Nat.le_refl _) (.cells #[.int .u16 0, .int .i64 0, .string ⟨#[]⟩, .int .i64 0, .slice none 0 0, .int .i64 0, .int .i64 0, .int .i64 0, .int .i64 0] 84))
        have y15 : Blk ((V11).alloc (.cells #[.int .u16 0, .int .i64 0, .string ⟨#[]⟩, .int .i64 0, .slice none 0 0, .int .i64 0, .int .i64 0, .int .i64 0, .int .i64 0] 84)) (V11).heap.size #[.int .u16 0, .int .i64 0, .string ⟨#[]⟩, .int .i64 0, .slice none 0 0, .int .i64 0, .int .i64 0, .int .i64 0, .int .i64 0] 84 := Blk.new (V11) _ _
        have g15 : B ≤ (V11).heap.size := s11.sz
        obtain ⟨qh15, hq15⟩ : ∃ qh, qh = (V11).heap.size := ⟨_, rfl⟩
        have r15 : ((V11).alloc (.cells #[.int .u16 0, .int .i64 0, .string ⟨#[]⟩, .int .i64 0, .slice none 0 0, .int .i64 0, .int .i64 0, .int .i64 0, .int .i64 0] 84)).ownsRow w.heap.size 54 7 (.slice la on lc) on cells := orow_keep r11 ((Below.refl _ _).alloc (Nat.le_refl _) _)
        obtain ⟨V15, hv15⟩ : ∃ V', V' = (V11).alloc (.cells #[.int .u16 0, .int .i64 0, .string ⟨#[]⟩, .int .i64 0, .slice none 0 0, .int .i64 0, .int .i64 0, .int .i64 0, .int .i64 0] 84) := ⟨_, rfl⟩
        rw [← hv15] at s15 y15 r15
        rw [← hq15] at y15 g15
        refine worldO (v := .pointer (some ⟨qh15, 0, none⟩)) (w1 := V15) rfl (by kernel_rfl) (by subst hq15; subst hv15; kernel_rfl) _ rfl ⟨s15, ?_⟩
        refine callH (i := 6) (f := 39) (v := .agg #[.int .i64 (spF place), .int .i64 (spN place (s.size : Nat))]) _ (by kernel_rfl) rfl (by kernel_rfl) (by kernel_rfl) (spanFrom_any place (s.size : Nat) V15) rfl ?_
        intro V16 hV16
        have r16 := orow_keep r15 hV16
        have s16 := s15.on (fun _ _ h c => ⟨c.1.on h, c.2.1.trans (Fr.of_below h), c.2.2.below c.2.2.lt h⟩) hV16
        have y16 := y15.below y15.lt hV16
        refine ⟨s16, ?_⟩
        refine takeH (i := 7) (v := .agg #[.int .u16 pc, .int .i64 tag, .string s, .int .i64 ni, .slice la on lc, .int .i64 lo, .int .i64 hi, .int .i64 (spF place), .int .i64 (spN place (s.size : Nat))]) _ rfl (by kernel_rfl) (by kernel_rfl) (by kernel_rfl) (fun _ _ _ h => h) (.inl ⟨by kernel_rfl, fun _ _ => by kernel_rfl⟩) s16 rfl ?_
        refine storeH (i := 9) _ (by kernel_rfl) rfl (by kernel_rfl) 84 (.tmp 12) (.tmp 39) rfl qh15 0 (.agg #[.int .u16 pc, .int .i64 tag, .string s, .int .i64 ni, .slice la on lc, .int .i64 lo, .int .i64 hi, .int .i64 (spF place), .int .i64 (spN place (s.size : Nat))]) #[.int .u16 pc, .int .i64 tag, .string s, .int .i64 ni, .slice la on lc, .int .i64 lo, .int .i64 hi, .int .i64 (spF place), .int .i64 (spN place (s.size : Nat))] (by kernel_rfl) (by kernel_rfl) rfl (y16.there' 9 rfl) (by kernel_rfl) (by kernel_rfl) rfl ?_
        intro V17 e17
        have s17 : Ps w B #[.int .u16 pc, .int .i64 tag, .string s, .int .i64 ni, .slice oa on oc, .int .i64 lo, .int .i64 hi] #[.int .u16 pc, .int .i64 tag] (fun v => Ca base q ga kA m k' N (.slice fa n fc) A' es' cnt' v ∧ Fr (CaS q ga m (.slice fa n fc)) w v ∧ Blk v b10 #[.int .u16 k0, .int .i64 k1] 24) V17 := by
          have hg := g15
          have hl := HL6.out
          rw [e17]
          refine s16.over (by omega) _ ⟨?_, s16.c.2.1.setCells (b := qh15) (.inr (by omega)) 0 _, s16.c.2.2.otherCells (by omega) _ _⟩
          exact Ca.fr (S := fun b => b = qh15) s16.c.1 ((Fr.refl (fun b => b = qh15) _).setCells (b := qh15) (.inl rfl) 0 _) (fun e => by have : q = qh15 := e; omega) (fun e => by have : ga = qh15 := e; omega) (fun e => by have : m = qh15 := e; omega) (fun b eb e => by have := hl.2.2.2.2.2 b eb; have : b = qh15 := e; omega)
        have y17 : Blk V17 qh15 #[.int .u16 pc, .int .i64 tag, .string s, .int .i64 ni, .slice la on lc, .int .i64 lo, .int .i64 hi, .int .i64 (spF place), .int .i64 (spN place (s.size : Nat))] 84 := by rw [e17]; exact y16.setAll rfl
        have r17 : (V17).ownsRow w.heap.size 54 7 (.slice la on lc) on cells := by rw [e17]; exact orow_types r16 y16 (by decide) 0 _
        refine ⟨s17, ?_⟩
        refine wpAnyH_done (by kernel_rfl) ?_ _
        exact hK0 _ _ (Met.intro (hJ0 _ _ ⟨.pointer (some ⟨qh15, 0, none⟩), u13, u14, u15, u16, u17, u18, u19, u20, u21, u22, u23, u24, u25, u26, u27, u28, u29, u30, u31, .agg #[.int .u16 pc, .int .i64 tag, .string s, .int .i64 ni, .slice oa on oc, .int .i64 lo, .int .i64 hi], .agg #[.int .u16 pc, .int .i64 tag, .string s, .int .i64 ni, .slice la on lc, .int .i64 lo, .int .i64 hi], .int .i64 place, .pointer (some ⟨w.heap.size, 2, none⟩), .string s, .int .i64 ((s.size : Nat) : Int), .agg #[.int .i64 (spF place), .int .i64 (spN place (s.size : Nat))], .agg #[.int .u16 pc, .int .i64 tag, .string s, .int .i64 ni, .slice la on lc, .int .i64 lo, .int .i64 hi, .int .i64 (spF place), .int .i64 (spN place (s.size : Nat))], u40, u41, u42, u43, u44, u45, u46, u47, u48, u49, u50, u51, u52, u53, u54, u55, u56, u57, u58, u59, u60, u61, u62, ⟨qh15, la, lc, rfl, y17, g15, s17, cp.1, r17⟩, by kernel_rfl⟩))
    · have s18 := s0.on (fun _ _ h c => ⟨c.1.on h, c.2.1.trans (Fr.of_below h), c.2.2.below c.2.2.lt h⟩) ((Below.refl (W3.drew).heap.size (W3.drew)).alloc (Nat.le_refl _) (.cells #[.int .u16 0, .int .i64 0, .string ⟨#[]⟩, .int .i64 0, .slice none 0 0, .int .i64 0, .int .i64 0, .int .i64 0, .int .i64 0] 84))
      have y18 : Blk ((W3.drew).alloc (.cells #[.int .u16 0, .int .i64 0, .string ⟨#[]⟩, .int .i64 0, .slice none 0 0, .int .i64 0, .int .i64 0, .int .i64 0, .int .i64 0] 84)) (W3.drew).heap.size #[.int .u16 0, .int .i64 0, .string ⟨#[]⟩, .int .i64 0, .slice none 0 0, .int .i64 0, .int .i64 0, .int .i64 0, .int .i64 0] 84 := Blk.new (W3.drew) _ _
      have g18 : B ≤ (W3.drew).heap.size := s0.sz
      obtain ⟨qh18, hq18⟩ : ∃ qh, qh = (W3.drew).heap.size := ⟨_, rfl⟩
      obtain ⟨V18, hv18⟩ : ∃ V', V' = (W3.drew).alloc (.cells #[.int .u16 0, .int .i64 0, .string ⟨#[]⟩, .int .i64 0, .slice none 0 0, .int .i64 0, .int .i64 0, .int .i64 0, .int .i64 0] 84) := ⟨_, rfl⟩
      rw [← hv18] at s18 y18
      rw [← hq18] at y18 g18
      refine worldO (v := .pointer (some ⟨qh18, 0, none⟩)) (w1 := V18) rfl (by kernel_rfl) (by subst hq18; subst hv18; kernel_rfl) _ rfl ⟨s18, ?_⟩
      refine callHE (i := 1) (f := 38) (by kernel_rfl) rfl (by kernel_rfl) (by kernel_rfl) (copiedE pc tag s ni lo hi oa on oc cells V18 (HLS.out V18 s18.c.2.1) HON.out) ?_
      rintro _ V19 ⟨la, lc, rfl, cp, hV19⟩
      have r19 : (V19).ownsRow w.heap.size 54 7 (.slice la on lc) on cells := orow_lower cp.2 (by have := s18.c.2.1.size; exact this)
      have s19 := s18.on (fun _ _ h c => ⟨c.1.on h, c.2.1.trans (Fr.of_below h), c.2.2.below c.2.2.lt h⟩) hV19
      have y19 := y18.below y18.lt hV19
      refine ⟨s19, ?_⟩
      refine callH (i := 6) (f := 39) (v := .agg #[.int .i64 (spF place), .int .i64 (spN place (s.size : Nat))]) _ (by kernel_rfl) rfl (by kernel_rfl) (by kernel_rfl) (spanFrom_any place (s.size : Nat) V19) rfl ?_
      intro V20 hV20
      have r20 := orow_keep r19 hV20
      have s20 := s19.on (fun _ _ h c => ⟨c.1.on h, c.2.1.trans (Fr.of_below h), c.2.2.below c.2.2.lt h⟩) hV20
      have y20 := y19.below y19.lt hV20
      refine ⟨s20, ?_⟩
      refine takeH (i := 7) (v := .agg #[.int .u16 pc, .int .i64 tag, .string s, .int .i64 ni, .slice la on lc, .int .i64 lo, .int .i64 hi, .int .i64 (spF place), .int .i64 (spN place (s.size : Nat))]) _ rfl (by kernel_rfl) (by kernel_rfl) (by kernel_rfl) (fun _ _ _ h => h) (.inl ⟨by kernel_rfl, fun _ _ => by kernel_rfl⟩) s20 rfl ?_
      refine storeH (i := 9) _ (by kernel_rfl) rfl (by kernel_rfl) 84 (.tmp 12) (.tmp 39) rfl qh18 0 (.agg #[.int .u16 pc, .int .i64 tag, .string s, .int .i64 ni, .slice la on lc, .int .i64 lo, .int .i64 hi, .int .i64 (spF place), .int .i64 (spN place (s.size : Nat))]) #[.int .u16 pc, .int .i64 tag, .string s, .int .i64 ni, .slice la on lc, .int .i64 lo, .int .i64 hi, .int .i64 (spF place), .int .i64 (spN place (s.size : Nat))] (by kernel_rfl) (by kernel_rfl) rfl (y20.there' 9 rfl) (by kernel_rfl) (by kernel_rfl) rfl ?_
      intro V21 e21
      have s21 : Ps w B #[.int .u16 pc, .int .i64 tag, .string s, .int .i64 ni, .slice oa on oc, .int .i64 lo, .int .i64 hi] #[.int .u16 pc, .int .i64 tag] (fun v => Ca base q ga kA m k' N (.slice fa n fc) A' es' cnt' v ∧ Fr (CaS q ga m (.slice fa n fc)) w v ∧ Blk v b10 #[.int .u16 k0, .int .i64 k1] 24) V21 := by
        have hg := g18
        have hl := HL6.out
        rw [e21]
        refine s20.over (by omega) _ ⟨?_, s20.c.2.1.setCells (b := qh18) (.inr (by omega)) 0 _, s20.c.2.2.otherCells (by omega) _ _⟩
        exact Ca.fr (S := fun b => b = qh18) s20.c.1 ((Fr.refl (fun b => b = qh18) _).setCells (b := qh18) (.inl rfl) 0 _) (fun e => by have : q = qh18 := e; omega) (fun e => by have : ga = qh18 := e; omega) (fun e => by have : m = qh18 := e; omega) (fun b eb e => by have := hl.2.2.2.2.2 b eb; have : b = qh18 := e; omega)
      have y21 : Blk V21 qh18 #[.int .u16 pc, .int .i64 tag, .string s, .int .i64 ni, .slice la on lc, .int .i64 lo, .int .i64 hi, .int .i64 (spF place), .int .i64 (spN place (s.size : Nat))] 84 := by rw [e21]; exact y20.setAll rfl
      have r21 : (V21).ownsRow w.heap.size 54 7 (.slice la on lc) on cells := by rw [e21]; exact orow_types r20 y20 (by decide) 0 _
      refine ⟨s21, ?_⟩
      refine wpAnyH_done (by kernel_rfl) ?_ _
      exact hK0 _ _ (Met.intro (hJ0 _ _ ⟨.pointer (some ⟨qh18, 0, none⟩), u13, u14, u15, u16, u17, u18, u19, u20, u21, u22, u23, u24, u25, u26, u27, u28, u29, u30, u31, .agg #[.int .u16 pc, .int .i64 tag, .string s, .int .i64 ni, .slice oa on oc, .int .i64 lo, .int .i64 hi], .agg #[.int .u16 pc, .int .i64 tag, .string s, .int .i64 ni, .slice la on lc, .int .i64 lo, .int .i64 hi], .int .i64 place, .pointer (some ⟨w.heap.size, 2, none⟩), .string s, .int .i64 ((s.size : Nat) : Int), .agg #[.int .i64 (spF place), .int .i64 (spN place (s.size : Nat))], .agg #[.int .u16 pc, .int .i64 tag, .string s, .int .i64 ni, .slice la on lc, .int .i64 lo, .int .i64 hi, .int .i64 (spF place), .int .i64 (spN place (s.size : Nat))], u40, u41, u42, u43, u44, u45, u46, u47, u48, u49, u50, u51, u52, u53, u54, u55, u56, u57, u58, u59, u60, u61, u62, ⟨qh18, la, lc, rfl, y21, g18, s21, cp.1, r21⟩, by kernel_rfl⟩))
  case rest =>
  clear s0 HLS HON
  obtain ⟨qh, la, lc, rfl, yh, hqh, s0, hform, hrow4⟩ := hcut
  have HFO : Hid ((oa = none ∧ la = none ∧ lc = 0) ∨ ((∃ ad, oa = some ad) ∧ ∃ g, la = some ⟨g, 0, none⟩ ∧ lc = on)) := hform
  clear hform
  generalize wc = W4 at *
  have nS := CaS.old s0.c.1 HL.out
  have ca4 : Ca base q ga kA m k' N (.slice fa n fc) A' es' cnt' W4.drew := s0.c.1.on (Below.refl _ _).drew
  have PU : Hid (Calls _ _ _ W4.drew _) := put_any base q ga kA m k' N n fc fa A' es' cnt' (⟨sl, pc, tag, s, ni, la, on, lc, lo, hi, spF place, spN place (s.size : Nat)⟩ : En) W4.drew ca4 HA.out.1 HA.out.2.1 HA.out.2.2.1 (by have := HA.out.2.2.2; have := s0.sz; show base ≤ W4.heap.size; omega)
  have HN : Hid (¬ CaS q ga m (.slice fa n fc) (w.heap.size + 1) ∧ ¬ CaS q ga m (.slice fa n fc) (w.heap.size + 2) ∧ ¬ CaS q ga m (.slice fa n fc) b10 ∧ ¬ CaS q ga m (.slice fa n fc) qh) := ⟨nS _ (by omega), nS _ (by omega), nS _ (by omega), nS _ (by omega)⟩
  have HP : Hid (Ps w B #[.int .u16 pc, .int .i64 tag, .string s, .int .i64 ni, .slice oa on oc, .int .i64 lo, .int .i64 hi] #[.int .u16 pc, .int .i64 tag] (fun v => Ca base q ga kA m k' N (.slice fa n fc) A' es' cnt' v ∧ Fr (CaS q ga m (.slice fa n fc)) w v ∧ Blk v b10 #[.int .u16 k0, .int .i64 k1] 24) W4 ∧ Blk W4 qh #[.int .u16 pc, .int .i64 tag, .string s, .int .i64 ni, .slice la on lc, .int .i64 lo, .int .i64 hi, .int .i64 (spF place), .int .i64 (spN place (s.size : Nat))] 84) := ⟨s0, yh⟩
  have HRO : Hid ((W4).ownsRow w.heap.size 54 7 (.slice la on lc) on cells) := hrow4
  clear hrow4
  have e0 : W4.cell? ⟨w.heap.size + 2, 0, none⟩ = some (.int .u16 pc) := s0.k.cell 0
  have e1 : W4.cell? ⟨w.heap.size + 2, 1, none⟩ = some (.int .i64 tag) := s0.k.cell 1
  have h0 : W4.cell? ⟨qh, 0, none⟩ = some (.int .u16 pc) := yh.cell 0
  have h1 : W4.cell? ⟨qh, 1, none⟩ = some (.int .i64 tag) := yh.cell 1
  have h2 : W4.cell? ⟨qh, 2, none⟩ = some (.string s) := yh.cell 2
  have h3 : W4.cell? ⟨qh, 3, none⟩ = some (.int .i64 ni) := yh.cell 3
  have h4 : W4.cell? ⟨qh, 4, none⟩ = some (.slice la on lc) := yh.cell 4
  have h5 : W4.cell? ⟨qh, 5, none⟩ = some (.int .i64 lo) := yh.cell 5
  have h6 : W4.cell? ⟨qh, 6, none⟩ = some (.int .i64 hi) := yh.cell 6
  have h7 : W4.cell? ⟨qh, 7, none⟩ = some (.int .i64 (spF place)) := yh.cell 7
  have h8 : W4.cell? ⟨qh, 8, none⟩ = some (.int .i64 (spN place (s.size : Nat))) := yh.cell 8
  clear s0 yh nS ca4
  go_upto_region 7 with fail
  go_cut [] (fun wx => ∃ (fa' : Option Addr) (fc' : Nat), Ca base q ga kA m k' N (.slice fa' (n + 1) fc') (A'.set sl (n + 1)) (es' ++ [(⟨sl, pc, tag, s, ni, la, on, lc, lo, hi, spF place, spN place (s.size : Nat)⟩ : En)]) cnt' wx ∧ ((Value.slice fa' (n + 1) fc').ownBlock = (Value.slice fa n fc).ownBlock ∨ ∃ b, w.heap.size ≤ b ∧ (Value.slice fa' (n + 1) fc').ownBlock = some b) ∧ Fr (CaS q ga m (.slice fa n fc)) w wx ∧ Blk wx (w.heap.size + 1) #[.int .u16 0, .int .i64 0] 24 ∧ Blk wx (w.heap.size + 2) #[.int .u16 pc, .int .i64 tag] 24 ∧ Blk wx b10 #[.int .u16 k0, .int .i64 k1] 24 ∧ Blk wx qh #[.int .u16 pc, .int .i64 tag, .string s, .int .i64 ni, .slice la on lc, .int .i64 lo, .int .i64 hi, .int .i64 (spF place), .int .i64 (spN place (s.size : Nat))] 84 ∧ (wx).ownsRow w.heap.size 54 7 (.slice la on lc) on cells)
  case first =>
    go_still_tail 6, (by kernel_rfl)
    go_wp2_with (go_at_call 40; go_must (refine PU.out.mono ?_; rintro e W5 ⟨rfl, ⟨fa', fc', ca5, hw5⟩, fr5⟩))
    go_meet
    have d : Fr (CaS q ga m (.slice fa n fc)) w W4.drew := HP.out.1.c.2.1.trans (Fr.of_below (Below.refl _ _).drew)
    refine ⟨fa', fc', ca5, hw5.imp id (fun ⟨b, h1, h2⟩ => ⟨b, by have := HP.out.1.sz; have : W4.heap.size ≤ b := h1; omega, h2⟩), d.trans fr5, fr5.blk HP.out.1.r.drew HN.out.1, fr5.blk HP.out.1.k.drew HN.out.2.1, fr5.blk HP.out.1.c.2.2.drew HN.out.2.2.1, fr5.blk HP.out.2.drew HN.out.2.2.2, Ca.orow (HP.out.1.c.1.on (Below.refl _ _).drew) fr5 (orow_keep HRO.out (Below.refl _ _).drew)⟩
  case rest =>
  clear e0 e1 h0 h1 h2 h3 h4 h5 h6 h7 h8 PU HN HP HRO
  obtain ⟨fa', fc', ca, hw5, fr, zr, zk, zo, zh, hrow5⟩ := hcut
  have HRO : Hid ((wc).ownsRow w.heap.size 54 7 (.slice la on lc) on cells) := hrow5
  clear hrow5
  generalize wc = W5 at *
  have c2 : W5.cell? ⟨q, 2, none⟩ = some (.map (some m)) := ca.b.cell 2
  have d7 : W5.cell? ⟨qh, 7, none⟩ = some (.int .i64 (spF place)) := zh.cell 7
  have d8 : W5.cell? ⟨qh, 8, none⟩ = some (.int .i64 (spN place (s.size : Nat))) := zh.cell 8
  have AD : Hid (Calls _ _ _ W5.drew _) := add_any (spF place) (spN place (s.size : Nat)) m k' cnt' W5.drew HB.out.1.1 HB.out.1.2.1 HB.out.1.2.2.1 HB.out.1.2.2.2 HB.out.2.1 HB.out.2.2 (ca.mr.on (Below.refl _ _).drew)
  have HC : Hid (Ca base q ga kA m k' N (.slice fa' (n + 1) fc') (A'.set sl (n + 1)) (es' ++ [(⟨sl, pc, tag, s, ni, la, on, lc, lo, hi, spF place, spN place (s.size : Nat)⟩ : En)]) cnt' W5 ∧ Fr (CaS q ga m (.slice fa n fc)) w W5 ∧ Blk W5 (w.heap.size + 1) #[.int .u16 0, .int .i64 0] 24 ∧ Blk W5 (w.heap.size + 2) #[.int .u16 pc, .int .i64 tag] 24 ∧ Blk W5 b10 #[.int .u16 k0, .int .i64 k1] 24) := ⟨ca, fr, zr, zk, zo⟩
  have HW5 : Hid ((Value.slice fa' (n + 1) fc').ownBlock = (Value.slice fa n fc).ownBlock ∨ ∃ b, w.heap.size ≤ b ∧ (Value.slice fa' (n + 1) fc').ownBlock = some b) := hw5
  clear ca fr zr zk zo zh hw5
  go_upto_region 8 with fail
  go_cut [] (fun wx => (∃ k'' : Nat, (k'' : Int) = k' + (pg1 (spF place) (spN place (s.size : Nat)) - pg0 (spF place) (spN place (s.size : Nat))) ∧ Ca base q ga kA m k'' N (.slice fa' (n + 1) fc') (A'.set sl (n + 1)) (es' ++ [(⟨sl, pc, tag, s, ni, la, on, lc, lo, hi, spF place, spN place (s.size : Nat)⟩ : En)]) (addP cnt' (pg0 (spF place) (spN place (s.size : Nat))) (pg1 (spF place) (spN place (s.size : Nat))) 1) wx) ∧ Fr (CaS q ga m (.slice fa n fc)) w wx ∧ Blk wx (w.heap.size + 1) #[.int .u16 0, .int .i64 0] 24 ∧ Blk wx (w.heap.size + 2) #[.int .u16 pc, .int .i64 tag] 24 ∧ Blk wx b10 #[.int .u16 k0, .int .i64 k1] 24 ∧ (wx).ownsRow w.heap.size 54 7 (.slice la on lc) on cells)
  case first =>
    go_still_tail 6, (by kernel_rfl)
    go_wp2_with (go_at_call 41; go_must (refine AD.out.mono ?_; rintro e W6 ⟨rfl, ⟨k2, hk2, mk⟩, hg⟩))
    go_meet
    have g : Fr (fun b => b = m) W5.drew W6 := Fr.grown hg rfl
    obtain ⟨ca, fr, zr, zk, zo⟩ := HC.out
    have ca1 : Ca base q ga kA m k' N (.slice fa' (n + 1) fc') (A'.set sl (n + 1)) (es' ++ [(⟨sl, pc, tag, s, ni, la, on, lc, lo, hi, spF place, spN place (s.size : Nat)⟩ : En)]) cnt' W5.drew := ca.on (Below.refl _ _).drew
    have n1 := ca.mr.apart ca.b
    have n2 := ca.mr.row ca.a
    have n3 := ca.mr.apart zr
    have n4 := ca.mr.apart zk
    have n5 := ca.mr.apart zo
    have HG : ∀ b, fa' = some ⟨b, 0, none⟩ → b ≠ m := fun b e => by
      subst e
      have hf := ca.f
      obtain ⟨a9, c9, e9, _⟩ := orow_form hf
      injection e9 with q1 q2 q3
      rw [q2] at hf
      exact fun eb => ca.mr.row hf eb.symm
    refine ⟨⟨k2, hk2, ⟨g.blk ca1.b (fun e => n1 e.symm), g.orow ca1.a (fun x c e => by cases e; exact fun e => n2 e.symm), g.orow ca1.f (fun x c e => by injection e with q1 q2 q3; exact HG x q1), mk, ca1.v, ca1.hq, ca1.hm⟩⟩, (fr.trans (Fr.of_below (Below.refl _ _).drew)).andThen g (fun b h => .inl (.inr (.inr (.inl h)))), g.blk zr.drew (fun e => n3 e.symm), g.blk zk.drew (fun e => n4 e.symm), g.blk zo.drew (fun e => n5 e.symm), g.orow (orow_keep HRO.out (Below.refl _ _).drew) (fun x c e => by
      have hro := HRO.out
      rw [e] at hro
      exact fun eb => ca.mr.row hro eb.symm)⟩
  case rest =>
  clear c2 d7 d8 AD HC
  obtain ⟨hca, fr, zr, zk, zo, hrow6⟩ := hcut
  generalize wc = W6 at *
  have HF : Hid ((∃ k'' : Nat, (k'' : Int) = k' + (pg1 (spF place) (spN place (s.size : Nat)) - pg0 (spF place) (spN place (s.size : Nat))) ∧ Ca base q ga kA m k'' N (.slice fa' (n + 1) fc') (A'.set sl (n + 1)) (es' ++ [(⟨sl, pc, tag, s, ni, la, on, lc, lo, hi, spF place, spN place (s.size : Nat)⟩ : En)]) (addP cnt' (pg0 (spF place) (spN place (s.size : Nat))) (pg1 (spF place) (spN place (s.size : Nat))) 1) W6) ∧ Fr (CaS q ga m (.slice fa n fc)) w W6) := ⟨hca, fr⟩
  have HZ : Hid (Blk W6 (w.heap.size + 1) #[.int .u16 0, .int .i64 0] 24) := zr
  have HR6 : Hid ((W6).ownsRow w.heap.size 54 7 (.slice la on lc) on cells) := hrow6
  clear hca fr zr hrow6 HRO
  go_upto_region 9 with fail
  have o0 : W6.cell? ⟨b10, 0, none⟩ = some (.int .u16 k0) := zo.cell 0
  have o1 : W6.cell? ⟨b10, 1, none⟩ = some (.int .i64 k1) := zo.cell 1
  have e0 : W6.cell? ⟨w.heap.size + 2, 0, none⟩ = some (.int .u16 pc) := zk.cell 0
  have e1 : W6.cell? ⟨w.heap.size + 2, 1, none⟩ = some (.int .i64 tag) := zk.cell 1
  have EK := fun W => eqlKey W k0 k1 pc tag
  have FIN : ∀ vs, (∃ (fa' : Option Addr) (fc' k'' : Nat) (la : Option Addr) (lc : Nat), (k'' : Int) = k' + (pg1 (spF place) (spN place (s.size : Nat)) - pg0 (spF place) (spN place (s.size : Nat))) ∧ Ca base q ga kA m k'' N (.slice fa' (n + 1) fc') (A'.set sl (n + 1)) (es' ++ [(⟨sl, pc, tag, s, ni, la, on, lc, lo, hi, spF place, spN place (s.size : Nat)⟩ : En)]) (addP cnt' (pg0 (spF place) (spN place (s.size : Nat))) (pg1 (spF place) (spN place (s.size : Nat))) 1) (W6.setCells (w.heap.size + 1) 0 vs) ∧ ((Value.slice fa' (n + 1) fc').ownBlock = (Value.slice fa n fc).ownBlock ∨ ∃ b, w.heap.size ≤ b ∧ (Value.slice fa' (n + 1) fc').ownBlock = some b) ∧ ((oa = none ∧ la = none ∧ lc = 0) ∨ ((∃ ad, oa = some ad) ∧ ∃ g, la = some ⟨g, 0, none⟩ ∧ lc = on)) ∧ (W6.setCells (w.heap.size + 1) 0 vs).ownsRow w.heap.size 54 7 (.slice la on lc) on cells) ∧ Fr (CaS q ga m (.slice fa n fc)) w (W6.setCells (w.heap.size + 1) 0 vs) := fun vs => by
    obtain ⟨⟨k2, hk2, ca⟩, fr⟩ := HF.out
    have g : Fr (fun b => b = w.heap.size + 1) W6 (W6.setCells (w.heap.size + 1) 0 vs) := (Fr.refl (fun b => b = w.heap.size + 1) W6).setCells (b := w.heap.size + 1) (.inl rfl) 0 _
    refine ⟨⟨fa', fc', k2, la, lc, hk2, ca.fr g (fun e => by have : q = w.heap.size + 1 := e; have := HL.out.1; omega) (fun e => by have : ga = w.heap.size + 1 := e; have := HL.out.2.1; omega) (fun e => by have : m = w.heap.size + 1 := e; have := HL.out.2.2.1; omega) (fun b e eb => ?_), HW5.out, HFO.out, orow_types HR6.out HZ.out (by decide) 0 vs⟩, fr.andThen g (fun b h => .inr (by have : b = w.heap.size + 1 := h; omega))⟩
    subst e
    have hf := ca.f
    obtain ⟨a9, c9, e9, _⟩ := orow_form hf
    injection e9 with q1 q2 q3
    rw [q2] at hf
    exact orow_blk hf HZ.out (by decide) eb
  clear HF HW5 HL HL6 HA HB
  rcases HR.out with ⟨rfl, rfl, rfl⟩ | ⟨rfl, rfl, rfl, hne⟩ | ⟨rfl, rfl, rfl, hne⟩
  · clear HR
    go_upto_region 10 with fail
    go_wp2_with (refine wpList_store_mid rfl 24 _ _ rfl (w.heap.size + 1) 0 #[.int .u16 0, .int .i64 0] rfl rfl (HZ.out.there' 2 rfl) (by kernel_rfl) (by kernel_rfl) ?_)
    have z5 : Blk (W6.setCells (w.heap.size + 1) 0 (#[.int .u16 0, .int .i64 0] : Array Value).toList) (w.heap.size + 1) #[.int .u16 0, .int .i64 0] 24 := HZ.out.setAll rfl
    refine ret_agg2 (m := w.heap.size + 1) (L := #[.int .u16 0, .int .i64 0]) (x := .bool false) Try.results12 (by kernel_rfl) (by kernel_rfl) (by kernel_rfl) z5 Try.underlying24 rfl (by kernel_rfl) ?_
    exact ⟨rfl, FIN _⟩
  · rw [hne] at EK
    clear HR
    go_upto_region 10 with fail
    go_wp2_with (refine wpList_store_mid rfl 24 _ _ rfl (w.heap.size + 1) 0 #[.int .u16 0, .int .i64 0] rfl rfl (HZ.out.there' 2 rfl) (by kernel_rfl) (by kernel_rfl) ?_)
    have z5 : Blk (W6.setCells (w.heap.size + 1) 0 (#[.int .u16 0, .int .i64 0] : Array Value).toList) (w.heap.size + 1) #[.int .u16 0, .int .i64 0] 24 := HZ.out.setAll rfl
    refine ret_agg2 (m := w.heap.size + 1) (L := #[.int .u16 0, .int .i64 0]) (x := .bool false) Try.results12 (by kernel_rfl) (by kernel_rfl) (by kernel_rfl) z5 Try.underlying24 rfl (by kernel_rfl) ?_
    exact ⟨rfl, FIN _⟩
  · rw [hne] at EK
    clear HR
    go_upto_region 11 with fail
    go_wp2_with (first
      | (refine wpList_load_blk rfl 24 _ rfl b10 rfl #[.int .u16 k0, .int .i64 k1] _ zo Try.underlying24 rfl (by kernel_rfl) ?_)
      | (refine wpList_store_mid rfl 24 _ _ rfl (w.heap.size + 1) 0 #[.int .u16 k0, .int .i64 k1] rfl rfl (HZ.out.there' 2 rfl) (by kernel_rfl) (by kernel_rfl) ?_))
    have z5 : Blk (W6.setCells (w.heap.size + 1) 0 (#[.int .u16 k0, .int .i64 k1] : Array Value).toList) (w.heap.size + 1) #[.int .u16 k0, .int .i64 k1] 24 := HZ.out.setAll rfl
    refine ret_agg2 (m := w.heap.size + 1) (L := #[.int .u16 k0, .int .i64 k1]) (x := .bool true) Try.results12 (by kernel_rfl) (by kernel_rfl) (by kernel_rfl) z5 Try.underlying24 rfl (by kernel_rfl) ?_
    exact ⟨rfl, FIN _⟩
end Go.Proofs.Ytpnalcbpdejpjaa
