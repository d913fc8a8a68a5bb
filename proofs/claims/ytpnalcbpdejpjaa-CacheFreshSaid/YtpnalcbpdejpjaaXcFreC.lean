/-
  The law CacheFresh, its end.
-/
import Derived.Test.YtpnalcbpdejpjaaXcFre0
set_option linter.unusedSimpArgs false
set_option linter.unusedVariables false
namespace Go.Proofs.Ytpnalcbpdejpjaa
open Go.RowKit Classical
def restOf : Nat → Go.Code → Go.Code
  | n + 1, .seq _ b => restOf n b
  | _, c => c
def headOf : Go.Code → Go.Code
  | .seq a _ => a
  | c => c
set_option maxRecDepth 100000 in
set_option maxHeartbeats 16000000 in
theorem fresh25 (pa ta : Int) (sa : ByteArray) (ia loa hia : Int) (oa : Option Addr) (na ca : Nat) (La : List Mi) (pb tb : Int) (sb : ByteArray) (ib lob hib : Int) (ob : Option Addr) (nb cb : Nat) (Lb : List Mi) (w : World) (ra : 0 ≤ pa ∧ pa ≤ 65535) (LSA : Hid (Ls w oa na ca (mflat La))) (hna : na ≤ 2932031007317) (hsa : sa.size ≤ 140737488351232) (hla : La.length = na) (rb : 0 ≤ pb ∧ pb ≤ 65535) (LSB : Hid (Ls w ob nb cb (mflat Lb))) (hnb : nb ≤ 2932031007317) (hsb : sb.size ≤ 140737488351232) (hlb : Lb.length = nb) (Bs q ga kA m N n2 fc2 sla : Nat) (fa2 : Option Addr) (es2 : List En) (xa xb : En) (hN1 : 1 ≤ N) (hN2 : N ≤ 16) (hsla : slotV pa ta N = ((sla : Nat) : Int)) (hslaN : sla < N) (GB : Hid (∀ V, Cx Bs q ga kA m N 4 (PhB xb (mflat Lb)) fa2 n2 fc2 es2 V → Calls Try.prog 13 #[.pointer (some ⟨q, 0, none⟩), .agg #[.int .u16 pb, .int .i64 tb]] V fun e V' => ∃ a' c', e = .returned (.tuple #[.agg #[.int .u16 pb, .int .i64 tb, .string sb, .int .i64 ib, .slice a' nb c', .int .i64 lob, .int .i64 hib], .bool true]) ∧ V'.ownsRow V.heap.size 54 7 (.slice a' nb c') nb (mflat Lb) ∧ Below V.heap.size V V')) (KB : Hid (∀ V, Calls Try.prog 14 #[.agg #[.int .u16 pb, .int .i64 tb, .string sb, .int .i64 ib, .slice ob nb cb, .int .i64 lob, .int .i64 hib]] V fun e w' => e = .returned (.agg #[.int .u16 pb, .int .i64 tb]) ∧ Below V.heap.size V w')) (XX : Hid ((xb.pc = pb ∧ xb.tag = tb) ∧ xb.f = spF (100 + ((sa.size : Nat) : Int)) ∧ xb.sz = spN (100 + ((sa.size : Nat) : Int)) (sb.size : Nat) ∧ xa.f = spF 100 ∧ xa.sz = spN 100 (sa.size : Nat))) (HSU : Hid (∀ e ∈ es2, e ∈ [xa] ∨ e = xb)) (hmb : xb ∈ es2) (HN2 : Hid (n2 = es2.length)) (hn2a : n2 ≤ 2) (hn2b : 1 ≤ n2) (hwB : w.heap.size ≤ Bs) (hwp : IntKind.i64.wrap (100 + ((sa.size : Nat) : Int)) = 100 + ((sa.size : Nat) : Int)) (n9 c1 cl cL : Nat) (a1 al aL : Option Addr) (ce1 cetg1 : List Value) (ck : Nat) (ak : Option Addr) (cetg2 : List Value) (V : World) (rk : V.ownsRow 0 24 2 (.slice ak n2 ck) n2 cetg2) (tg2 : Tgd cetg2 n2 (-7000)) (za : Blk V w.heap.size #[.int .u16 pa, .int .i64 ta, .string sa, .int .i64 ia, .slice oa na ca, .int .i64 loa, .int .i64 hia] 34) (zb : Blk V (w.heap.size + 1) #[.int .u16 pb, .int .i64 tb, .string sb, .int .i64 ib, .slice ob nb cb, .int .i64 lob, .int .i64 hib] 34) (cx : Cx Bs q ga kA m N 4 (PhB xb (mflat Lb)) fa2 n2 fc2 es2 V) (l : Below w.heap.size w V) (sz : Bs ≤ V.heap.size) (z9 : Blk V n9 #[.int .u16 pb, .int .i64 tb, .string sb, .int .i64 ib, .slice a1 nb c1, .int .i64 lob, .int .i64 hib] 34) (row1 : V.ownsRow 0 54 7 (.slice a1 nb c1) nb ce1) (mk1 : Mkd ce1 nb (-1000)) (rl : V.ownsRow 0 24 2 (.slice al n2 cl) n2 cetg1) (tg1 : Tgd cetg1 n2 (-5000)) (rL : V.ownsRow 0 24 2 (.slice aL (n2 + 1) cL) (n2 + 1) (cetg1 ++ (#[.int .u16 0, .int .i64 (-6000)] : Array Value).toList)) (y1 y2 y3 y6 y8 y10 y11 y15 y16 y18 y19 y20 y21 y22 y23 y24 y25 y26 y27 y28 y29 y30 y31 y32 y33 y34 y35 y36 y37 y38 y39 y40 y41 y42 y43 y44 y45 y46 y47 y48 y49 y50 y51 y52 y53 y54 y55 y56 y57 y58 y59 y60 y61 y62 y63 y64 y65 y66 y67 y68 y69 y70 y71 y72 y73 y74 y75 y76 y77 y78 y79 y80 y81 y82 y83 y84 y85 y86 y87 y88 y89 y90 y91 y92 y93 y94 y95 y96 y97 y98 y99 y100 y101 y102 y103 y104 y105 y106 y107 y108 y109 y110 y111 y112 y113 y114 y115 y116 y117 y118 y119 y120 y121 y122 y123 y124 y125 y126 y127 y128 y129 y130 y131 y132 y133 y134 y135 y136 y137 y138 y139 y140 y141 y142 y143 y144 y145 y146 y147 y148 y149 y150 y151 y152 y153 y154 y155 y156 y157 y158 y159 y160 y161 y162 y163 y164 y165 y166 y167 y168 y169 y170 y171 y172 y173 y174 y175 y176 y177 y178 y179 y180 y181 y182 y183 y184 y185 y186 y187 y188 y189 y190 y191 y192 y193 y194 y195 y196 y197 y198 y199 : Value) (K : Act → World → Prop) (hK : ∀ a' w', (restOf 22 (Try.f6.body.getD .skip)).wp Try.prog (bodyPost Try.prog Try.f6 fun e w' => e = .returned (.bool true) ∧ Below w.heap.size w w') a' w' → K a' w') :
    (headOf (restOf 21 (Try.f6.body.getD .skip))).wp Try.prog (Exit.then K (bodyPost Try.prog Try.f6 fun e w' => e = .returned (.bool true) ∧ Below w.heap.size w w')) ⟨#[.int .i64 ((N : Nat) : Int), y1, y2, y3, .pointer (some ⟨w.heap.size, 0, none⟩), .pointer (some ⟨w.heap.size + 1, 0, none⟩), y6, .pointer (some ⟨q, 0, none⟩), y8, .pointer (some ⟨n9, 0, none⟩), y10, y11, .slice al n2 cl, .int .i64 ((n2 : Nat) : Int), .slice aL (n2 + 1) cL, y15, y16, .slice ak n2 ck, y18, y19, y20, y21, y22, y23, y24, y25, y26, y27, y28, y29, y30, y31, y32, y33, y34, y35, y36, y37, y38, y39, y40, y41, y42, y43, y44, y45, y46, y47, y48, y49, y50, y51, y52, y53, y54, y55, y56, y57, y58, y59, y60, y61, y62, y63, y64, y65, y66, y67, y68, y69, y70, y71, y72, y73, y74, y75, y76, y77, y78, y79, y80, y81, y82, y83, y84, y85, y86, y87, y88, y89, y90, y91, y92, y93, y94, y95, y96, y97, y98, y99, y100, y101, y102, y103, y104, y105, y106, y107, y108, y109, y110, y111, y112, y113, y114, y115, y116, y117, y118, y119, y120, y121, y122, y123, y124, y125, y126, y127, y128, y129, y130, y131, y132, y133, y134, y135, y136, y137, y138, y139, y140, y141, y142, y143, y144, y145, y146, y147, y148, y149, y150, y151, y152, y153, y154, y155, y156, y157, y158, y159, y160, y161, y162, y163, y164, y165, y166, y167, y168, y169, y170, y171, y172, y173, y174, y175, y176, y177, y178, y179, y180, y181, y182, y183, y184, y185, y186, y187, y188, y189, y190, y191, y192, y193, y194, y195, y196, y197, y198, y199], []⟩ V := by
  dsimp only
  conv => arg 2; whnf
  conv at hK => enter [a', w', 1, 2]; whnf
  go_upto_region 25 with fail
  have c2 : V.cell? ⟨w.heap.size, 2, none⟩ = some (.string sa) := za.cell 2
  have hel : es2.length ≤ 2 := by have := HN2.out; omega
  have SX : Hid (Calls _ _ _ V _) := storeX Bs q ga kA m N 4 n2 fc2 (PhB xb (mflat Lb)) fa2 es2 (100 + ((sa.size : Nat) : Int)) V cx hN1 (by omega) (by omega) (by omega) (by omega) (by omega)
  go_upto_region 26 with (go_at_call 19; go_must (refine SX.out.mono ?_; rintro e V17 ⟨vg, lg, es3, n3, rfl, hpg, hrg, rg, hp3, cx3, hcb, fr⟩))
  clear SX c2
  obtain ⟨ag, cg, rfl, -⟩ := orow_form rg
  have hall : ∀ y ∈ lg, y = (pb, tb) := fun y hy => by
    have h1 := hpg.mem_iff.1 hy
    obtain ⟨e, he, rfl⟩ := List.mem_map.1 h1
    obtain ⟨he1, he2⟩ := List.mem_filter.1 he
    rcases HSU.out e he1 with h | h
    · exfalso
      obtain ⟨-, -, -, x1, x2⟩ := XX.out
      rw [List.mem_singleton.1 h] at he2
      unfold hasE at he2
      rw [x1, x2] at he2
      have y1 : spF 100 = 100 := by decide
      have y2 : spN 100 (sa.size : Nat) = ((sa.size : Nat) : Int) := by unfold spN farB; simp
      rw [y1, y2] at he2
      simp at he2
      omega
    · rw [h]
      exact Prod.ext XX.out.1.1 XX.out.1.2
  have hlg : lg = [] ∨ lg = [(pb, tb)] := by
    cases lg with
    | nil => exact .inl rfl
    | cons y1 t =>
      cases t with
      | nil => right; rw [hall y1 (by simp)]
      | cons y2 t =>
        exfalso
        have h1 := hrg 0 y1 y2 rfl rfl
        rw [hall y1 (by simp), hall y2 (by simp)] at h1
        unfold ltP at h1
        omega
  have HLG : Hid (lg = [] ∨ lg = [(pb, tb)]) := hlg
  have hp3l : es3.length ≤ 2 := by
    rw [hp3.length_eq]
    exact Nat.le_trans (List.length_filter_le _ _) hel
  have HRG : Hid (V17.ownsRow V.heap.size 24 2 (.slice ag lg.length cg) lg.length (pk lg)) := rg
  have zb17 := cx.blkK fr zb (by decide) (by decide) (by decide)
  obtain ⟨d, hd⟩ : ∃ d, d = lg.length := ⟨_, rfl⟩
  have HD : Hid (d = lg.length) := hd
  simp only [← hd] at rg ⊢
  clear hd hall hlg hrg hpg hp3
  go_cut [161] (fun v wx => v = .bool false ∧ Below V17.heap.size V17 wx)
  case first =>
    rename_i J0 K0 hJ0 hK0
    rcases HLG.out with h | h
    · obtain rfl : d = 0 := by rw [HD.out, h]; rfl
      go_quiet (fail)
      go_wp2
      go_meet
      exact ⟨rfl, below_drawsX (Below.refl _ _) nq⟩
    · obtain rfl : d = 1 := by rw [HD.out, h]; rfl
      obtain ⟨g, rfl⟩ : ∃ g, ag = some ⟨g, 0, none⟩ := by
        cases ag with
        | none => have := (orow_none rg).1; omega
        | some ad => obtain ⟨g, rfl⟩ := orow_where rg; exact ⟨g, rfl⟩
      rw [h] at rg
      have RG : Hid (∀ v, Below V17.heap.size V17 v → v.rangeAt g 0 (#[.int .u16 pb, .int .i64 tb] : Array Value).toList) := fun v hv c u hu => by
        have hc2 : c < 2 := (List.getElem?_eq_some_iff.1 hu).1
        have h1 := orow_cell (orow_keep rg hv) c (by omega)
        rw [Nat.zero_add, h1]
        exact hu
      have NK : Hid (∀ v, (binOp .neq 24 (.agg #[.int .u16 pb, .int .i64 tb]) (.agg #[.int .u16 pb, .int .i64 tb])).run Try.prog v = .ok (.bool false) v) := fun v => by
        have := neqKey v pb tb pb tb
        simp only [beq_self_eq_true, Bool.and_self, Bool.not_true] at this
        exact this
      clear HRG HLG HD h rg
      have s0 : Below V17.heap.size V17 V17.drew := (Below.refl _ _).drew
      refine wp_region_held (S := fun v => Below V17.heap.size V17 v) (by kernel_rfl) ?_
      refine takeH (i := 0) (v := .slice (some ⟨g, 0, none⟩) 1 cg) _ rfl (by kernel_rfl) (by kernel_rfl) (by kernel_rfl) (fun _ _ _ h => h) (.inl ⟨by kernel_rfl, fun _ _ => by kernel_rfl⟩) s0 rfl ?_
      refine takeH (i := 1) (v := .int .i64 1) _ rfl (by kernel_rfl) (by kernel_rfl) (by kernel_rfl) (fun _ _ _ h => h) (.inl ⟨by kernel_rfl, fun _ _ => by kernel_rfl⟩) s0 rfl ?_
      refine takeH (i := 2) (v := .bool true) _ rfl (by kernel_rfl) (by kernel_rfl) (by kernel_rfl) (fun _ _ _ h => h) (.inl ⟨by kernel_rfl, fun _ _ => by kernel_rfl⟩) s0 rfl ?_
      refine takeH (i := 3) (v := .bool true) _ rfl (by kernel_rfl) (by kernel_rfl) (by kernel_rfl) (fun _ _ _ h => h) (.inl ⟨by kernel_rfl, fun _ _ => by kernel_rfl⟩) s0 rfl ?_
      refine takeH (i := 4) (v := .slice (some ⟨g, 0, none⟩) 1 cg) _ rfl (by kernel_rfl) (by kernel_rfl) (by kernel_rfl) (fun _ _ _ h => h) (.inl ⟨by kernel_rfl, fun _ _ => by kernel_rfl⟩) s0 rfl ?_
      refine takeH (i := 5) (v := .pointer (some ⟨g, 0, none⟩)) _ rfl (by kernel_rfl) (by kernel_rfl) (by kernel_rfl) (fun _ _ _ h => h) (.inl ⟨by kernel_rfl, fun _ _ => by kernel_rfl⟩) s0 rfl ?_
      refine takeH (i := 6) (v := .agg (#[.int .u16 pb, .int .i64 tb] : Array Value).toList.toArray) _ rfl (by kernel_rfl) (by kernel_rfl) (by kernel_rfl) (fun _ _ _ h => h) (.inl ⟨by kernel_rfl, fun v hv => exec_loadM (cs := (#[.int .u16 pb, .int .i64 tb] : Array Value).toList) rfl (by kernel_rfl) (RG.out v hv) Try.underlying24 rfl (by kernel_rfl)⟩) s0 rfl ?_
      refine takeH (i := 7) (v := .agg (#[.int .u16 pb, .int .i64 tb, .string sb, .int .i64 ib, .slice ob nb cb, .int .i64 lob, .int .i64 hib] : Array Value).toList.toArray) _ rfl (by kernel_rfl) (by kernel_rfl) (by kernel_rfl) (fun _ _ _ h => h) (.inl ⟨by kernel_rfl, fun v hv => exec_loadM (cs := (#[.int .u16 pb, .int .i64 tb, .string sb, .int .i64 ib, .slice ob nb cb, .int .i64 lob, .int .i64 hib] : Array Value).toList) rfl (by kernel_rfl) (zb17.below zb17.lt hv).range' Try.underlying34 rfl (by kernel_rfl)⟩) s0 rfl ?_
      refine callH (i := 8) (f := 14) (v := .agg #[.int .u16 pb, .int .i64 tb]) _ (by kernel_rfl) rfl (by kernel_rfl) (by kernel_rfl) (KB.out _) rfl ?_
      intro U5 hU5
      have s1 : Below V17.heap.size V17 U5 := s0.trans (hU5.mono s0.size)
      refine ⟨s1, ?_⟩
      refine takeH (i := 9) (v := .bool false) _ rfl (by kernel_rfl) (by kernel_rfl) (by kernel_rfl) (fun _ _ _ h => h) (.inl ⟨by kernel_rfl, fun v hv => by have c := NK.out v; go_simp⟩) s1 rfl ?_
      refine takeH (i := 10) (v := .bool false) _ rfl (by kernel_rfl) (by kernel_rfl) (by kernel_rfl) (fun _ _ _ h => h) (.inl ⟨by kernel_rfl, fun _ _ => by kernel_rfl⟩) s1 rfl ?_
      refine wpAnyH_done (by kernel_rfl) ?_ _
      exact hK0 _ _ (Met.intro (hJ0 _ _ ⟨y22, y23, y24, y25, y26, y27, y28, y29, y30, y31, y32, y33, y34, y35, y36, y37, y38, y39, y40, y41, y42, y43, y44, y45, y46, y47, y48, y49, y50, y51, y52, y53, y54, y55, y56, y57, y58, y59, y60, y61, y62, y63, y64, y65, y66, y67, y68, y69, y70, y71, y72, y73, y74, y75, y76, y77, y78, y79, y80, y81, y82, y83, y84, y85, y86, y87, y88, y89, y90, y91, y92, y93, y94, y95, y96, y97, y98, y99, y100, y101, y102, y103, y104, y105, y106, y107, y108, y109, y110, y111, y112, y113, y114, y115, y116, y117, y118, y119, y120, y121, y122, y123, y124, y125, y126, y127, y128, y129, y130, y131, y132, y133, y134, y135, y136, y137, y138, y139, y140, y141, y142, y143, y144, .pointer (some ⟨q, 0, none⟩), .pointer (some ⟨w.heap.size, 2, none⟩), .string sa, .int .i64 ((sa.size : Nat) : Int), .int .i64 (100 + ((sa.size : Nat) : Int)), .slice (some ⟨g, 0, none⟩) 1 cg, .slice (some ⟨g, 0, none⟩) 1 cg, .int .i64 1, .bool true, .bool true, .slice (some ⟨g, 0, none⟩) 1 cg, .pointer (some ⟨g, 0, none⟩), .agg #[.int .u16 pb, .int .i64 tb], .agg #[.int .u16 pb, .int .i64 tb, .string sb, .int .i64 ib, .slice ob nb cb, .int .i64 lob, .int .i64 hib], .agg #[.int .u16 pb, .int .i64 tb], .bool false, .bool false, y162, y163, y164, y165, y166, y167, y168, y169, y170, y171, y172, y173, y174, y175, y176, y177, y178, y179, y180, y181, y182, y183, y184, y185, y186, y187, y188, y189, y190, y191, y192, y193, y194, y195, y196, y197, y198, y199, ⟨rfl, s1⟩, by kernel_rfl⟩))
  case rest =>
  obtain ⟨rfl, hb8⟩ := hcut
  generalize wc = V18 at *
  have hdl : d ≤ 1 := by rcases HLG.out with h | h <;> rw [HD.out, h] <;> simp
  have rg8 : V18.ownsRow V.heap.size 24 2 (.slice ag d cg) d (pk lg) := by
    have h9 := orow_keep HRG.out hb8
    rw [← HD.out] at h9
    exact h9
  clear HRG HLG HD rg
  have TA : Hid (Calls _ _ _ V18 _) := tagged_any _ d (.slice ag d cg) (pk lg) (-8000) V18 rg8 (by omega)
  go_upto_region 29 with (go_at_call 23; go_must (refine TA.out.mono ?_; rintro e V19 ⟨rfl, ⟨ceg, rg9, tg3⟩, frt⟩))
  clear TA
  have frs : Fr (CaS q ga m (.slice fa2 n2 fc2)) V V19 := (fr.trans (Fr.of_below hb8)).andThen frt (fun k hk => .inr (orow_own rg8 hk).1)
  have cx5 : Cx Bs q ga kA m N 6 (PhB xb (mflat Lb)) fa2 n3 fc2 es3 V19 := ((cx3.on hb8).fr frt (fun k hk e => by have h1 := (cx.blk (hcb k hk)).2; have h2 := (orow_own rg8 e).1; omega)).up (by omega)
  replace za := cx.blkK frs za (by decide) (by decide) (by decide)
  replace z9 := cx.blkK frs z9 (by decide) (by decide) (by decide)
  replace row1 := cx.orowM frs row1
  replace rl := cx.orowK frs rl
  replace rL := cx.orowK frs rL
  replace rk := cx.orowK frs rk
  replace l := l.trans (frs.below (fun k hk => by have := (cx.blk (.inl hk)).1; omega) l.size)
  replace sz := Nat.le_trans sz frs.size
  have rg := orow_lower rg9 (Nat.zero_le _)
  clear cx cx3 hcb fr frt frs rg8 rg9 hb8 zb zb17
  have cx := cx5
  clear cx5
  have PX : Hid (Calls _ _ _ V19 _) := putX Bs q ga kA m N 6 sla n3 fc2 (PhB xb (mflat Lb)) fa2 es3 pa ta sa ia loa hia 100 oa na ca (mflat La) V19 cx (fun V fr => LSA.out.far cx l hwB fr) hna ra.1 ra.2 (by omega) hN1 (by omega) (by have := cx.length; omega) (by omega) sz hsla hslaN
  go_upto_region 30 with (first
    | (refine wpList_load_blk rfl 34 _ rfl w.heap.size rfl #[.int .u16 pa, .int .i64 ta, .string sa, .int .i64 ia, .slice oa na ca, .int .i64 loa, .int .i64 hia] _ za Try.underlying34 rfl (by kernel_rfl) ?_)
    | (go_at_call 12; go_must (refine PX.out.mono ?_; rintro e V20 ⟨es4, rr4, RK4, xc, rfl, -, hR4, ⟨fa4, n4, fc4, cx4, -⟩, fr4⟩)))
  clear PX
  have hl4 : es4.length ≤ 3 := by have := put_len hR4; omega
  replace z9 := cx.blkK fr4 z9 (by decide) (by decide) (by decide)
  replace row1 := cx.orowM fr4 row1
  replace rl := cx.orowK fr4 rl
  replace rL := cx.orowK fr4 rL
  replace rk := cx.orowK fr4 rk
  replace rg := cx.orowK fr4 rg
  replace l := l.trans (fr4.below (fun k hk => by have := (cx.blk (.inl hk)).1; omega) l.size)
  clear cx za fr4 hR4 sz
  have cx : Cx Bs q ga kA m N 8 (fun _ _ => True) fa4 n4 fc4 es4 V20 := cx4.mono (fun _ _ _ _ => trivial)
  clear cx4
  have SX : Hid (Calls _ _ _ V20 _) := storeX Bs q ga kA m N 8 n4 fc4 (fun _ _ => True) fa4 es4 100 V20 cx hN1 (by omega) (by have := cx.length; omega) (by omega) (by omega) (by omega)
  go_upto_region 31 with (go_at_call 19; go_must (refine SX.out.mono ?_; rintro e V21 ⟨vh, lh, es5, n5, rfl, hph, -, rh, hp5, cx5, hcb, fr⟩))
  clear SX
  obtain ⟨ah, ch, rfl, -⟩ := orow_form rh
  have hlh : lh.length ≤ 3 := by
    rw [hph.length_eq, List.length_map]
    exact Nat.le_trans (List.length_filter_le _ _) hl4
  have hl5 : es5.length ≤ 3 := by
    rw [hp5.length_eq]
    exact Nat.le_trans (List.length_filter_le _ _) hl4
  clear hph hp5
  obtain ⟨f, hf⟩ : ∃ f, f = lh.length := ⟨_, rfl⟩
  simp only [← hf] at rh hlh ⊢
  clear hf
  have TA : Hid (Calls _ _ _ V21 _) := tagged_any _ f (.slice ah f ch) (pk lh) (-9000) V21 rh (by omega)
  go_upto_region 32 with (go_at_call 23; go_must (refine TA.out.mono ?_; rintro e V22 ⟨rfl, ⟨ceh, rh9, tg4⟩, frt⟩))
  clear TA
  have frs : Fr (CaS q ga m (.slice fa4 n4 fc4)) V20 V22 := fr.andThen frt (fun k hk => .inr (orow_own rh hk).1)
  have cx6 : Cx Bs q ga kA m N (8 + es4.length) (fun _ _ => True) fa4 n5 fc4 es5 V22 := cx5.fr frt (fun k hk e => by have h1 := (cx.blk (hcb k hk)).2; have h2 := (orow_own rh e).1; omega)
  replace z9 := cx.blkK frs z9 (by decide) (by decide) (by decide)
  replace row1 := cx.orowM frs row1
  replace rl := cx.orowK frs rl
  replace rL := cx.orowK frs rL
  replace rk := cx.orowK frs rk
  replace rg := cx.orowK frs rg
  replace l := l.trans (frs.below (fun k hk => by have := (cx.blk (.inl hk)).1; omega) l.size)
  have rhh := orow_lower rh9 (Nat.zero_le _)
  clear cx cx5 hcb fr frt frs rh rh9
  have KX : Hid (Calls _ _ _ V22 _) := keysX Bs q ga kA m N (8 + es4.length) n5 fc4 (fun _ _ => True) fa4 es5 V22 cx6 (by have := cx6.length; omega)
  go_upto_region 33 with (go_at_call 16; go_must (refine KX.out.mono ?_; rintro e V23 ⟨vq, lq, rfl, -, -, -, hb⟩))
  clear KX cx6
  obtain ⟨gL, rfl⟩ : ∃ gL, aL = some ⟨gL, 0, none⟩ := by
    cases aL with
    | none => have := (orow_none rL).1; omega
    | some ad => obtain ⟨g, rfl⟩ := orow_where rL; exact ⟨g, rfl⟩
  have dL : V23.cell? ⟨gL, n2 * 2 + 1, none⟩ = some (.int .i64 (-6000)) := by
    rw [orow_cell (orow_keep rL hb) (n2 * 2 + 1) (by omega), List.getElem?_append_right (by rw [rl.1]; omega), rl.1]
    rw [show n2 * 2 + 1 - n2 * 2 = 1 by omega]
    rfl
  have d9 : V23.cell? ⟨n9, 4, none⟩ = some (.slice a1 nb c1) := (z9.below z9.lt hb).cell 4
  have hlt : ((n2 : Nat) : Int) < ((n2 + 1 : Nat) : Int) := by omega
  have A1 : Hid (Calls _ _ _ V23 _) := all_yes 0 d (.slice ag d cg) ceg (-8000) V23 (orow_keep rg hb) tg3 (by omega)
  have A2 : Hid (Calls _ _ _ V23 _) := all_yes 0 f (.slice ah f ch) ceh (-9000) V23 (orow_keep rhh hb) tg4 (by omega)
  have A3 : Hid (Calls _ _ _ V23 _) := all_yes 0 n2 (.slice al n2 cl) cetg1 (-5000) V23 (orow_keep rl hb) tg1 (by omega)
  have A4 : Hid (Calls _ _ _ V23 _) := all_yes 0 n2 (.slice ak n2 ck) cetg2 (-7000) V23 (orow_keep rk hb) tg2 (by omega)
  have S1 : Hid (Calls _ _ _ V23 _) := shows_yes 0 nb (.slice a1 nb c1) ce1 (-1000) V23 (orow_keep row1 hb) mk1 hnb (by omega) (by omega)
  replace l := l.trans (hb.mono l.size)
  clear row1 rl rL rk rg rhh z9 hb
  go_wp2_with (first
    | (go_at_call_of 25 (Value.slice ag d cg); go_must (refine A1.out.mono ?_; rintro e U7 ⟨rfl, hw⟩; obtain rfl := hw.symm))
    | (go_at_call_of 25 (Value.slice ah f ch); go_must (refine A2.out.mono ?_; rintro e U7 ⟨rfl, hw⟩; obtain rfl := hw.symm))
    | (go_at_call_of 25 (Value.slice al n2 cl); go_must (refine A3.out.mono ?_; rintro e U7 ⟨rfl, hw⟩; obtain rfl := hw.symm))
    | (go_at_call_of 25 (Value.slice ak n2 ck); go_must (refine A4.out.mono ?_; rintro e U7 ⟨rfl, hw⟩; obtain rfl := hw.symm))
    | (go_at_call_of 24 (Value.slice a1 nb c1); go_must (refine S1.out.mono ?_; rintro e U7 ⟨rfl, hw⟩; obtain rfl := hw.symm)))
  go_ret
  exact ⟨rfl, l⟩
end Go.Proofs.Ytpnalcbpdejpjaa
