/-
  The law CacheFresh, its middle.
-/
import Derived.Test.YtpnalcbpdejpjaaXcFreC
set_option linter.unusedSimpArgs false
set_option linter.unusedVariables false
namespace Go.Proofs.Ytpnalcbpdejpjaa
open Go.RowKit Classical
set_option maxRecDepth 100000 in
set_option maxHeartbeats 16000000 in
theorem fresh16 (pa ta : Int) (sa : ByteArray) (ia loa hia : Int) (oa : Option Addr) (na ca : Nat) (La : List Mi) (pb tb : Int) (sb : ByteArray) (ib lob hib : Int) (ob : Option Addr) (nb cb : Nat) (Lb : List Mi) (w : World) (ra : 0 ≤ pa ∧ pa ≤ 65535) (LSA : Hid (Ls w oa na ca (mflat La))) (hna : na ≤ 2932031007317) (hsa : sa.size ≤ 140737488351232) (hla : La.length = na) (rb : 0 ≤ pb ∧ pb ≤ 65535) (LSB : Hid (Ls w ob nb cb (mflat Lb))) (hnb : nb ≤ 2932031007317) (hsb : sb.size ≤ 140737488351232) (hlb : Lb.length = nb) (Bs q ga kA m N n2 fc2 sla : Nat) (fa2 : Option Addr) (es2 : List En) (xa xb : En) (hN1 : 1 ≤ N) (hN2 : N ≤ 16) (hsla : slotV pa ta N = ((sla : Nat) : Int)) (hslaN : sla < N) (GB : Hid (∀ V, Cx Bs q ga kA m N 4 (PhB xb (mflat Lb)) fa2 n2 fc2 es2 V → Calls Try.prog 13 #[.pointer (some ⟨q, 0, none⟩), .agg #[.int .u16 pb, .int .i64 tb]] V fun e V' => ∃ a' c', e = .returned (.tuple #[.agg #[.int .u16 pb, .int .i64 tb, .string sb, .int .i64 ib, .slice a' nb c', .int .i64 lob, .int .i64 hib], .bool true]) ∧ V'.ownsRow V.heap.size 54 7 (.slice a' nb c') nb (mflat Lb) ∧ Below V.heap.size V V')) (KB : Hid (∀ V, Calls Try.prog 14 #[.agg #[.int .u16 pb, .int .i64 tb, .string sb, .int .i64 ib, .slice ob nb cb, .int .i64 lob, .int .i64 hib]] V fun e w' => e = .returned (.agg #[.int .u16 pb, .int .i64 tb]) ∧ Below V.heap.size V w')) (XX : Hid ((xb.pc = pb ∧ xb.tag = tb) ∧ xb.f = spF (100 + ((sa.size : Nat) : Int)) ∧ xb.sz = spN (100 + ((sa.size : Nat) : Int)) (sb.size : Nat) ∧ xa.f = spF 100 ∧ xa.sz = spN 100 (sa.size : Nat))) (HSU : Hid (∀ e ∈ es2, e ∈ [xa] ∨ e = xb)) (hmb : xb ∈ es2) (HN2 : Hid (n2 = es2.length)) (hn2a : n2 ≤ 2) (hn2b : 1 ≤ n2) (hwB : w.heap.size ≤ Bs) (hwp : IntKind.i64.wrap (100 + ((sa.size : Nat) : Int)) = 100 + ((sa.size : Nat) : Int)) (n9 c1 cl cL : Nat) (a1 al aL : Option Addr) (ce1 cetg1 : List Value) (cm : Nat) (am : Option Addr) (V : World) (rm : V.ownsRow 0 54 7 (.slice am (nb + 1) cm) (nb + 1) (ce1 ++ (#[.int .u8 0, .int .i64 0, .int .i64 0, .int .u16 0, .int .u8 0, .int .i64 0, .int .i64 (-77)] : Array Value).toList)) (za : Blk V w.heap.size #[.int .u16 pa, .int .i64 ta, .string sa, .int .i64 ia, .slice oa na ca, .int .i64 loa, .int .i64 hia] 34) (zb : Blk V (w.heap.size + 1) #[.int .u16 pb, .int .i64 tb, .string sb, .int .i64 ib, .slice ob nb cb, .int .i64 lob, .int .i64 hib] 34) (cx : Cx Bs q ga kA m N 4 (PhB xb (mflat Lb)) fa2 n2 fc2 es2 V) (l : Below w.heap.size w V) (sz : Bs ≤ V.heap.size) (z9 : Blk V n9 #[.int .u16 pb, .int .i64 tb, .string sb, .int .i64 ib, .slice a1 nb c1, .int .i64 lob, .int .i64 hib] 34) (row1 : V.ownsRow 0 54 7 (.slice a1 nb c1) nb ce1) (mk1 : Mkd ce1 nb (-1000)) (rl : V.ownsRow 0 24 2 (.slice al n2 cl) n2 cetg1) (tg1 : Tgd cetg1 n2 (-5000)) (rL : V.ownsRow 0 24 2 (.slice aL (n2 + 1) cL) (n2 + 1) (cetg1 ++ (#[.int .u16 0, .int .i64 (-6000)] : Array Value).toList)) (y1 y2 y3 y6 y8 y10 y15 y16 y17 y18 y19 y20 y21 y22 y23 y24 y25 y26 y27 y28 y29 y30 y31 y32 y33 y34 y35 y36 y37 y38 y39 y40 y41 y42 y43 y44 y45 y46 y47 y48 y49 y50 y51 y52 y53 y54 y55 y56 y57 y58 y59 y60 y61 y62 y63 y64 y65 y66 y67 y68 y69 y70 y71 y72 y73 y74 y75 y76 y77 y78 y79 y80 y81 y82 y83 y84 y85 y86 y87 y88 y89 y90 y91 y92 y93 y94 y95 y96 y97 y98 y99 y100 y101 y102 y103 y104 y105 y106 y107 y108 y109 y110 y111 y112 y113 y114 y115 y116 y117 y118 y119 y120 y121 y122 y123 y124 y125 y126 y127 y128 y129 y130 y131 y132 y133 y134 y135 y136 y137 y138 y139 y140 y141 y142 y143 y144 y145 y146 y147 y148 y149 y150 y151 y152 y153 y154 y155 y156 y157 y158 y159 y160 y161 y162 y163 y164 y165 y166 y167 y168 y169 y170 y171 y172 y173 y174 y175 y176 y177 y178 y179 y180 y181 y182 y183 y184 y185 y186 y187 y188 y189 y190 y191 y192 y193 y194 y195 y196 y197 y198 y199 : Value) (K : Act → World → Prop) (hK : ∀ a' w', (restOf 15 (Try.f6.body.getD .skip)).wp Try.prog (bodyPost Try.prog Try.f6 fun e w' => e = .returned (.bool true) ∧ Below w.heap.size w w') a' w' → K a' w') :
    (headOf (restOf 14 (Try.f6.body.getD .skip))).wp Try.prog (Exit.then K (bodyPost Try.prog Try.f6 fun e w' => e = .returned (.bool true) ∧ Below w.heap.size w w')) ⟨#[.int .i64 ((N : Nat) : Int), y1, y2, y3, .pointer (some ⟨w.heap.size, 0, none⟩), .pointer (some ⟨w.heap.size + 1, 0, none⟩), y6, .pointer (some ⟨q, 0, none⟩), y8, .pointer (some ⟨n9, 0, none⟩), y10, .slice am (nb + 1) cm, .slice al n2 cl, .int .i64 ((n2 : Nat) : Int), .slice aL (n2 + 1) cL, y15, y16, y17, y18, y19, y20, y21, y22, y23, y24, y25, y26, y27, y28, y29, y30, y31, y32, y33, y34, y35, y36, y37, y38, y39, y40, y41, y42, y43, y44, y45, y46, y47, y48, y49, y50, y51, y52, y53, y54, y55, y56, y57, y58, y59, y60, y61, y62, y63, y64, y65, y66, y67, y68, y69, y70, y71, y72, y73, y74, y75, y76, y77, y78, y79, y80, y81, y82, y83, y84, y85, y86, y87, y88, y89, y90, y91, y92, y93, y94, y95, y96, y97, y98, y99, y100, y101, y102, y103, y104, y105, y106, y107, y108, y109, y110, y111, y112, y113, y114, y115, y116, y117, y118, y119, y120, y121, y122, y123, y124, y125, y126, y127, y128, y129, y130, y131, y132, y133, y134, y135, y136, y137, y138, y139, y140, y141, y142, y143, y144, y145, y146, y147, y148, y149, y150, y151, y152, y153, y154, y155, y156, y157, y158, y159, y160, y161, y162, y163, y164, y165, y166, y167, y168, y169, y170, y171, y172, y173, y174, y175, y176, y177, y178, y179, y180, y181, y182, y183, y184, y185, y186, y187, y188, y189, y190, y191, y192, y193, y194, y195, y196, y197, y198, y199], []⟩ V := by
  dsimp only
  conv => arg 2; whnf
  conv at hK => enter [a', w', 1, 2]; whnf
  go_upto_region 16 with fail
  go_upto_region 17 with (first
    | (refine wpList_load_blk rfl 34 _ rfl (w.heap.size + 1) rfl #[.int .u16 pb, .int .i64 tb, .string sb, .int .i64 ib, .slice ob nb cb, .int .i64 lob, .int .i64 hib] _ zb Try.underlying34 rfl (by kernel_rfl) ?_)
    | (go_at_call 14; go_must (refine (KB.out _).mono ?_; rintro e U1 ⟨rfl, hb4⟩))
    | (go_at_call 13; go_must (refine (GB.out _ (cx.on hb4)).mono ?_; rintro e U2 ⟨a2, c2, rfl, row2, hb5⟩)))
  have hbg : Below V.heap.size V (U2.alloc (.cells #[.int .u16 pb, .int .i64 tb, .string sb, .int .i64 ib, .slice a2 nb c2, .int .i64 lob, .int .i64 hib] 34)) := (hb4.trans (hb5.mono hb4.size)).alloc (Nat.le_trans hb4.size hb5.size) _
  replace row2 := orow_lower (orow_keep row2 ((Below.refl _ _).alloc (Nat.le_refl _) (.cells #[.int .u16 pb, .int .i64 tb, .string sb, .int .i64 ib, .slice a2 nb c2, .int .i64 lob, .int .i64 hib] 34))) hb4.size
  have z15 : Blk (U2.alloc (.cells #[.int .u16 pb, .int .i64 tb, .string sb, .int .i64 ib, .slice a2 nb c2, .int .i64 lob, .int .i64 hib] 34)) U2.heap.size #[.int .u16 pb, .int .i64 tb, .string sb, .int .i64 ib, .slice a2 nb c2, .int .i64 lob, .int .i64 hib] 34 := Blk.new U2 _ _
  generalize U2.alloc (.cells #[.int .u16 pb, .int .i64 tb, .string sb, .int .i64 ib, .slice a2 nb c2, .int .i64 lob, .int .i64 hib] 34) = V11 at *
  obtain ⟨n15, hn15⟩ : ∃ b, b = U2.heap.size := ⟨_, rfl⟩
  rw [← hn15] at z15
  simp only [← hn15]
  clear hb4 hb5 hn15
  have c4 : V11.cell? ⟨n15, 4, none⟩ = some (.slice a2 nb c2) := z15.cell 4
  have MA : Hid (Calls _ _ _ V11 _) := marked_any _ nb (.slice a2 nb c2) (mflat Lb) 1000000 V11 row2 hnb (by omega) (by omega)
  go_upto_region 18 with (go_at_call 22; go_must (refine MA.out.mono ?_; rintro e V12 ⟨rfl, ⟨ce2, row2', mk2⟩, fr⟩))
  clear MA c4
  replace z15 := fr.blk z15 (fun e => orow_type row2 z15 (by decide) e)
  replace hbg := hbg.trans (own_fr fr (fun k hk => (orow_own row2 hk).1) hbg.size)
  clear row2 fr
  replace za := za.below za.lt hbg
  replace zb := zb.below zb.lt hbg
  replace cx := cx.on hbg
  replace l := l.trans (hbg.mono l.size)
  replace sz := Nat.le_trans sz hbg.size
  replace row1 := orow_keep row1 hbg
  replace rm := orow_keep rm hbg
  replace rl := orow_keep rl hbg
  replace rL := orow_keep rL hbg
  replace z9 := z9.below z9.lt hbg
  have row2 := orow_lower row2' (Nat.zero_le _)
  clear row2' hbg
  have KX : Hid (Calls _ _ _ V12 _) := keysX Bs q ga kA m N 4 n2 fc2 (PhB xb (mflat Lb)) fa2 es2 V12 cx (by omega)
  go_upto_region 19 with (go_at_call 16; go_must (refine KX.out.mono ?_; rintro e U3 ⟨vl, lk, rfl, -, -, rk, hbl⟩))
  obtain ⟨ak, ck, rfl, -⟩ := orow_form rk
  clear KX
  have LX : Hid (Calls _ _ _ U3 _) := lenX Bs q ga kA m N 4 n2 fc2 (PhB xb (mflat Lb)) fa2 es2 U3 (cx.on hbl)
  rw [← HN2.out] at LX
  have hp1 : ¬ ((n2 : Nat) : Int) < 1 := by omega
  go_upto_region 21 with (go_at_call 15; go_must (refine LX.out.mono ?_; rintro e U4 ⟨rfl, hw⟩; obtain rfl := hw.symm))
  clear LX hp1
  have TA : Hid (Calls _ _ _ U3 _) := tagged_any _ n2 (.slice ak n2 ck) (pk lk) (-7000) U3 rk (by omega)
  go_upto_region 22 with (go_at_call 23; go_must (refine TA.out.mono ?_; rintro e V14 ⟨rfl, ⟨cetg2, rk', tg2⟩, fr⟩))
  replace hbl := hbl.trans (own_fr fr (fun k hk => (orow_own rk hk).1) hbl.size)
  clear TA fr rk
  replace za := za.below za.lt hbl
  replace zb := zb.below zb.lt hbl
  replace cx := cx.on hbl
  replace l := l.trans (hbl.mono l.size)
  replace sz := Nat.le_trans sz hbl.size
  replace row1 := orow_keep row1 hbl
  replace rm := orow_keep rm hbl
  replace rl := orow_keep rl hbl
  replace rL := orow_keep rL hbl
  replace row2 := orow_keep row2 hbl
  replace z9 := z9.below z9.lt hbl
  replace z15 := z15.below z15.lt hbl
  have rk := orow_lower rk' (Nat.zero_le _)
  clear rk' hbl
  go_upto_region 23 with (first
    | (refine wpList_load_blk rfl 34 _ rfl (w.heap.size + 1) rfl #[.int .u16 pb, .int .i64 tb, .string sb, .int .i64 ib, .slice ob nb cb, .int .i64 lob, .int .i64 hib] _ zb Try.underlying34 rfl (by kernel_rfl) ?_)
    | (go_at_call 14; go_must (refine (KB.out _).mono ?_; rintro e U1 ⟨rfl, hb4⟩))
    | (go_at_call 13; go_must (refine (GB.out _ (cx.on hb4)).mono ?_; rintro e U2 ⟨a3, c3, rfl, row3, hb5⟩)))
  have hbg : Below V14.heap.size V14 (U2.alloc (.cells #[.int .u16 pb, .int .i64 tb, .string sb, .int .i64 ib, .slice a3 nb c3, .int .i64 lob, .int .i64 hib] 34)) := (hb4.trans (hb5.mono hb4.size)).alloc (Nat.le_trans hb4.size hb5.size) _
  replace row3 := orow_lower (orow_keep row3 ((Below.refl _ _).alloc (Nat.le_refl _) (.cells #[.int .u16 pb, .int .i64 tb, .string sb, .int .i64 ib, .slice a3 nb c3, .int .i64 lob, .int .i64 hib] 34))) hb4.size
  have z18 : Blk (U2.alloc (.cells #[.int .u16 pb, .int .i64 tb, .string sb, .int .i64 ib, .slice a3 nb c3, .int .i64 lob, .int .i64 hib] 34)) U2.heap.size #[.int .u16 pb, .int .i64 tb, .string sb, .int .i64 ib, .slice a3 nb c3, .int .i64 lob, .int .i64 hib] 34 := Blk.new U2 _ _
  generalize U2.alloc (.cells #[.int .u16 pb, .int .i64 tb, .string sb, .int .i64 ib, .slice a3 nb c3, .int .i64 lob, .int .i64 hib] 34) = V15 at *
  obtain ⟨n18, hn18⟩ : ∃ b, b = U2.heap.size := ⟨_, rfl⟩
  rw [← hn18] at z18
  simp only [← hn18]
  clear hb4 hb5 hn18
  replace za := za.below za.lt hbg
  replace zb := zb.below zb.lt hbg
  replace cx := cx.on hbg
  replace l := l.trans (hbg.mono l.size)
  replace sz := Nat.le_trans sz hbg.size
  replace row1 := orow_keep row1 hbg
  replace rm := orow_keep rm hbg
  replace rl := orow_keep rl hbg
  replace rL := orow_keep rL hbg
  replace row2 := orow_keep row2 hbg
  replace rk := orow_keep rk hbg
  replace z9 := z9.below z9.lt hbg
  replace z15 := z15.below z15.lt hbg
  clear hbg
  obtain ⟨gm, rfl⟩ : ∃ gm, am = some ⟨gm, 0, none⟩ := by
    cases am with
    | none => have := (orow_none rm).1; omega
    | some ad => obtain ⟨g, rfl⟩ := orow_where rm; exact ⟨g, rfl⟩
  have BL : Hid (Calls _ _ _ V15 _) := blocks_yes pb tb sb ib lob hib Lb nb c3 cb a3 ob V15 hlb hnb (RowM.of (Ls.of_row row3 (mflat_one Lb))) (RowM.of (LSB.out.on l))
  have KEEP : Hid (∀ V16, Below V15.heap.size V15 V16 → (V16.cell? ⟨n9, 4, none⟩ = some (.slice a1 nb c1) ∧ V16.cell? ⟨n15, 4, none⟩ = some (.slice a2 nb c2)) ∧ V16.cell? ⟨w.heap.size + 1, 4, none⟩ = some (.slice ob nb cb) ∧ V16.cell? ⟨gm, nb * 7 + 6, none⟩ = some (.int .i64 (-77))) := fun V16 hb => ⟨⟨(z9.below z9.lt hb).cell 4, (z15.below z15.lt hb).cell 4⟩, (zb.below zb.lt hb).cell 4, by
    rw [orow_cell (orow_keep rm hb) (nb * 7 + 6) (by omega), List.getElem?_append_right (by rw [row1.1]; omega), row1.1]
    rw [show nb * 7 + 6 - nb * 7 = 6 by omega]
    rfl⟩
  have S1 : Hid (∀ V16, Below V15.heap.size V15 V16 → Calls _ _ _ V16 _) := fun V16 hb => shows_yes 0 nb (.slice a1 nb c1) ce1 (-1000) V16 (orow_keep row1 hb) mk1 hnb (by omega) (by omega)
  have S2 : Hid (∀ V16, Below V15.heap.size V15 V16 → Calls _ _ _ V16 _) := fun V16 hb => shows_yes 0 nb (.slice a2 nb c2) ce2 1000000 V16 (orow_keep row2 hb) mk2 hnb (by omega) (by omega)
  have hwn : IntKind.i64.wrap (((nb : Nat) : Int) + 1) = ((nb : Nat) : Int) + 1 := by rw [IntKind.wrap_i64]; omega
  obtain ⟨nm, hnm⟩ : ∃ nm, nm = nb + 1 := ⟨_, rfl⟩
  have hlt : ((nb : Nat) : Int) < ((nm : Nat) : Int) := by omega
  have hne : (((nm : Nat) : Int) != ((nb : Nat) : Int) + 1) = false := by rw [hnm]; simp
  simp only [← hnm]
  clear hnm
  have FA : Hid _ := And.intro za (And.intro zb (And.intro cx (And.intro l (And.intro sz (And.intro z9 (And.intro row1 (And.intro rl (And.intro rL rk))))))))
  clear za cx l sz z9 row1 rl rL rk row2 rm z15
  go_upto_region 25 with (first
    | (refine wpList_load_blk rfl 34 _ rfl n18 rfl #[.int .u16 pb, .int .i64 tb, .string sb, .int .i64 ib, .slice a3 nb c3, .int .i64 lob, .int .i64 hib] _ z18 Try.underlying34 rfl (by kernel_rfl) ?_)
    | (refine wpList_load_blk rfl 34 _ rfl (w.heap.size + 1) rfl #[.int .u16 pb, .int .i64 tb, .string sb, .int .i64 ib, .slice ob nb cb, .int .i64 lob, .int .i64 hib] _ zb Try.underlying34 rfl (by kernel_rfl) ?_)
    | (go_at_call 18; go_must (refine BL.out.mono ?_; rintro e V16 ⟨rfl, hb⟩; obtain ⟨⟨d9, d15⟩, d5, dm⟩ := KEEP.out V16 hb))
    | (go_at_call_of 24 (Value.slice a1 nb c1); go_must (refine (S1.out _ hb).mono ?_; rintro e V17 ⟨rfl, hw⟩; obtain rfl := hw.symm))
    | (go_at_call_of 24 (Value.slice a2 nb c2); go_must (refine (S2.out _ hb).mono ?_; rintro e V17 ⟨rfl, hw⟩; obtain rfl := hw.symm)))
  clear BL KEEP S1 S2 z18 zb row3 d9 d15 d5 dm
  obtain ⟨za, zb, cx, l, sz, z9, row1, rl, rL, rk⟩ := FA.out
  clear FA
  replace za := za.below za.lt hb
  replace zb := zb.below zb.lt hb
  replace cx := cx.on hb
  replace l := l.trans (hb.mono l.size)
  replace sz := Nat.le_trans sz hb.size
  replace row1 := orow_keep row1 hb
  replace rl := orow_keep rl hb
  replace rL := orow_keep rL hb
  replace rk := orow_keep rk hb
  replace z9 := z9.below z9.lt hb
  clear hb
  exact fresh25 pa ta sa ia loa hia oa na ca La pb tb sb ib lob hib ob nb cb Lb w ra LSA hna hsa hla rb LSB hnb hsb hlb Bs q ga kA m N n2 fc2 sla fa2 es2 xa xb hN1 hN2 hsla hslaN GB KB XX HSU hmb HN2 hn2a hn2b hwB hwp n9 c1 cl cL a1 al aL ce1 cetg1 ck ak cetg2 V16 rk tg2 za zb cx l sz z9 row1 mk1 rl tg1 rL _ _ _ _ _ _ _ _ _ _ _ _ _ _ _ _ _ _ _ _ _ _ _ _ _ _ _ _ _ _ _ _ _ _ _ _ _ _ _ _ _ _ _ _ _ _ _ _ _ _ _ _ _ _ _ _ _ _ _ _ _ _ _ _ _ _ _ _ _ _ _ _ _ _ _ _ _ _ _ _ _ _ _ _ _ _ _ _ _ _ _ _ _ _ _ _ _ _ _ _ _ _ _ _ _ _ _ _ _ _ _ _ _ _ _ _ _ _ _ _ _ _ _ _ _ _ _ _ _ _ _ _ _ _ _ _ _ _ _ _ _ _ _ _ _ _ _ _ _ _ _ _ _ _ _ _ _ _ _ _ _ _ _ _ _ _ _ _ _ _ _ _ _ _ _ _ _ _ _ _ _ _ _ _ _ _ _ _ _ _ _ _ (by assumption)
end Go.Proofs.Ytpnalcbpdejpjaa
