/-
  The law CacheFresh.
-/
import Derived.Test.YtpnalcbpdejpjaaXcFreB
set_option linter.unusedSimpArgs false
set_option linter.unusedVariables false
namespace Go.Proofs.Ytpnalcbpdejpjaa
open Go.RowKit Classical
set_option maxRecDepth 100000 in
set_option maxHeartbeats 16000000 in
theorem fresh_law (z : Int) (pa ta : Int) (sa : ByteArray) (ia loa hia : Int) (oa : Option Addr) (na ca : Nat) (La : List Mi) (pb tb : Int) (sb : ByteArray) (ib lob hib : Int) (ob : Option Addr) (nb cb : Nat) (Lb : List Mi) (w : World) (ra : 0 ≤ pa ∧ pa ≤ 65535) (lsa : Ls w oa na ca (mflat La)) (hna : na ≤ 2932031007317) (hsa : sa.size ≤ 140737488351232) (hla : La.length = na) (rb : 0 ≤ pb ∧ pb ≤ 65535) (lsb : Ls w ob nb cb (mflat Lb)) (hnb : nb ≤ 2932031007317) (hsb : sb.size ≤ 140737488351232) (hlb : Lb.length = nb) :
    Calls Try.prog 6 #[.int .i64 z, .agg #[.int .u16 pa, .int .i64 ta, .string sa, .int .i64 ia, .slice oa na ca, .int .i64 loa, .int .i64 hia], .agg #[.int .u16 pb, .int .i64 tb, .string sb, .int .i64 ib, .slice ob nb cb, .int .i64 lob, .int .i64 hib]] w fun e w' => e = .returned (.bool true) ∧ Below w.heap.size w w' := by
  have l : Below w.heap.size w ((w.alloc (.cells #[.int .u16 pa, .int .i64 ta, .string sa, .int .i64 ia, .slice oa na ca, .int .i64 loa, .int .i64 hia] 34)).alloc (.cells #[.int .u16 pb, .int .i64 tb, .string sb, .int .i64 ib, .slice ob nb cb, .int .i64 lob, .int .i64 hib] 34)) := ((Below.refl _ _).alloc (Nat.le_refl _) _).alloc (by simp) _
  have za : Blk ((w.alloc (.cells #[.int .u16 pa, .int .i64 ta, .string sa, .int .i64 ia, .slice oa na ca, .int .i64 loa, .int .i64 hia] 34)).alloc (.cells #[.int .u16 pb, .int .i64 tb, .string sb, .int .i64 ib, .slice ob nb cb, .int .i64 lob, .int .i64 hib] 34)) w.heap.size #[.int .u16 pa, .int .i64 ta, .string sa, .int .i64 ia, .slice oa na ca, .int .i64 loa, .int .i64 hia] 34 := (Blk.new w #[.int .u16 pa, .int .i64 ta, .string sa, .int .i64 ia, .slice oa na ca, .int .i64 loa, .int .i64 hia] 34).old _
  have zb : Blk ((w.alloc (.cells #[.int .u16 pa, .int .i64 ta, .string sa, .int .i64 ia, .slice oa na ca, .int .i64 loa, .int .i64 hia] 34)).alloc (.cells #[.int .u16 pb, .int .i64 tb, .string sb, .int .i64 ib, .slice ob nb cb, .int .i64 lob, .int .i64 hib] 34)) (w.heap.size + 1) #[.int .u16 pb, .int .i64 tb, .string sb, .int .i64 ib, .slice ob nb cb, .int .i64 lob, .int .i64 hib] 34 := by
    have := Blk.new (w.alloc (.cells #[.int .u16 pa, .int .i64 ta, .string sa, .int .i64 ia, .slice oa na ca, .int .i64 loa, .int .i64 hia] 34)) #[.int .u16 pb, .int .i64 tb, .string sb, .int .i64 ib, .slice ob nb cb, .int .i64 lob, .int .i64 hib] 34
    simpa using this
  have LSA : Hid (Ls w oa na ca (mflat La)) := lsa
  have LSB : Hid (Ls w ob nb cb (mflat Lb)) := lsb
  clear lsa lsb
  go_enter Try.func6, Try.ntmps6
  go_upto_region 2 with fail
  generalize ((w.alloc (.cells #[.int .u16 pa, .int .i64 ta, .string sa, .int .i64 ia, .slice oa na ca, .int .i64 loa, .int .i64 hia] 34)).alloc (.cells #[.int .u16 pb, .int .i64 tb, .string sb, .int .i64 ib, .slice ob nb cb, .int .i64 lob, .int .i64 hib] 34)) = V0 at *
  obtain ⟨N, hNz, hN1, hN2⟩ : ∃ N : Nat, wrap64 (1 + bits .and .i64 z 15) = (N : Int) ∧ 1 ≤ N ∧ N ≤ 16 := by
    rw [i64_and15]
    refine ⟨(1 + z % 16).toNat, ?_, by omega, by omega⟩
    unfold wrap64
    omega
  simp only [hNz]
  have NX : Hid (Calls Try.prog 11 #[.int .i64 ((N : Nat) : Int)] V0 _) := newX N hN1 (by omega) (fun _ _ => True) V0
  go_upto_region 5 with (go_at_call 11; go_must (refine NX.out.mono ?_; rintro e V1 ⟨q, ga, kA, m, rfl, cx, hb⟩))
  clear NX hNz
  obtain ⟨Bs, hBs⟩ : ∃ Bs, Bs = V0.heap.size := ⟨_, rfl⟩
  rw [← hBs] at cx
  have hwB : w.heap.size ≤ Bs := by rw [hBs]; exact l.size
  have sz : Bs ≤ V1.heap.size := by rw [hBs]; exact hb.size
  replace za := za.below za.lt hb
  replace zb := zb.below zb.lt hb
  replace l := l.trans (hb.mono l.size)
  clear hb hBs
  obtain ⟨sla, hsla, hslaN⟩ := slotN pa ta N hN1
  obtain ⟨slb, hslb, hslbN⟩ := slotN pb tb N hN1
  have PX : Hid (Calls _ _ _ V1 _) := putX Bs q ga kA m N 0 sla 0 0 (fun _ _ => True) none [] pa ta sa ia loa hia 100 oa na ca (mflat La) V1 cx (fun V fr => LSA.out.far cx l hwB fr) hna ra.1 ra.2 (by omega) hN1 (by omega) (by omega) (by omega) sz hsla hslaN
  go_upto_region 6 with (first
    | (refine wpList_load_blk rfl 34 _ rfl w.heap.size rfl #[.int .u16 pa, .int .i64 ta, .string sa, .int .i64 ia, .slice oa na ca, .int .i64 loa, .int .i64 hia] _ za Try.underlying34 rfl (by kernel_rfl) ?_)
    | (go_at_call 12; go_must (refine PX.out.mono ?_; rintro e V2 ⟨es1, rr1, RK1, xa, rfl, hxa, hR1, ⟨fa1, n1, fc1, cx1, cb1⟩, fr1⟩)))
  clear PX
  replace za := cx.blkK fr1 za (by decide) (by decide) (by decide)
  replace zb := cx.blkK fr1 zb (by decide) (by decide) (by decide)
  replace l := l.trans (fr1.below (fun k hk => by have := (cx.blk (.inl hk)).1; omega) l.size)
  replace sz := Nat.le_trans sz fr1.size
  obtain rfl := put_first hR1
  clear cx cb1 hR1 fr1
  have cx : Cx Bs q ga kA m N 2 (fun _ _ => True) fa1 n1 fc1 [xa] V2 := cx1.mono (fun _ _ _ _ => trivial)
  have hn1 : n1 = 1 := cx1.length
  clear cx1
  have c2 : V2.cell? ⟨w.heap.size, 2, none⟩ = some (.string sa) := za.cell 2
  have hwp : IntKind.i64.wrap (100 + ((sa.size : Nat) : Int)) = 100 + ((sa.size : Nat) : Int) := by rw [IntKind.wrap_i64]; omega
  have PX : Hid (Calls _ _ _ V2 _) := putX Bs q ga kA m N 2 slb n1 fc1 (fun _ _ => True) fa1 [xa] pb tb sb ib lob hib (100 + ((sa.size : Nat) : Int)) ob nb cb (mflat Lb) V2 cx (fun V fr => LSB.out.far cx l hwB fr) hnb rb.1 rb.2 (by omega) hN1 (by omega) (by omega) (by omega) sz hslb hslbN
  go_upto_region 7 with (first
    | (refine wpList_load_blk rfl 34 _ rfl (w.heap.size + 1) rfl #[.int .u16 pb, .int .i64 tb, .string sb, .int .i64 ib, .slice ob nb cb, .int .i64 lob, .int .i64 hib] _ zb Try.underlying34 rfl (by kernel_rfl) ?_)
    | (go_at_call 12; go_must (refine PX.out.mono ?_; rintro e V3 ⟨es2, rr2, RK2, xb, rfl, hxb, hR2, ⟨fa2, n2, fc2, cx2, cb2⟩, fr2⟩)))
  clear PX c2
  replace za := cx.blkK fr2 za (by decide) (by decide) (by decide)
  replace zb := cx.blkK fr2 zb (by decide) (by decide) (by decide)
  replace l := l.trans (fr2.below (fun k hk => by have := (cx.blk (.inl hk)).1; omega) l.size)
  replace sz := Nat.le_trans sz fr2.size
  obtain ⟨cx3, hmb, hsub, hlen2⟩ := put_b cx2 hR2
  clear cx cx2 cb2 hR2 fr2 hn1
  have cx := cx3
  clear cx3
  have HN2 : Hid (n2 = es2.length) := cx.length
  have hn2a : n2 ≤ 2 := by have := HN2.out; have h9 : es2.length ≤ 2 := hlen2; omega
  have hn2b : 1 ≤ n2 := by have := HN2.out; have h9 := List.length_pos_of_mem hmb; omega
  obtain ⟨e1, e2, e3, e4, e5, e6, e7, e8, e9, -⟩ := hxb
  have GB : Hid (∀ V, Cx Bs q ga kA m N 4 (PhB xb (mflat Lb)) fa2 n2 fc2 es2 V → Calls Try.prog 13 #[.pointer (some ⟨q, 0, none⟩), .agg #[.int .u16 pb, .int .i64 tb]] V fun e V' => ∃ a' c', e = .returned (.tuple #[.agg #[.int .u16 pb, .int .i64 tb, .string sb, .int .i64 ib, .slice a' nb c', .int .i64 lob, .int .i64 hib], .bool true]) ∧ V'.ownsRow V.heap.size 54 7 (.slice a' nb c') nb (mflat Lb) ∧ Below V.heap.size V V') := fun V h => by
    have := get_b Bs q ga kA m N 4 n2 fc2 fa2 es2 xb (mflat Lb) V h hmb hN1 (by omega) (by omega)
    rw [e1, e2, e3, e4, e5, e6, e7] at this
    exact this
  have KB : Hid (∀ V, Calls _ _ _ V _) := fun V => key_any pb tb sb ib lob hib (.slice ob nb cb) V rfl
  have XX : Hid ((xb.pc = pb ∧ xb.tag = tb) ∧ xb.f = spF (100 + ((sa.size : Nat) : Int)) ∧ xb.sz = spN (100 + ((sa.size : Nat) : Int)) (sb.size : Nat) ∧ xa.f = spF 100 ∧ xa.sz = spN 100 (sa.size : Nat)) := ⟨⟨e1, e2⟩, e8, e9, hxa.2.2.2.2.2.2.2.1, hxa.2.2.2.2.2.2.2.2.1⟩
  have HSU : Hid (∀ e ∈ es2, e ∈ [xa] ∨ e = xb) := hsub
  clear e1 e2 e3 e4 e5 e6 e7 e8 e9 hxa hlen2 hsub
  have OLD : Hid _ := And.intro za (And.intro zb (And.intro cx (And.intro l sz)))
  go_upto_region 8 with (first
    | (refine wpList_load_blk rfl 34 _ rfl (w.heap.size + 1) rfl #[.int .u16 pb, .int .i64 tb, .string sb, .int .i64 ib, .slice ob nb cb, .int .i64 lob, .int .i64 hib] _ zb Try.underlying34 rfl (by kernel_rfl) ?_)
    | (go_at_call 14; go_must (refine (KB.out _).mono ?_; rintro e U1 ⟨rfl, hb4⟩))
    | (go_at_call 13; go_must (refine (GB.out _ (cx.on hb4)).mono ?_; rintro e U2 ⟨a1, c1, rfl, row1, hb5⟩)))
  have hbg : Below V3.heap.size V3 (U2.alloc (.cells #[.int .u16 pb, .int .i64 tb, .string sb, .int .i64 ib, .slice a1 nb c1, .int .i64 lob, .int .i64 hib] 34)) := (hb4.trans (hb5.mono hb4.size)).alloc (Nat.le_trans hb4.size hb5.size) _
  replace row1 := orow_lower (orow_keep row1 ((Below.refl _ _).alloc (Nat.le_refl _) (.cells #[.int .u16 pb, .int .i64 tb, .string sb, .int .i64 ib, .slice a1 nb c1, .int .i64 lob, .int .i64 hib] 34))) hb4.size
  have z9 : Blk (U2.alloc (.cells #[.int .u16 pb, .int .i64 tb, .string sb, .int .i64 ib, .slice a1 nb c1, .int .i64 lob, .int .i64 hib] 34)) U2.heap.size #[.int .u16 pb, .int .i64 tb, .string sb, .int .i64 ib, .slice a1 nb c1, .int .i64 lob, .int .i64 hib] 34 := Blk.new U2 _ _
  generalize U2.alloc (.cells #[.int .u16 pb, .int .i64 tb, .string sb, .int .i64 ib, .slice a1 nb c1, .int .i64 lob, .int .i64 hib] 34) = V4 at *
  obtain ⟨n9, hn9⟩ : ∃ b, b = U2.heap.size := ⟨_, rfl⟩
  rw [← hn9] at z9
  simp only [← hn9]
  clear hb4 hb5 hn9
  replace za := za.below za.lt hbg
  replace zb := zb.below zb.lt hbg
  replace cx := cx.on hbg
  replace l := l.trans (hbg.mono l.size)
  replace sz := Nat.le_trans sz hbg.size
  have BL : Hid (Calls _ _ _ V4 _) := blocks_yes pb tb sb ib lob hib Lb nb c1 cb a1 ob V4 hlb hnb (RowM.of (Ls.of_row row1 (mflat_one Lb))) (RowM.of (LSB.out.on l))
  go_upto_region 10 with (first
    | (refine wpList_loadW (by kernel_rfl) 34 _ rfl n9 rfl #[.int .u16 pb, .int .i64 tb, .string sb, .int .i64 ib, .slice a1 nb c1, .int .i64 lob, .int .i64 hib] _ z9 Try.underlying34 rfl (by kernel_rfl) ?_)
    | (refine wpList_loadW (by kernel_rfl) 34 _ rfl (w.heap.size + 1) rfl #[.int .u16 pb, .int .i64 tb, .string sb, .int .i64 ib, .slice ob nb cb, .int .i64 lob, .int .i64 hib] _ zb Try.underlying34 rfl (by kernel_rfl) ?_)
    | (go_at_call 18; go_must (refine BL.out.mono ?_; rintro e V5 ⟨rfl, hb⟩)))
  clear BL
  replace za := za.below za.lt hb
  replace zb := zb.below zb.lt hb
  replace cx := cx.on hb
  replace l := l.trans (hb.mono l.size)
  replace sz := Nat.le_trans sz hb.size
  replace row1 := orow_keep row1 hb
  replace z9 := z9.below z9.lt hb
  replace hbg := hbg.trans (hb.mono hbg.size)
  clear hb
  have c4 : V5.cell? ⟨n9, 4, none⟩ = some (.slice a1 nb c1) := z9.cell 4
  have MA : Hid (Calls _ _ _ V5 _) := marked_any _ nb (.slice a1 nb c1) (mflat Lb) (-1000) V5 row1 hnb (by omega) (by omega)
  go_upto_region 11 with (go_at_call 22; go_must (refine MA.out.mono ?_; rintro e V6 ⟨rfl, ⟨ce1, row1', mk1⟩, fr⟩))
  clear MA c4
  replace z9 := fr.blk z9 (fun e => orow_type row1 z9 (by decide) e)
  replace hbg := hbg.trans (own_fr fr (fun k hk => (orow_own row1 hk).1) hbg.size)
  clear row1 za zb cx l sz
  obtain ⟨za, zb, cx, l, sz⟩ := OLD.out
  clear OLD
  have c4 : V6.cell? ⟨n9, 4, none⟩ = some (.slice a1 nb c1) := z9.cell 4
  have hbs := hbg.size
  go_upto_region 12 with (refine wpList_appMicO rfl _ _ rfl (cs := #[.int .u8 0, .int .i64 0, .int .i64 0, .int .u16 0, .int .u8 0, .int .i64 0, .int .i64 (-77)]) row1' hbs rfl rfl rfl (List.all_eq_true.1 (show (#[.int .u8 0, .int .i64 0, .int .i64 0, .int .u16 0, .int .u8 0, .int .i64 0, .int .i64 (-77)] : Array Value).toList.all (·.oneCell') = true from rfl)) hnb ?_; intro vm V7 rm r1 hk7 hb7)
  clear c4
  replace z9 : Blk V7 n9 #[.int .u16 pb, .int .i64 tb, .string sb, .int .i64 ib, .slice a1 nb c1, .int .i64 lob, .int .i64 hib] 34 := (hk7 _ z9.lt (fun e => orow_type row1' z9 (by decide) e)).trans z9
  replace hbg := hbg.trans hb7
  replace za := za.below za.lt hbg
  replace zb := zb.below zb.lt hbg
  replace cx := cx.on hbg
  replace l := l.trans (hbg.mono l.size)
  replace sz := Nat.le_trans sz hbg.size
  have row1 := orow_lower r1 (Nat.zero_le _)
  replace rm := orow_lower rm (Nat.zero_le _)
  obtain ⟨am, cm, rfl, -⟩ := orow_form rm
  clear hbg hbs row1' r1 hk7 hb7
  have KX : Hid (Calls _ _ _ V7 _) := keysX Bs q ga kA m N 4 n2 fc2 (PhB xb (mflat Lb)) fa2 es2 V7 cx (by omega)
  go_upto_region 13 with (go_at_call 16; go_must (refine KX.out.mono ?_; rintro e U3 ⟨vl, ll, rfl, -, -, rl, hbl⟩))
  obtain ⟨al, cl, rfl, -⟩ := orow_form rl
  clear KX
  have TA : Hid (Calls _ _ _ U3 _) := tagged_any _ n2 (.slice al n2 cl) (pk ll) (-5000) U3 rl (by omega)
  go_upto_region 15 with (go_at_call 23; go_must (refine TA.out.mono ?_; rintro e V9 ⟨rfl, ⟨cetg1, rl', tg1⟩, fr⟩))
  replace hbl := hbl.trans (own_fr fr (fun k hk => (orow_own rl hk).1) hbl.size)
  clear TA fr rl
  have hbs := hbl.size
  go_upto_region 16 with (refine wpList_appKeyO rfl _ _ rfl (cs := #[.int .u16 0, .int .i64 (-6000)]) rl' hbs rfl rfl rfl (List.all_eq_true.1 (show (#[.int .u16 0, .int .i64 (-6000)] : Array Value).toList.all (·.oneCell') = true from rfl)) (by omega) ?_; intro vL V10 rL rl hk10 hb10)
  replace hbl := hbl.trans hb10
  replace za := za.below za.lt hbl
  replace zb := zb.below zb.lt hbl
  replace cx := cx.on hbl
  replace l := l.trans (hbl.mono l.size)
  replace sz := Nat.le_trans sz hbl.size
  replace row1 := orow_keep row1 hbl
  replace rm := orow_keep rm hbl
  replace z9 := z9.below z9.lt hbl
  replace rl := orow_lower rl (Nat.zero_le _)
  replace rL := orow_lower rL (Nat.zero_le _)
  obtain ⟨aL, cL, rfl, -⟩ := orow_form rL
  clear hbl hbs rl' hk10 hb10
  exact fresh16 pa ta sa ia loa hia oa na ca La pb tb sb ib lob hib ob nb cb Lb w ra LSA hna hsa hla rb LSB hnb hsb hlb Bs q ga kA m N n2 fc2 sla fa2 es2 xa xb hN1 hN2 hsla hslaN GB KB XX HSU hmb HN2 hn2a hn2b hwB hwp n9 c1 cl cL a1 al aL ce1 cetg1 cm am V10 rm za zb cx l sz z9 row1 mk1 rl tg1 rL _ _ _ _ _ _ _ _ _ _ _ _ _ _ _ _ _ _ _ _ _ _ _ _ _ _ _ _ _ _ _ _ _ _ _ _ _ _ _ _ _ _ _ _ _ _ _ _ _ _ _ _ _ _ _ _ _ _ _ _ _ _ _ _ _ _ _ _ _ _ _ _ _ _ _ _ _ _ _ _ _ _ _ _ _ _ _ _ _ _ _ _ _ _ _ _ _ _ _ _ _ _ _ _ _ _ _ _ _ _ _ _ _ _ _ _ _ _ _ _ _ _ _ _ _ _ _ _ _ _ _ _ _ _ _ _ _ _ _ _ _ _ _ _ _ _ _ _ _ _ _ _ _ _ _ _ _ _ _ _ _ _ _ _ _ _ _ _ _ _ _ _ _ _ _ _ _ _ _ _ _ _ _ _ _ _ _ _ _ _ _ _ (by assumption)
end Go.Proofs.Ytpnalcbpdejpjaa
