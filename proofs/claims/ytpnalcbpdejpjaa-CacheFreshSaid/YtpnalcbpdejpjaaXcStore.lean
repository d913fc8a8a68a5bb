/-
  Store over the entries.
-/
import Derived.Test.YtpnalcbpdejpjaaXcHas
import Derived.Test.YtpnalcbpdejpjaaXcNewM
set_option linter.unusedSimpArgs false
set_option linter.unusedVariables false
namespace Go.Proofs.Ytpnalcbpdejpjaa
open Go.RowKit Classical
theorem CaS.eq (q ga m : Nat) (fa : Option Addr) (n n' fc fc' : Nat) : CaS q ga m (.slice fa n fc) = CaS q ga m (.slice fa n' fc') := by cases fa <;> rfl
theorem newX (N : Nat) (h1 : 1 ≤ N) (h2 : N ≤ 65536) (Φ : En → List Value → Prop) (w : World) : Calls Try.prog 11 #[.int .i64 (N : Nat)] w fun e w' => ∃ q ga kA m, e = .returned (.tuple #[.pointer (some ⟨q, 0, none⟩), .int .i64 0]) ∧ Cx w.heap.size q ga kA m N 0 Φ none 0 0 [] w' ∧ Below w.heap.size w w' := by
  refine (new_any N h1 h2 w).mono ?_
  intro e w' hnew
  obtain ⟨q, v, m, rfl, zq, ra, hm, hrest⟩ := hnew
  obtain ⟨g, kA, rfl⟩ := orow_some ra (by omega)
  exact ⟨q, g, kA, m, rfl, ⟨0, List.replicate N 0, fun _ => 0, ⟨zq, by rw [ints_zero]; exact ra, World.ownsRow_nil _ _ 113 12, Mk.empty hm, Cv.none N, hrest.2.1, hrest.1⟩, by omega, fun p => rfl, fun e h => by simp at h⟩, hrest.2.2⟩
theorem dropX (base q ga kA m N t n fc : Nat) (Φ : En → List Value → Prop) (fa : Option Addr) (es : List En) (y : En) (w : World) (H : Cx base q ga kA m N t Φ fa n fc es w) (hm : y ∈ es) (hN : N ≤ 65536) (hn : n ≤ 60000) (ht : t ≤ 240) :
    Calls Try.prog 37 #[.pointer (some ⟨q, 0, none⟩), .int .i64 ((y.slot : Nat) : Int)] w fun e w' => e = .returned (.tuple #[.agg y.key, .bool true]) ∧ (∃ r n', (r ++ [y]).Perm es ∧ Cx base q ga kA m N (t + 1) Φ fa n' fc r w') ∧ Fr (CaS q ga m (.slice fa n fc)) w w' := by
  obtain ⟨k, A, cnt, ca, hk, hc0, he⟩ := H
  obtain ⟨hne, hf, ho⟩ := ca.row
  obtain ⟨i, hy⟩ := List.mem_iff_getElem?.1 hm
  have hA := (ca.v.e i y hy).2
  obtain ⟨p, hp⟩ : ∃ p, es.length = p + 1 := ⟨es.length - 1, by have := (List.getElem?_eq_some_iff.1 hy).1; omega⟩
  obtain ⟨l, hl⟩ : ∃ l, es[p]? = some l := ⟨_, List.getElem?_eq_getElem (by omega)⟩
  obtain rfl : n = p + 1 := by omega
  obtain ⟨fg, rfl⟩ : ∃ fg, fa = some ⟨fg, 0, none⟩ := by
    cases fa with
    | none => have := (orow_none hf).1; omega
    | some ad => obtain ⟨g, rfl⟩ := orow_where hf; exact ⟨g, rfl⟩
  have hey := (he y hm).1
  have hpy := pg_far hey.f0 hey.s0 hey.s1
  have hpm := take_perm hy hp hl
  refine (drop_some base q ga kA m k N y.slot i p fg fc A es cnt y l w ca hA hy hl hN hp (by omega) hey.f0 hey.f1 hey.s0 hey.s1 (by omega) (fun x => by rw [hc0 x]; have := cvr_near es x; omega)).mono ?_
  rintro e w' ⟨rfl, ⟨k3, hk3, ca3⟩, fr⟩
  have fr' : Fr (CaS q ga m (.slice (some ⟨fg, 0, none⟩) (p + 1) fc)) w w' := fr
  refine ⟨rfl, ⟨(es.set i l).take p, p, hpm, ⟨k3, _, _, ca3, by omega, fun c => ?_, fun e hm2 => ?_⟩⟩, fr'⟩
  · rw [cvr_take hy hp hl]; exact addP_congr hc0 _ _ _ _
  · have h2 : e ∈ es := hpm.mem_iff.1 (List.mem_append.2 (.inl hm2))
    obtain ⟨g1, cs, g2, g3⟩ := he e h2
    exact ⟨g1, cs, ⟨ca.orow fr' g2.1, g2.2⟩, g3⟩
/-- A list of keys stays when the cache changes. -/
theorem Cx.orowK {base q ga kA m N t n fc B n' : Nat} {Φ : En → List Value → Prop} {fa : Option Addr} {es : List En} {w v : World} {x : Value} {cells : List Value} (H : Cx base q ga kA m N t Φ fa n fc es w) (g : Fr (CaS q ga m (.slice fa n fc)) w v) (r : w.ownsRow B 24 2 x n' cells) : v.ownsRow B 24 2 x n' cells := g.orow r (fun b c e => by
  subst e
  obtain ⟨k, A, cnt, ca, -⟩ := H
  obtain ⟨-, hf, ho⟩ := ca.row
  rintro (rfl | rfl | rfl | hb)
  · exact orow_blk r ca.b (by decide) rfl
  · exact orow_apart r ca.a (by decide) rfl
  · exact ca.mr.row r rfl
  · have e1 := ho _ hb
    rw [e1] at hf
    exact orow_apart r hf (by decide) rfl)
theorem Cx.blkK {base q ga kA m N t n fc b : Nat} {Φ : En → List Value → Prop} {fa : Option Addr} {es : List En} {w v : World} {cs : Array Value} {T : TypeId} (H : Cx base q ga kA m N t Φ fa n fc es w) (g : Fr (CaS q ga m (.slice fa n fc)) w v) (z : Blk w b cs T) (h1 : 88 ≠ T) (h2 : 3 ≠ T) (h3 : 113 ≠ T) : Blk v b cs T := by
  obtain ⟨k', A, cnt, ca, -⟩ := H
  obtain ⟨-, hf, ho⟩ := ca.row
  refine g.blk z ?_
  rintro (rfl | rfl | rfl | e)
  · have h := ca.b
    unfold Blk at h z
    rw [z] at h
    simp at h
    exact h1 h.2.symm
  · exact orow_blk ca.a z h2 rfl
  · exact ca.mr.apart z rfl
  · exact orow_type hf z h3 e
theorem filter_perm (p : En → Bool) : ∀ l : List En, l.Perm (l.filter p ++ l.filter (fun e => !p e))
  | [] => .refl _
  | x :: l => by
    cases h : p x with
    | true =>
      rw [List.filter_cons_of_pos h, List.filter_cons_of_neg (by simp [h])]
      exact (filter_perm p l).cons x
    | false =>
      rw [List.filter_cons_of_neg (by simp [h]), List.filter_cons_of_pos (by simp [h])]
      exact ((filter_perm p l).cons x).trans List.perm_middle.symm
set_option maxRecDepth 100000 in
set_option maxHeartbeats 4000000 in
theorem storeX (base q ga kA m N t n fc : Nat) (Φ : En → List Value → Prop) (fa : Option Addr) (es : List En) (p : Int) (w : World) (H : Cx base q ga kA m N t Φ fa n fc es w) (hN0 : 1 ≤ N) (hN : N ≤ 65536) (hn : n ≤ 60000) (ht : t + es.length ≤ 240) (p0 : -9223372036854775808 ≤ p) (p1 : p ≤ 9223372036854775807) :
    Calls Try.prog 19 #[.pointer (some ⟨q, 0, none⟩), .int .i64 p] w fun e w' => ∃ v l' es' n', e = .returned v ∧ l'.Perm ((es.filter (hasE p)).map pr) ∧ Rise l' ∧ w'.ownsRow w.heap.size 24 2 v l'.length (pk l') ∧ es'.Perm (es.filter (fun e => !hasE p e)) ∧ Cx base q ga kA m N (t + es.length) Φ fa n' fc es' w' ∧ (∀ k, Cbl q ga m fa n' fc es' k → Cbl q ga m fa n fc es k) ∧ Fr (CaS q ga m (.slice fa n fc)) w w' := by
  have hb0 : Below w.heap.size w (w.alloc (.cells #[.int .i64 p] 3)) := (Below.refl _ _).alloc (Nat.le_refl _) _
  have H0 : Cx base q ga kA m N t Φ fa n fc es (w.alloc (.cells #[.int .i64 p] 3)) := H.on hb0
  have zp : Blk (w.alloc (.cells #[.int .i64 p] 3)) w.heap.size #[.int .i64 p] 3 := Blk.new w _ _
  have HW : Hid (Cx base q ga kA m N t Φ fa n fc es w) := H
  have hne := H.length
  have hnd := H.nodup
  have HEG := H.eg
  have PG : Hid (∀ W, Calls _ _ _ W _) := fun W => pageOf_any p W
  have MK : Hid (Calls Try.prog 20 #[.pointer (some ⟨q, 0, none⟩), .int .i64 (p / 256)] (w.alloc (.cells #[.int .i64 p] 3)) fun e w' => e = .returned (.bool (decide (0 < cvr es (p / 256)))) ∧ w' = (w.alloc (.cells #[.int .i64 p] 3))) := by
    obtain ⟨k, A, cnt, ca, h1, h2, h3⟩ := H0
    have := mark_any q m k cnt (p / 256) _ (ca.b.cell 2) ca.mr (by omega) (by omega)
    rw [h2] at this
    exact this
  have SK : Hid (Calls Try.prog 45 #[.pointer (some ⟨q, 0, none⟩), .func (.func 48) #[] #[.pointer (some ⟨w.heap.size, 0, none⟩)]] (w.alloc (.cells #[.int .i64 p] 3)) fun e w' => ∃ v, e = .returned v ∧ w'.ownsRow ((w.alloc (.cells #[.int .i64 p] 3))).heap.size 24 2 v (es.filter (hasE p)).length (kflat (es.filter (hasE p))) ∧ Below ((w.alloc (.cells #[.int .i64 p] 3))).heap.size (w.alloc (.cells #[.int .i64 p] 3)) w') := by
    obtain ⟨k, A, cnt, ca, h1, h2, h3⟩ := H0
    exact skeys_has base q ga kA m k N n fc w.heap.size fa A es cnt p _ ca (zp.cell 0) (fun e he => ⟨(HEG e he).1.f0, (HEG e he).1.f1⟩) p0 p1 (by omega)
  have cp : ((w.alloc (.cells #[.int .i64 p] 3))).cell? ⟨w.heap.size, 0, none⟩ = some (.int .i64 p) := zp.cell 0
  have HEG' : Hid (∀ e ∈ es, Eg N e) := fun e he => (HEG e he).1
  have HND : Hid ((es.map pr).Nodup) := hnd
  clear H HEG hnd zp
  go_enter Try.func19, Try.ntmps19
  go_upto_region 1 with fail
  generalize hAL : (w.alloc (.cells #[.int .i64 p] 3)) = W0 at *
  by_cases hmk : 0 < cvr es (p / 256)
  · rw [decide_eq_true hmk] at MK
    go_upto_region 3 with (first
      | (go_at_call 47; go_must (refine (PG.out _).mono ?_; rintro e W1 ⟨rfl, hw⟩; obtain rfl := hw.symm))
      | (go_at_call 20; go_must (refine MK.out.mono ?_; rintro e W1 ⟨rfl, hw⟩; obtain rfl := hw.symm)))
    clear MK PG cp
    go_upto_region 4 with (go_at_call 45; go_must (refine SK.out.mono ?_; rintro e W2 ⟨v0, rfl, row0, b2⟩))
    clear SK
    obtain ⟨ad, c0, rfl, -⟩ := orow_form row0
    have fr0 : Fr (CaS q ga m (.slice fa n fc)) w W2 := Fr.of_below (hb0.trans (b2.mono hb0.size))
    have row1 : W2.ownsRow w.heap.size 24 2 (.slice ad (es.filter (hasE p)).length c0) (es.filter (hasE p)).length (kflat (es.filter (hasE p))) := orow_lower row0 hb0.size
    have H2 : Cx base q ga kA m N t Φ fa n fc es W2 := H0.on b2
    clear row0 H0 b2 hb0 hAL
    obtain ⟨d, hd⟩ : ∃ d, d = (es.filter (hasE p)).length := ⟨_, rfl⟩
    simp only [← hd] at row1 ⊢
    have hdn : d ≤ es.length := by rw [hd]; exact List.length_filter_le _ _
    have HD : Hid (d = (es.filter (hasE p)).length) := hd
    clear hd
    go_upto_region 5 with fail
    go_loopw [20] (fun i wr => ∃ j : Nat, j ≤ d ∧ i = .int .i64 ((j : Nat) : Int) ∧ wr.ownsRow w.heap.size 24 2 (.slice ad d c0) d (kflat (es.filter (hasE p))) ∧ Fr (CaS q ga m (.slice fa n fc)) w wr ∧ ∃ r n', r.Perm ((es.filter (hasE p)).drop j ++ (es.filter (fun e => !hasE p e))) ∧ Cx base q ga kA m N (t + j) Φ fa n' fc r wr) (fun i _ => ((d : Int) - intOf i).toNat)
    case atStart => exact ⟨0, by omega, rfl, row1, fr0, es, n, by rw [List.drop_zero]; exact filter_perm _ es, H2⟩
    case round =>
      obtain ⟨j, hj, rfl, row, fr, r, n', hpm, hcx⟩ := hrel
      clear row1 fr0 H2
      by_cases hlt : j < d
      · obtain ⟨x, hx⟩ : ∃ x, (es.filter (hasE p))[j]? = some x := ⟨_, List.getElem?_eq_getElem (by have := HD.out; omega)⟩
        obtain ⟨g, rfl⟩ : ∃ g, ad = some ⟨g, 0, none⟩ := by
          cases ad with
          | none => have := (orow_none row).1; omega
          | some ad => obtain ⟨g, rfl⟩ := orow_where row; exact ⟨g, rfl⟩
        have hdr : (es.filter (hasE p)).drop j = x :: (es.filter (hasE p)).drop (j + 1) := by
          have h4 := (List.getElem?_eq_some_iff.1 hx).1
          rw [List.drop_eq_getElem_cons h4]
          congr 1
          exact (List.getElem?_eq_some_iff.1 hx).2
        have hxm : x ∈ r := hpm.mem_iff.2 (by rw [hdr]; simp)
        have hxe := HEG'.out x (List.mem_filter.1 (List.mem_of_getElem? hx)).1
        have RX : Hid (wr.rangeAt g (j * 2) (#[.int .u16 x.pc, .int .i64 x.tag] : Array Value).toList) := fun c v hv => by
          have hc2 : c < 2 := (List.getElem?_eq_some_iff.1 hv).1
          have h1 := orow_cell row (j * 2 + c) (by omega)
          rw [kflat_at (es.filter (hasE p)) j x hx c hc2] at h1
          rw [h1, ← hv]
          simp [En.key]
        have hji : (j : Int) < (d : Int) := by omega
        have CZ : Hid (∀ v, Cx base q ga kA m N (t + j) Φ fa n' fc r v → Calls Try.prog 36 #[.pointer (some ⟨q, 0, none⟩)] v fun e w' => e = .returned (.int .i64 ((N : Nat) : Int)) ∧ w' = v) := fun v h => by
          obtain ⟨k, A, cnt, ca, -⟩ := h
          exact csize_any q N _ _ v (ca.b.cell 0)
        have CS2 : Hid (∀ v, Calls Try.prog 9 #[.agg #[.int .u16 x.pc, .int .i64 x.tag], .int .i64 ((N : Nat) : Int)] v fun e w' => e = .returned (.int .i64 ((x.slot : Nat) : Int)) ∧ Below v.heap.size v w') := fun v => by rw [← hxe.sl]; exact slot_any x.pc x.tag N v hxe.p0 hxe.p1 (by omega) (by omega)
        have hrl : r.length ≤ es.length := by
          rw [hpm.length_eq, List.length_append, List.length_drop]
          have := (filter_perm (hasE p) es).length_eq
          rw [List.length_append] at this
          omega
        have hnl := hcx.length
        have CD : Hid (∀ v, Cx base q ga kA m N (t + j) Φ fa n' fc r v → Calls _ _ _ v _) := fun v h => dropX base q ga kA m N (t + j) n' fc Φ fa r x v h hxm hN (by omega) (by omega)
        have HRW : Hid (wr.ownsRow w.heap.size 24 2 (.slice (some ⟨g, 0, none⟩) d c0) d (kflat (es.filter (hasE p))) ∧ Fr (CaS q ga m (.slice fa n fc)) w wr) := ⟨row, fr⟩
        have HPM : Hid (∀ r', (r' ++ [x]).Perm r → r'.Perm ((es.filter (hasE p)).drop (j + 1) ++ (es.filter (fun e => !hasE p e)))) := fun r' h => by
          have h1 := h.trans hpm
          rw [hdr] at h1
          exact List.Perm.cons_inv ((List.perm_append_comm (l₁ := [x]) (l₂ := r')).trans h1)
        clear hx hdr row fr hpm hxe
        go_upto_region 7 with (refine wpList_load_mid rfl 24 _ rfl g (j * 2) rfl (#[.int .u16 x.pc, .int .i64 x.tag] : Array Value).toList _ RX.out Try.underlying24 rfl (by kernel_rfl) ?_; rw [Array.toArray_toList])
        have hb1 : Below wr.heap.size wr (wr.alloc (.cells #[.int .u16 x.pc, .int .i64 x.tag] 24)) := (Below.refl _ _).alloc (Nat.le_refl _) _
        have z1 : Blk (wr.alloc (.cells #[.int .u16 x.pc, .int .i64 x.tag] 24)) wr.heap.size #[.int .u16 x.pc, .int .i64 x.tag] 24 := Blk.new wr _ _
        have HB1 : Hid (Below wr.heap.size wr (wr.alloc (.cells #[.int .u16 x.pc, .int .i64 x.tag] 24))) := hb1
        generalize wr.alloc (.cells #[.int .u16 x.pc, .int .i64 x.tag] 24) = W3 at *
        obtain ⟨kb, hkb⟩ : ∃ kb, kb = wr.heap.size := ⟨_, rfl⟩
        rw [← hkb] at z1
        simp only [← hkb]
        have h3 : Cx base q ga kA m N (t + j) Φ fa n' fc r W3.drew := (hcx.on hb1).on (Below.refl _ _).drew
        have z3 : Blk W3.drew kb #[.int .u16 x.pc, .int .i64 x.tag] 24 := z1.drew
        clear hb1
        refine wp_region_held (S := fun v => Blk v kb #[.int .u16 x.pc, .int .i64 x.tag] 24) (by kernel_rfl) ?_
        refine takeH (i := 0) (v := .pointer (some ⟨q, 0, none⟩)) _ rfl (by kernel_rfl) (by kernel_rfl) (by kernel_rfl) (fun _ _ _ h => h) (.inl ⟨by kernel_rfl, fun _ _ => by kernel_rfl⟩) z3 rfl ?_
        refine takeH (i := 1) (v := .agg (#[.int .u16 x.pc, .int .i64 x.tag] : Array Value).toList.toArray) _ rfl (by kernel_rfl) (by kernel_rfl) (by kernel_rfl) (fun _ _ _ h => h) (.inl ⟨by kernel_rfl, fun v hv => exec_loadM (cs := (#[.int .u16 x.pc, .int .i64 x.tag] : Array Value).toList) rfl (by kernel_rfl) hv.range' Try.underlying24 rfl (by kernel_rfl)⟩) z3 rfl ?_
        refine takeH (i := 2) (v := .pointer (some ⟨q, 0, none⟩)) _ rfl (by kernel_rfl) (by kernel_rfl) (by kernel_rfl) (fun _ _ _ h => h) (.inl ⟨by kernel_rfl, fun _ _ => by kernel_rfl⟩) z3 rfl ?_
        refine callH (i := 3) (f := 36) (v := .int .i64 ((N : Nat) : Int)) _ (by kernel_rfl) rfl (by kernel_rfl) (by kernel_rfl) (CZ.out _ h3) rfl ?_
        rintro _ rfl
        refine ⟨z3, ?_⟩
        refine callH (i := 4) (f := 9) (v := .int .i64 ((x.slot : Nat) : Int)) _ (by kernel_rfl) rfl (by kernel_rfl) (by kernel_rfl) (CS2.out _) rfl ?_
        intro V1 hV1
        have z4 := z3.below z3.lt hV1
        have h4 := h3.on hV1
        refine ⟨z4, ?_⟩
        refine callH (i := 5) (f := 37) (v := .tuple #[.agg x.key, .bool true]) _ (by kernel_rfl) rfl (by kernel_rfl) (by kernel_rfl) (CD.out _ h4) rfl ?_
        rintro V2 ⟨⟨r2, n2, hp2, hc2⟩, fr2⟩
        refine ⟨h4.blkK fr2 z4 (by decide) (by decide) (by decide), ?_⟩
        refine wpAnyH_done (by kernel_rfl) ?_ _
        have hrw : W3.ownsRow w.heap.size 24 2 (.slice (some ⟨g, 0, none⟩) d c0) d (kflat (es.filter (hasE p))) := orow_keep HRW.out.1 HB1.out
        have hrV : V1.ownsRow w.heap.size 24 2 (.slice (some ⟨g, 0, none⟩) d c0) d (kflat (es.filter (hasE p))) := orow_keep (orow_keep hrw (Below.refl _ _).drew) hV1
        have hr5 := h4.orowK fr2 hrV
        have fr5 : Fr (CaS q ga m (.slice fa n fc)) w V2 := ((HRW.out.2.trans (Fr.of_below HB1.out)).trans (Fr.of_below ((Below.refl _ _).drew.trans hV1))).trans (by rw [CaS.eq q ga m fa n n' fc fc]; exact fr2)
        go_wp2
        go_roundw
        case rel => exact ⟨j + 1, by omega, by go_num, hr5, fr5, r2, n2, HPM.out r2 hp2, by rw [← Nat.add_assoc]; exact hc2⟩
        case measure => simp [intOf]; omega
      · obtain rfl : j = d := by omega
        have hkf : kflat (es.filter (hasE p)) = pk ((es.filter (hasE p)).map pr) := kflat_pr _
        have INO : Hid (Calls _ _ _ wr _) := inOrder_any w.heap.size j (.slice ad j c0) ((es.filter (hasE p)).map pr) wr (by rw [← hkf]; exact row) (by omega) (by rw [List.length_map]; exact HD.out.symm)
        have hdp : r.Perm (es.filter (fun e => !hasE p e)) := by
          rw [List.drop_eq_nil_of_le (by rw [← HD.out]; exact Nat.le_refl _)] at hpm
          exact hpm
        have HCX : Hid (Cx base q ga kA m N (t + j) Φ fa n' fc r wr) := hcx
        have HFR : Hid (Fr (CaS q ga m (.slice fa n fc)) w wr) := fr
        clear hkf hpm row hcx fr
        go_wp2_with (go_at_call 44; go_must (refine INO.out.mono ?_; rintro e W6 ⟨rfl, l', q1, q2, q3, q4⟩))
        go_ret
        have hsub : ((es.filter (hasE p)).map pr).Nodup := HND.out.sublist ((List.filter_sublist).map pr)
        have hlen : l'.length = j := by rw [q1.length_eq, List.length_map]; exact HD.out.symm
        have hcb : ∀ b, Cbl q ga m fa n' fc r b → Cbl q ga m fa n fc es b := fun b hb => by
          rcases hb with (h | h | h | h) | ⟨e, he, h⟩
          · exact .inl (.inl h)
          · exact .inl (.inr (.inl h))
          · exact .inl (.inr (.inr (.inl h)))
          · refine .inl (.inr (.inr (.inr ?_)))
            cases fa with
            | none => exact h
            | some ad => exact h
          · exact .inr ⟨e, (List.mem_filter.1 (hdp.mem_iff.1 he)).1, h⟩
        have hcx6 : Cx base q ga kA m N (t + j) Φ fa n' fc r W6 := HCX.out.fr (Fr.of_belowB q4) (fun b hb hge => by
          have := (HW.out.blk (hcb b hb)).2
          omega)
        refine ⟨_, l', r, n', rfl, q1, q2 hsub, by rw [hlen]; exact q3, hdp, hcx6.up (by omega), hcb, HFR.out.andThen (Fr.of_belowB q4) (fun b hb => .inr hb)⟩
  · rw [decide_eq_false hmk] at MK
    clear SK
    go_upto_region 2 with (first
      | (go_at_call 47; go_must (refine (PG.out _).mono ?_; rintro e W1 ⟨rfl, hw⟩; obtain rfl := hw.symm))
      | (go_at_call 20; go_must (refine MK.out.mono ?_; rintro e W1 ⟨rfl, hw⟩; obtain rfl := hw.symm)))
    go_wp2
    go_ret
    have hnil := has_none (es := es) (p := p) (by omega)
    refine ⟨_, [], es, n, rfl, by rw [hnil]; exact .refl _, fun i x y h => by simp at h, World.ownsRow_nil _ _ 24 2, by rw [has_not hnil], H0.up (by omega), fun k h => h, Fr.of_below hb0⟩
end Go.Proofs.Ytpnalcbpdejpjaa
