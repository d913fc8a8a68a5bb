/-
  The law RewindSmall returns true of any list of bytes and any changes.
-/
import Derived.Test.YtbgikffoidaamaaDoorXwSmallS
import Derived.Test.YtbgikffoidaamaaDoorXwCutW
set_option linter.unusedSimpArgs false
set_option linter.unusedVariables false
namespace Go.Proofs.YtbgikffoidaamaaDoor
open Go.RowKit Classical
/-- Numbers in memory. -/
def RowI (w : World) (a : Option Addr) (l : List Int) : Prop := l = [] ∨ ∃ b off, a = some ⟨b, off, none⟩ ∧ ∀ i, i < l.length → w.cell? ⟨b, off + i, none⟩ = some (.int .i64 (l.getD i 0))
theorem RowI.below {w w' : World} {a : Option Addr} {l : List Int} (h : RowI w a l) (hb : Below w.heap.size w w') : RowI w' a l := by
  rcases h with e | ⟨b, off, e, hc⟩
  · exact .inl e
  · exact .inr ⟨b, off, e, fun i hi => (hb.cell (p := ⟨b, off + i, none⟩) (cell_lt (hc i hi))).trans (hc i hi)⟩
set_option maxRecDepth 100000 in
set_option maxHeartbeats 3200000 in
theorem small_law (F : List Nat) (nf : Nat) (hF : Bytes F) (hnf : F.length = nf) (mf : nf ≤ 140737488351232) (a : Option Addr) (kf : Nat) (C : List Int) (nc kc : Nat) (ac : Option Addr) (hC : ∀ x ∈ C, -9223372036854775808 ≤ x ∧ x ≤ 9223372036854775807) (hnc : C.length = nc) (mc : nc ≤ 140737488351232)
    (Y : List Nat) (ny ky : Nat) (ay : Option Addr) (hY : Bytes Y) (hny : Y.length = ny) (my : ny ≤ 140737488351232) (w : World)
    (RF : Row w a F) (RC : RowI w ac C) (RY : Row w ay Y) (tab : Tab w) :
    Calls Tryd.prog 3 #[.slice a nf kf, .slice ac nc kc, .slice ay ny ky] w fun e w' => e = .returned (.bool true) ∧ Below w.heap.size w w' := by
  have HN : Hid (F.length = nf ∧ C.length = nc ∧ Y.length = ny) := ⟨hnf, hnc, hny⟩
  have HB : Hid (Bytes F ∧ Bytes Y) := ⟨hF, hY⟩
  have HC : Hid (∀ x ∈ C, -9223372036854775808 ≤ x ∧ x ≤ 9223372036854775807) := hC
  have HR : Hid (∀ W, Below w.heap.size w W → Row W a F ∧ RowI W ac C ∧ Row W ay Y ∧ Tab W) := fun W h => ⟨RF.below h, RC.below h, RY.below h, tab.below tab.lt h⟩
  have HBW : Hid (Below w.heap.size w w) := Below.refl _ _
  clear hF hnf hC hnc hY hny RF RC RY tab
  by_cases h1 : 65536 < nf
  · have i1 : (65536 : Int) < (nf : Int) := by omega
    go_enter Tryd.func3, Tryd.ntmps3
    go_wp2
    go_ret
    exact ⟨rfl, HBW.out⟩
  have hl : nf ≤ 65536 := by omega
  have i1 : ¬ (65536 : Int) < (nf : Int) := by omega
  have HT1 : Hid (Tx (w.alloc (.cells #[] 5)) w.heap.size (.slice (some ⟨w.heap.size, 0, none⟩) 0 0) []) := ⟨rfl, .inr ⟨_, 0, _, rfl, Nat.le_refl _, heap_alloc_new w _, Nat.le_refl _, by decide, rfl, rfl⟩⟩
  have HB1 : Hid (Below w.heap.size w (w.alloc (.cells #[] 5))) := (Below.refl _ _).alloc (Nat.le_refl _) _
  have HL1 : Hid (([] : List Nat).length + F.length ≤ 140737488500000) := by unfold Hid; rw [HN.out.1]; simp; omega
  go_enter Tryd.func3, Tryd.ntmps3
  go_upto_region 3 with fail
  go_upto_region 5 with (refine wpList_apW rfl _ _ rfl HT1.out HB1.out HB1.out.size rfl rfl HN.out.1 (HR.out _ HB1.out).1 HL1.out ?_; intro v7 w7 T7 B7 hs7)
  rw [List.nil_append] at T7
  obtain ⟨a7, k7, rfl, hk7, -, -⟩ := T7.full
  rw [HN.out.1] at hk7 T7 ⊢
  have HT7 : Hid (Tx w7 w.heap.size (.slice a7 nf k7) F) := T7
  have HB7 : Hid (Below w.heap.size w w7) := B7
  have HF7 : Hid (Bytes F ∧ F.length = nf) := ⟨HB.out.1, HN.out.1⟩
  clear T7 B7 hs7 HT1 HB1 HL1 h1
  go_loopw [8] (fun i wr => ∃ (j : Nat) (L : List Nat), i = .int .i64 j ∧ j ≤ nc ∧ Hid (Tx wr w.heap.size (.slice a7 nf k7) L) ∧ Hid (Bytes L ∧ L.length = nf) ∧ Hid (Below w.heap.size w wr)) (fun i _ => nc - (intOf i).toNat)
  case atStart => exact ⟨0, F, rfl, by omega, HT7, HF7, HB7⟩
  case round =>
    obtain ⟨j, L, rfl, hj, hT, hL, hB⟩ := hrel
    obtain ⟨Q, hQ⟩ : ∃ Q : Bool, Q = (decide (j < nc) && (decide (j < ny) && decide (0 < nf))) := ⟨_, rfl⟩
    have HQ : Hid (Q = (decide (j < nc) && (decide (j < ny) && decide (0 < nf)))) := hQ
    clear hQ
    go_upto_region 5 with fail
    go_cut [35] (fun v wx => v = .bool Q ∧ wx = wr)
    case first =>
      by_cases c1 : j < nc
      · have d1 : (j : Int) < (nc : Int) := by omega
        by_cases c2 : j < ny
        · have d2 : (j : Int) < (ny : Int) := by omega
          by_cases c3 : 0 < nf
          · have d3 : (0 : Int) < (nf : Int) := by omega
            have hQ : Q = true := by rw [HQ.out]; simp [c1, c2, c3]
            subst hQ
            go_wp2
            go_meet
            exact ⟨rfl, rfl⟩
          · have d3 : ¬ (0 : Int) < (nf : Int) := by omega
            have hQ : Q = false := by rw [HQ.out]; simp [c3]
            subst hQ
            go_wp2
            go_meet
            exact ⟨rfl, rfl⟩
        · have d2 : ¬ (j : Int) < (ny : Int) := by omega
          have hQ : Q = false := by rw [HQ.out]; simp [c2]
          subst hQ
          go_wp2
          go_meet
          exact ⟨rfl, rfl⟩
      · have d1 : ¬ (j : Int) < (nc : Int) := by omega
        have hQ : Q = false := by rw [HQ.out]; simp [c1]
        subst hQ
        go_wp2
        go_meet
        exact ⟨rfl, rfl⟩
    case rest =>
    obtain ⟨rfl, hwc⟩ := hcut
    rw [hwc]
    clear hwc
    cases Q with
    | true =>
      have hq := HQ.out.symm
      simp only [Bool.and_eq_true, decide_eq_true_eq] at hq
      obtain ⟨c1, c2, c3⟩ := hq
      obtain ⟨rF, rC, rY, -⟩ := HR.out wr hB.out
      have jC : j < C.length := by rw [HN.out.2.1]; exact c1
      have jY : j < Y.length := by rw [HN.out.2.2]; exact c2
      rcases rC with e | ⟨bc, oc, rfl, cc⟩
      · rw [e] at jC; exact absurd jC (Nat.not_lt_zero _)
      rcases rY with e | ⟨by', oy, rfl, cy⟩
      · rw [e] at jY; exact absurd jY (Nat.not_lt_zero _)
      have d1 := cc j jC
      have d2 := cy j jY
      have b2 := bytes_at HB.out.2 j
      have hz := HC.out (C.getD j 0) (by rw [List.getD, List.getElem?_eq_getElem jC]; exact List.getElem_mem jC)
      obtain ⟨z, hzz⟩ : ∃ z, z = C.getD j 0 := ⟨_, rfl⟩
      rw [← hzz] at d1 hz
      obtain ⟨y, hyy⟩ : ∃ y, y = Y.getD j 0 := ⟨_, rfl⟩
      rw [← hyy] at d2 b2
      obtain ⟨kz, hkz⟩ : ∃ kz : Int, kz = z.tmod (nf : Int) := ⟨_, rfl⟩
      have hzb := tmod_bd z nf c3
      rw [← hkz] at hzb
      have et : z.tmod (nf : Int) = kz := hkz.symm
      have hnz : ((nf : Int) == 0) = false := by rw [beq_eq_false_iff_ne]; omega
      have hnz2 : ¬ (nf : Int) = 0 := by omega
      have q1 : (j : Int) < (nc : Int) := by omega
      have q2 : (j : Int) < (ny : Int) := by omega
      clear hkz rF cc cy jC jY hzz hyy
      go_upto_if 46 with fail
      go_cut [9] (fun v wx => ∃ k : Nat, k < nf ∧ v = .int .i64 k ∧ wx = wr)
      case first =>
        by_cases hz : kz < 0
        · obtain ⟨k, hk⟩ : ∃ k : Nat, kz + (nf : Int) = (k : Int) := ⟨(kz + nf).toNat, by omega⟩
          go_wp2
          go_meet
          exact ⟨k, by omega, rfl, rfl⟩
        · obtain ⟨k, hk⟩ : ∃ k : Nat, kz = (k : Int) := ⟨kz.toNat, by omega⟩
          go_wp2
          go_meet
          exact ⟨k, by omega, rfl, rfl⟩
      case rest =>
      obtain ⟨k, hk, rfl, hwc⟩ := hcut
      rw [hwc]
      clear hwc et hzb hnz hnz2
      obtain ⟨g1, k1', e1, hg1, -, -, hcl, hfr, hset⟩ := hT.out.open (by rw [hL.out.2]; exact c3)
      rw [hL.out.2] at e1
      cases e1
      have cold := hcl k (by rw [hL.out.2]; exact hk)
      have fr := hfr k
      have HS : Hid (Tx (wr.setCell ⟨g1, k, none⟩ (.int .u8 (y : Nat))) w.heap.size (.slice (some ⟨g1, 0, none⟩) nf k7) (L.set k y)) := hset k (by rw [hL.out.2]; exact hk) y
      have HBS : Hid (Below w.heap.size w (wr.setCell ⟨g1, k, none⟩ (.int .u8 (y : Nat)))) := hB.out.setCell (p := ⟨g1, k, none⟩) hg1 _
      have HLS : Hid (Bytes (L.set k y) ∧ (L.set k y).length = nf) := ⟨fun x hx => by
        rcases List.mem_or_eq_of_mem_set hx with h | rfl
        · exact hL.out.1 x h
        · exact b2, by rw [List.length_set]; exact hL.out.2⟩
      have kn : (k : Int) < (nf : Int) := by omega
      clear hset hfr hT hB hL hcl
      go_wp2
      go_roundw
      case rel => exact ⟨j + 1, L.set k y, by go_num, by omega, HS, HLS, HBS⟩
      case measure => simp [intOf]; omega
    | false =>
      generalize wr = w8 at *
      obtain ⟨X, hX⟩ : ∃ X, X = RwM.xr F L := ⟨_, rfl⟩
      have HX : Hid (X = RwM.xr F L) := hX
      have hxl : X.length = nf := by rw [hX, RwM.xr_len]; exact hL.out.2
      have HXL : Hid (X.length = nf) := hxl
      clear hX hxl
      go_upto_region 13 with fail
      go_loopw [10, 11] (fun d i wr => ∃ m : Nat, m ≤ nf ∧ i = .int .i64 m ∧ d = .int .i64 (RwM.nz (X.take m) : Nat) ∧ Hid (Below w8.heap.size w8 wr)) (fun _ i _ => nf - (intOf i).toNat)
      case atStart => exact ⟨0, by omega, rfl, rfl, Below.refl _ _⟩
      case round =>
        obtain ⟨m, hm, rfl, rfl, hbz⟩ := hrel
        by_cases hmn : m < nf
        · obtain ⟨g1, k1', e1, -, -, -, hcl, -, -⟩ := (hT.out.on hbz.out).open (by rw [hL.out.2]; omega)
          have mL : m < L.length := by rw [hL.out.2]; exact hmn
          have mF : m < F.length := by rw [HN.out.1]; exact hmn
          rw [hL.out.2] at e1
          cases e1
          have d1 := hcl m mL
          have HBz : Below w.heap.size w wr := hB.out.trans (hbz.out.mono hB.out.size)
          rcases (HR.out wr HBz).1 with e | ⟨bf, of', rfl, cf⟩
          · rw [e] at mF; exact absurd mF (Nat.not_lt_zero _)
          have d2 := cf m mF
          have b1 := bytes_at hL.out.1 m
          have b2 := bytes_at HB.out.1 m
          have HNZ : Hid (RwM.nz (X.take (m + 1)) = RwM.nz (X.take m) + (if L.getD m 0 = F.getD m 0 then 0 else 1)) := by
            have h1 := RwM.nz_take X m (by rw [HXL.out]; exact hmn)
            unfold Hid
            rw [h1]
            congr 1
            have h2 : X.getD m 0 = L.getD m 0 ^^^ F.getD m 0 := by rw [HX.out]; exact RwM.xr_at F L m mL
            rw [h2]
            by_cases h3 : L.getD m 0 = F.getD m 0
            · rw [if_pos (by rw [h3, Nat.xor_self]), if_pos h3]
            · rw [if_neg (fun h4 => h3 (eq_of_xor_zero h4)), if_neg h3]
          have hbN : ∀ n, Hid (Below w8.heap.size w8 (wr.drewN n)) := fun n => below_drawsX hbz.out n
          have i5 : (m : Int) < (nf : Int) := by omega
          have hzb := RwM.nz_le (X.take m)
          rw [List.length_take] at hzb
          have hzb2 : RwM.nz (X.take m) ≤ 65536 := by omega
          clear hcl cf HBz hzb
          generalize RwM.nz (X.take m) = zn at *
          generalize L.getD m 0 = y1 at *
          generalize F.getD m 0 = y2 at *
          by_cases hpq : y1 = y2
          · have HNZ2 : Hid (RwM.nz (X.take (m + 1)) = zn) := by have := HNZ.out; rw [if_pos hpq] at this; exact this
            clear HNZ
            subst hpq
            go_upto_region 15 with fail
            go_quiet (skip)
            go_wp2
            go_roundw
            case rel => exact ⟨m + 1, by omega, by go_num, by rw [HNZ2.out], hbN _⟩
            case measure => simp [intOf]; omega
          · have HNZ2 : Hid (RwM.nz (X.take (m + 1)) = zn + 1) := by have := HNZ.out; rw [if_neg hpq] at this; exact this
            have hyb : ((y1 : Int) == (y2 : Int)) = false := by rw [beq_eq_false_iff_ne]; omega
            clear HNZ
            go_upto_region 15 with fail
            go_quiet (skip)
            go_wp2
            go_roundw
            case rel => exact ⟨m + 1, by omega, by go_num, by rw [HNZ2.out]; go_num, hbN _⟩
            case measure => simp [intOf]; omega
        · obtain rfl : m = nf := by omega
          have HXT : Hid (X.take m = X) := List.take_of_length_le (by rw [HXL.out]; exact Nat.le_refl _)
          rw [HXT.out]
          obtain ⟨zn, hzn⟩ : ∃ zn, zn = RwM.nz X := ⟨_, rfl⟩
          have HZN : Hid (zn = RwM.nz (RwM.xr F L)) := by rw [← HX.out]; exact hzn
          have hz2 : zn ≤ 65536 := by have := RwM.nz_le X; have := HXL.out; omega
          rw [← hzn]
          clear hzn
          have HBz : Hid (Below w.heap.size w wr) := hB.out.trans (hbz.out.mono hB.out.size)
          have HTz : Hid (Tx wr w.heap.size (.slice a7 m k7) L) := hT.out.on hbz.out
          have hi5 : ¬ (m : Int) < (m : Int) := by omega
          have HRL : Hid (Row wr a7 L) := by
            obtain ⟨a9, k9, e9, -, r9, -⟩ := HTz.out.full
            rw [hL.out.2] at e9
            cases e9
            exact r9.row
          go_upto_region 17 with fail
          go_wp2_with fail
          refine (diff_any F L m m HB.out.1 hL.out.1 HN.out.1 hL.out.2 hl hl a a7 kf k7 wr (HR.out _ HBz.out).1 HRL.out (HR.out _ HBz.out).2.2.2).mono ?_
          rintro e w9 ⟨x9, rfl, X9, b9⟩
          have HB9 : Hid (Below w.heap.size w w9) := HBz.out.trans (b9.mono HBz.out.size)
          have HR9 : Hid (Row w9 a7 L) := HRL.out.below b9
          have hF5 : F.length ≤ 65536 := by rw [HN.out.1]; exact hl
          have hL5 : L.length ≤ 65536 := by rw [hL.out.2]; exact hl
          obtain ⟨nd, hnd⟩ : ∃ nd, (diffL F L).length = nd := ⟨_, rfl⟩
          obtain ⟨t10, t1, t2, t3⟩ := diffL_tail hF5 hL5 nd hnd
          obtain ⟨s1, s2, s3, s4⟩ := diffL_small hF5 hL5
          rw [hnd] at s1 s2
          rw [← HZN.out] at s1
          rw [hL.out.2] at s2
          obtain ⟨g9, k9, rfl, hg9, -, hk9, hcl, -, -⟩ := X9.open (by omega)
          rw [hnd] at hk9 hcl ⊢
          obtain ⟨c, hc⟩ : ∃ c, c = crc L := ⟨_, rfl⟩
          have HCC : Hid (crc L = c) := hc.symm
          have hc32 : c < 4294967296 := by rw [hc]; exact crc_lt hL.out.1
          rw [← hc] at t1
          obtain ⟨n4, hn4⟩ : ∃ n4, nd = n4 + 4 := ⟨nd - 4, by omega⟩
          obtain ⟨n5, hn5⟩ : ∃ n5, nd = n5 + 5 := ⟨nd - 5, by omega⟩
          obtain ⟨n6, hn6⟩ : ∃ n6, nd = n6 + 6 := ⟨nd - 6, by omega⟩
          have d0 : w9.cell? ⟨g9, 0, none⟩ = some (.int .u8 84) := by rw [hcl 0 (by omega), s3]; rfl
          have d1 : w9.cell? ⟨g9, 1, none⟩ = some (.int .u8 80) := by rw [hcl 1 (by omega), s4]; rfl
          have q0 : w9.cell? ⟨g9, n4, none⟩ = some (.int .u8 ((c : Int) % 256)) := by
            have h1 := t1 0 (by decide)
            rw [show nd - 4 + 0 = n4 by omega] at h1
            rw [hcl n4 (by omega), h1]
            exact congrArg (fun x => some (Value.int .u8 x)) (by simp [sum4])
          have q1 : w9.cell? ⟨g9, n4 + 1, none⟩ = some (.int .u8 ((c : Int) / 256 % 256)) := by
            have h1 := t1 1 (by decide)
            rw [show nd - 4 + 1 = n4 + 1 by omega] at h1
            rw [hcl (n4 + 1) (by omega), h1]
            exact congrArg (fun x => some (Value.int .u8 x)) (by simp [sum4])
          have q2 : w9.cell? ⟨g9, n4 + 2, none⟩ = some (.int .u8 ((c : Int) / 65536 % 256)) := by
            have h1 := t1 2 (by decide)
            rw [show nd - 4 + 2 = n4 + 2 by omega] at h1
            rw [hcl (n4 + 2) (by omega), h1]
            exact congrArg (fun x => some (Value.int .u8 x)) (by simp [sum4])
          have q3 : w9.cell? ⟨g9, n4 + 3, none⟩ = some (.int .u8 ((c : Int) / 16777216)) := by
            have h1 := t1 3 (by decide)
            rw [show nd - 4 + 3 = n4 + 3 by omega] at h1
            rw [hcl (n4 + 3) (by omega), h1]
            exact congrArg (fun x => some (Value.int .u8 x)) (by simp [sum4]; omega)
          have q5 : w9.cell? ⟨g9, n5, none⟩ = some (.int .u8 0) := by rw [hcl n5 (by omega), show n5 = nd - 5 by omega, t2]; rfl
          have q6 : w9.cell? ⟨g9, n6, none⟩ = some (.int .u8 0) := by rw [hcl n6 (by omega), show n6 = nd - 6 by omega, t3]; rfl
          have e4 : (nd : Int) - 4 = (n4 : Int) := by omega
          have e5 : (nd : Int) - 5 = (n5 : Int) := by omega
          have e6 : (nd : Int) - 6 = (n6 : Int) := by omega
          have l0 : ¬ (nd : Int) < 10 := by omega
          have l1 : ¬ 14 + 8 * (zn : Int) < (nd : Int) := by omega
          have l2 : ¬ (m : Int) + 18 < (nd : Int) := by omega
          have l3 : (n4 : Int) ≤ (nd : Int) := by omega
          have l4 : nd - n4 = 4 := by omega
          have l5 : n4 < k9 := by omega
          have l6 : (n5 : Int) < (nd : Int) := by omega
          have l7 : (n6 : Int) < (nd : Int) := by omega
          have l8 : n4 ≤ nd := by omega
          have l9 : n5 < nd := by omega
          have l10 : n6 < nd := by omega
          have l11 : (1 : Int) < (nd : Int) := by omega
          have l12 : (0 : Int) < (nd : Int) := by omega
          have l13 : nd ≤ 70000 := by omega
          clear X9 b9 hcl t1 t2 t3 s1 s2 s3 s4 hnd hn4 hn5 hn6 t10 hc hF5 hL5
          go_upto_region 20 with fail
          go_wp2_with fail
          refine (crc_n m L hL.out.2 hL.out.1 (by omega) a7 k7 w9 HR9.out (HR.out _ HB9.out).2.2.2).mono ?_
          rintro e w10 ⟨rfl, rfl⟩
          rw [HCC.out]
          go_wp2
          go_ret
          exact ⟨rfl, HB9.out⟩
end Go.Proofs.YtbgikffoidaamaaDoor
