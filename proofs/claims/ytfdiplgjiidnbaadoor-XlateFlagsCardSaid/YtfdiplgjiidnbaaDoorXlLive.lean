/-
  The contract of markLive of package xlate.
-/
import Derived.Test.YtfdiplgjiidnbaaDoorXlLiveS
import Derived.Test.YtfdiplgjiidnbaaDoorXlM
set_option linter.unusedSimpArgs false
set_option linter.unusedVariables false
namespace Go.Proofs.YtfdiplgjiidnbaaDoor
open Go.RowKit Classical
set_option maxRecDepth 100000 in
set_option maxHeartbeats 4000000 in
theorem live_any (L : List Nat) (b o cap base n : Nat) (ps : List Pc) (v : Value) (w : World) (hps : ps.length = n) (hn : n ≤ 64) (hok : ∀ p ∈ ps, Pok L p) (hB : Byts L) (G0 : Gr base b o L w) (hbase : base ≤ w.heap.size) (R0 : w.ownsRow base 56 11 v n (flat b o cap ps)) :
    Calls Tryd.prog 19 #[v] w fun e w' => e = .returned (.tuple #[]) ∧ w'.ownsRow base 56 11 v n (flat b o cap (livL L ps)) ∧ Below base w w' := by
  by_cases hn0 : n = 0
  · subst hn0
    obtain ⟨a, c, rfl⟩ := orow_nil R0
    obtain rfl : ps = [] := List.eq_nil_of_length_eq_zero hps
    clear G0
    go_enter Tryd.func19, Tryd.ntmps19
    go_upto_region 2 with fail
    go_loopw [2, 3] (fun s i wr => s = .int .u8 207 ∧ i = .int .i64 (-1) ∧ wr = w) (fun _ i _ => (intOf i + 1).toNat)
    case atStart => exact ⟨rfl, rfl, rfl⟩
    case round =>
      obtain ⟨rfl, rfl, rfl⟩ := hrel
      go_wp2
      refine bodyPost_end (v := .tuple #[]) (by simp [results, Tryd.results19]) rfl ⟨rfl, R0, Below.refl _ _⟩
  obtain ⟨g, c, rfl⟩ := orow_some R0 (by omega)
  have hgb := orow_base R0
  have HOK : Hid (∀ p ∈ ps, Pok L p) := hok
  have HB : Hid (Byts L) := hB
  have HPS : Hid (ps.length = n) := hps
  have HG : Hid (Gr base b o L w) := G0
  clear hok hB hps G0
  go_enter Tryd.func19, Tryd.ntmps19
  go_upto_region 2 with fail
  have T0 : ps.take n = ps := List.take_of_length_le (by rw [HPS.out]; exact Nat.le_refl _)
  have D0 : ps.drop n = [] := List.drop_of_length_le (by rw [HPS.out]; exact Nat.le_refl _)
  go_loopw [2, 3] (fun s i wr => ∃ m : Nat, m ≤ n ∧ s = .int .u8 (livS L (ps.drop m)) ∧ i = .int .i64 ((m : Int) - 1) ∧ wr.ownsRow base 56 11 (.slice (some ⟨g, 0, none⟩) n c) n (flat b o cap (ps.take m ++ livL L (ps.drop m))) ∧ Below base w wr) (fun _ i _ => (intOf i + 1).toNat)
  case atStart => exact ⟨n, Nat.le_refl _, by rw [D0]; rfl, rfl, by rw [T0, D0]; simpa [livL] using R0, Below.refl _ _⟩
  case round =>
    clear R0 T0 D0
    obtain ⟨m, hm, rfl, rfl, R1, hb1⟩ := hrel
    by_cases hm0 : m = 0
    · subst hm0
      have z : ((0 : Nat) : Int) - 1 = -1 := rfl
      rw [z]
      go_wp2
      refine bodyPost_end (v := .tuple #[]) (by simp [results, Tryd.results19]) rfl ⟨rfl, by simpa using R1, hb1⟩
    obtain ⟨j, rfl⟩ : ∃ j, m = j + 1 := ⟨m - 1, by omega⟩
    have z : ((j + 1 : Nat) : Int) - 1 = (j : Int) := by omega
    rw [z]
    have hj : j < ps.length := by rw [HPS.out]; omega
    obtain ⟨p, hp⟩ : ∃ p, ps[j] = p := ⟨_, rfl⟩
    have hpok : Pok L p := by rw [← hp]; exact HOK.out _ (List.getElem_mem hj)
    have ed : ps.drop j = p :: ps.drop (j + 1) := by rw [← hp]; exact (List.drop_eq_getElem_cons hj)
    have et : ps.take (j + 1) = ps.take j ++ [p] := by rw [← hp]; rw [← List.take_concat_get hj, List.concat_eq_append]
    have HD : Hid (ps.drop j = p :: ps.drop (j + 1)) := ed
    obtain ⟨xs, hxs⟩ : ∃ xs, ps.take j = xs := ⟨_, rfl⟩
    have hxl : xs.length = j := by rw [← hxs, List.length_take]; omega
    obtain ⟨S, hS⟩ : ∃ S, livS L (ps.drop (j + 1)) = S := ⟨_, rfl⟩
    obtain ⟨ys, hys⟩ : ∃ ys, livL L (ps.drop (j + 1)) = ys := ⟨_, rfl⟩
    have HX : Hid ((ps.take j = xs ∧ xs.length = j) ∧ livS L (ps.drop (j + 1)) = S ∧ livL L (ps.drop (j + 1)) = ys) := ⟨⟨hxs, hxl⟩, hS, hys⟩
    rw [et, hxs, hys, List.append_assoc, List.singleton_append] at R1
    rw [hS]
    clear hp ed et hxs hS hys hj
    have hat : ∀ t, t < 11 → wr.cell? ⟨g, j * 11 + t, none⟩ = (p.cells b o cap)[t]? := fun t ht => by
      rw [orow_cell R1 (j * 11 + t) (by omega)]
      exact flat_at (by rw [List.getElem?_append_right (by omega), hxl, Nat.sub_self]; rfl) t ht
    have HAT : Hid (∀ t, t < 11 → wr.cell? ⟨g, j * 11 + t, none⟩ = (p.cells b o cap)[t]?) := hat
    clear hat
    have G1 := HG.out.on hb1
    have hk8 := hpok.k8
    have d0 : wr.cell? ⟨g, j * 11, none⟩ = some (.int .i64 p.op) := HAT.out 0 (by decide)
    have d2 : wr.cell? ⟨g, j * 11 + 2, none⟩ = some (.int .i64 ((kdN p.k : Nat) : Int)) := HAT.out 2 (by decide)
    have d10 : wr.cell? ⟨g, j * 11 + 10, none⟩ = some (.int .u8 p.lv) := HAT.out 10 (by decide)
    have f10 := orow_free R1 (j * 11 + 10)
    have LB : Hid (∀ W, Calls Tryd.prog 44 #[.int .i64 ((kdN p.k : Nat) : Int)] W fun e w' => e = .returned (.bool (behI ((kdN p.k : Nat) : Int))) ∧ w' = W) := fun W => beh_any _ W
    have SB : Hid (∀ W, Below base wr W → Calls Tryd.prog 13 #[.int .i64 p.op] W fun e w' => e = .returned (.int .u8 (st p.op)) ∧ w' = W) := fun W hW => sets_any p.op W (G1.on hW).t.s
    have NB : Hid (∀ W, Below base wr W → Calls Tryd.prog 32 #[.int .i64 p.op] W fun e w' => e = .returned (.int .u8 (nd p.op)) ∧ w' = W) := fun W hW => needs_any p.op W (G1.on hW).t
    have hlen := hpok.len
    have AB : Hid (∀ W x, Below base wr W → Calls Tryd.prog 45 #[.agg ((p.put x).cells b o cap)] W fun e w' => e = .returned (.bool (aheadB (mdN p.k) (kdN p.k) (p.opd L))) ∧ Below W.heap.size W w') := fun W x hW =>
      ahead_any p.op ((cyN p.k : Nat) : Int) ((clN p.k : Nat) : Int) ((p.at' : Nat) : Int) (mdN p.k) (kdN p.k) (lnN p.k) (L.getD (p.off + 1) 0) (L.getD (p.off + 2) 0) b (o + p.off) (cap - p.off) ((p.num : Nat) : Int) ((p.cyc : Nat) : Int) x W (kd_bd _ hk8) (by have := ln_bd _ hk8; omega)
        (fun h => by rw [Nat.add_assoc]; exact (G1.on hW).c (p.off + 1) (by omega)) (fun h => by rw [Nat.add_assoc]; exact (G1.on hW).c (p.off + 2) (by omega)) (HB.out.at _) (HB.out.at _) (G1.on hW).r
    have HV : Hid ((p.beh S = if behI ((kdN p.k : Nat) : Int) then 207 else S) ∧ (p.lvo S = bits .and .u8 (st p.op) (p.beh S)) ∧ (p.mid S = bits .or .u8 (bits .andNot .u8 (p.beh S) (st p.op)) (nd p.op)) ∧ p.nxt L S = if aheadB (mdN p.k) (kdN p.k) (p.opd L) then 207 else p.mid S) := ⟨rfl, rfl, rfl, rfl⟩
    obtain ⟨lvo, hlvo⟩ : ∃ x, p.lvo S = x := ⟨_, rfl⟩
    obtain ⟨mid, hmid⟩ : ∃ x, p.mid S = x := ⟨_, rfl⟩
    obtain ⟨beh, hbeh⟩ : ∃ x, p.beh S = x := ⟨_, rfl⟩
    have HN : Hid ((p.lvo S = lvo ∧ p.mid S = mid) ∧ p.beh S = beh) := ⟨⟨hlvo, hmid⟩, hbeh⟩
    rw [hlvo, hmid, hbeh] at HV
    clear hlvo hmid hbeh
    obtain ⟨op, hop⟩ : ∃ x, p.op = x := ⟨_, rfl⟩
    rw [hop] at d0 SB NB HV
    obtain ⟨sts, hsts⟩ : ∃ x, st op = x := ⟨_, rfl⟩
    obtain ⟨nds, hnds⟩ : ∃ x, nd op = x := ⟨_, rfl⟩
    rw [hsts] at SB HV
    rw [hnds] at NB HV
    have HOP : Hid (p.op = op) := hop
    clear hop hsts hnds hlen hk8 G1 hpok
    generalize behI ((kdN p.k : Nat) : Int) = X at *
    generalize aheadB (mdN p.k) (kdN p.k) (p.opd L) = Y at *
    generalize kdN p.k = kd at *
    have hjn : (j : Int) < (n : Int) := by omega
    go_upto_region 5 with fail
    go_cut [21] (fun z wx => z = .bool X ∧ wx = wr)
    case first =>
      go_wp2_with (go_at_call 44; go_must (refine (LB.out _).mono ?_; rintro e W1 ⟨rfl, hw1⟩; obtain rfl := hw1.symm))
      go_meet
      exact ⟨rfl, rfl⟩
    case rest =>
    obtain ⟨rfl, hwc⟩ := hcut
    subst hwc
    clear LB d2
    go_upto_if 21 with fail
    go_cut [2] (fun z wx => z = .int .u8 beh ∧ wx = wc)
    case first =>
      cases X
      · have hz := HV.out.1
        rw [if_neg (by decide)] at hz
        clear HV HN
        subst hz
        go_wp2
        go_meet
        exact ⟨rfl, rfl⟩
      · have hz := HV.out.1
        rw [if_pos rfl] at hz
        clear HV HN
        subst hz
        go_wp2
        go_meet
        exact ⟨rfl, rfl⟩
    case rest =>
    obtain ⟨rfl, hwc⟩ := hcut
    subst hwc
    generalize wc = W at *
    have e1 : bits .and .u8 sts beh = lvo := HV.out.2.1.symm
    go_upto_region 8 with (go_at_call 13; go_must (refine (SB.out _ (Below.refl _ _)).mono ?_; rintro e W1 ⟨rfl, hw1⟩; obtain rfl := hw1.symm))
    clear SB
    go_cut [] (fun wx => wx = W.setCell ⟨g, j * 11 + 10, none⟩ (.int .u8 lvo))
    case first =>
      go_wp2
      go_meet
      exact rfl
    case rest =>
    have R2 : wc.ownsRow base 56 11 (.slice (some ⟨g, 0, none⟩) n c) n (flat b o cap (xs ++ p.put lvo :: ys)) := by
      rw [hcut, ← flat_set, hxl]
      exact orow_set R1 (j * 11 + 10) (by omega) _
    have hb2 : Below base W wc := by rw [hcut]; exact (Below.refl _ _).setCell (p := ⟨g, j * 11 + 10, none⟩) hgb.1 _
    clear hcut R1 HAT d0 d10 f10 e1
    generalize wc = W2 at *
    have hat : ∀ t, t < 11 → W2.cell? ⟨g, j * 11 + t, none⟩ = ((p.put lvo).cells b o cap)[t]? := fun t ht => by
      rw [orow_cell R2 (j * 11 + t) (by omega)]
      exact flat_at (by rw [List.getElem?_append_right (by omega), hxl, Nat.sub_self]; rfl) t ht
    have d0 : W2.cell? ⟨g, j * 11, none⟩ = some (.int .i64 op) := by rw [← HOP.out]; exact hat 0 (by decide)
    obtain ⟨PC, hPC⟩ : ∃ PC, (p.put lvo).cells b o cap = PC := ⟨_, rfl⟩
    have HS : Hid (PC.size = 11) := by unfold Hid; rw [← hPC]; rfl
    have RG : Hid (W2.rangeAt g (j * 11) PC.toList) := fun t u hu => by
      have ht : t < 11 := by have := (List.getElem?_eq_some_iff.1 hu).1; rw [Array.length_toList, HS.out] at this; exact this
      rw [hat t ht, hPC, ← Array.getElem?_toList]; exact hu
    have AB2 : Hid (Calls _ _ _ _ _) := AB.out W2 lvo hb2
    rw [hPC] at AB2
    clear hPC hat AB
    have e2 : bits .or .u8 (bits .andNot .u8 beh sts) nds = mid := HV.out.2.2.1.symm
    go_upto_region 9 with fail
    go_cut [2] (fun z wx => z = .int .u8 mid ∧ wx = W2)
    case first =>
      go_wp2_with (go_at_call 32; go_must (refine (NB.out _ hb2).mono ?_; rintro e W3 ⟨rfl, hw3⟩; obtain rfl := hw3.symm))
      go_meet
      exact ⟨rfl, rfl⟩
    case rest =>
    obtain ⟨rfl, hwc⟩ := hcut
    subst hwc
    generalize wc = W2 at *
    clear NB e2 d0
    have hF : Hid ((livS L (ps.drop j) = if Y = true then 207 else mid) ∧ ps.take j ++ livL L (ps.drop j) = xs ++ p.put lvo :: ys) := by
      refine ⟨?_, ?_⟩
      · rw [HD.out, livS, HX.out.2.1]; exact HV.out.2.2.2
      · rw [HD.out, livL, HX.out.2.1, HX.out.2.2, HN.out.1.1, HX.out.1.1]
    clear HV HN HX HD HOP
    go_upto_region 10 with fail
    cases Y
    · go_wp2_with (first
        | (refine wpList_load_mid rfl 56 _ rfl g (j * 11) rfl PC.toList _ RG.out Tryd.underlying56 rfl (by rw [Array.length_toList, HS.out]; kernel_rfl) ?_; rw [Array.toArray_toList])
        | (go_at_call 45; go_must (refine AB2.out.mono ?_; rintro e W4 ⟨rfl, hb4⟩; have R4 := orow_keep R2 hb4; have hb4' := (hb1.trans hb2).trans (hb4.mono (Nat.le_trans hbase (hb1.trans hb2).size)))))
      go_roundw
      case rel => exact ⟨j, by omega, by rw [hF.out.1]; rfl, rfl, by rw [hF.out.2]; exact R4, hb4'⟩
      case measure => simp [intOf]
    · go_wp2_with (first
        | (refine wpList_load_mid rfl 56 _ rfl g (j * 11) rfl PC.toList _ RG.out Tryd.underlying56 rfl (by rw [Array.length_toList, HS.out]; kernel_rfl) ?_; rw [Array.toArray_toList])
        | (go_at_call 45; go_must (refine AB2.out.mono ?_; rintro e W4 ⟨rfl, hb4⟩; have R4 := orow_keep R2 hb4; have hb4' := (hb1.trans hb2).trans (hb4.mono (Nat.le_trans hbase (hb1.trans hb2).size)))))
      go_roundw
      case rel => exact ⟨j, by omega, by rw [hF.out.1]; rfl, rfl, by rw [hF.out.2]; exact R4, hb4'⟩
      case measure => simp [intOf]
end Go.Proofs.YtfdiplgjiidnbaaDoor
