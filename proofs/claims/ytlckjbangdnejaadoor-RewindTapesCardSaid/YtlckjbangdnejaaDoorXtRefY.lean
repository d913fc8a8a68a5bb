/-
  The document's tape: Bytes.
-/
import Derived.Test.YtlckjbangdnejaaDoorXtRefP
import Derived.Test.YtlckjbangdnejaaDoorXwRDiff
import Derived.Test.YtlckjbangdnejaaDoorXwDiffF
set_option linter.unusedSimpArgs false
set_option linter.unusedVariables false
namespace Go.Proofs.YtlckjbangdnejaaDoor
open Go.RowKit Classical
theorem room_step (Os : List (List Nat)) (i : Nat) (h : i + 1 < Os.length) : room ((Os.take (i + 2)).reverse) = (diffL (Os.getD (i + 1) []) (Os.getD i [])).length + room ((Os.take (i + 1)).reverse) := by
  have e1 : Os.take (i + 2) = Os.take (i + 1) ++ [Os.getD (i + 1) []] := by
    rw [List.take_succ_eq_append_getElem h]
    simp [List.getD, List.getElem?_eq_getElem h]
  have h2 : i < Os.length := by omega
  have e2 : Os.take (i + 1) = Os.take i ++ [Os.getD i []] := by
    rw [List.take_succ_eq_append_getElem h2]
    simp [List.getD, List.getElem?_eq_getElem h2]
  rw [e1, e2]
  simp only [List.reverse_append, List.reverse_cons, List.reverse_nil, List.nil_append, List.cons_append, room]
theorem room_one (Os : List (List Nat)) : room ((Os.take 1).reverse) = 0 := by
  cases Os with
  | nil => rfl
  | cons a r => rfl
theorem byt_rev (Os : List (List Nat)) (h : 0 < Os.length) : byt Os.reverse = (Os.getD (Os.length - 1) []).length + room Os.reverse := by
  have e : Os.reverse = Os.getD (Os.length - 1) [] :: (Os.dropLast).reverse := by
    have hne : Os ≠ [] := List.length_pos_iff.1 h
    have e1 := List.dropLast_concat_getLast hne
    have e2 : Os.getLast hne = Os.getD (Os.length - 1) [] := by
      rw [List.getLast_eq_getElem, List.getD, List.getElem?_eq_getElem (by omega), Option.getD_some]
    rw [← e2]
    conv => lhs; rw [← e1]
    simp
  rw [e]
  rfl
set_option maxRecDepth 100000 in
set_option maxHeartbeats 3200000 in
theorem dbytes_any (FU : Nat → Prop) (u lim : Nat) (Os : List (List Nat)) (w : World) (h : Dt FU u lim Os w) (hlim : lim ≤ 4096) :
    Calls Tryd.prog 25 #[.pointer (some ⟨u, 0, none⟩)] w fun e w' => e = .returned (.int .i64 (byt Os.reverse : Nat)) ∧ Below w.heap.size w w' := by
  by_cases h0 : Os.length = 0
  · obtain rfl : Os = [] := List.eq_nil_of_length_eq_zero h0
    obtain ⟨v, es, hu, hB, ⟨a, c, rfl, -⟩, hE, -⟩ := h
    have c1 : w.cell? ⟨u, 1, none⟩ = some (.slice a es.length c) := hB.cell 1
    rw [hE.1] at c1
    simp only [List.length_nil] at c1
    clear hB hE h0
    go_enter Tryd.func25, Tryd.ntmps25
    go_wp2
    go_ret
    exact ⟨rfl, Below.refl _ _⟩
  · obtain ⟨g, o, c, cur, es, hu, hg, hgu, hB, hC, hoc, hnc, hes, hcells, hE, hl, hG⟩ := dt_opened h (by omega)
    obtain ⟨n, hn⟩ : ∃ n, n = Os.length := ⟨_, rfl⟩
    rw [← hn] at h0 hB hnc hes hcells hE hl
    have hgood : ∀ i, i < n → Good (Os.getD i []) := fun i hi => by rw [List.getD, List.getElem?_eq_getElem (by omega), Option.getD_some]; exact hG _ (List.getElem_mem _)
    have HW : Hid (∀ V, Below w.heap.size w V → V.cell? ⟨u, 1, none⟩ = some (.slice (some ⟨g, o, none⟩) n c) ∧ ∀ i, i < n → ∃ ea ek, V.cell? ⟨g, o + i, none⟩ = some (.slice ea (Os.getD i []).length ek) ∧ Row V ea (Os.getD i [])) := fun V hb => ⟨(hB.below hB.lt hb).cell 1, fun i hi => by
      obtain ⟨ea, ek, hee, hRow⟩ := (hE i hi).form
      refine ⟨ea, ek, ?_, hRow.below hb⟩
      have cm : w.cell? ⟨g, o + i, none⟩ = some (.slice ea (Os.getD i []).length ek) := by rw [hC.cell, hcells i hi, getD_lt es i undef (by omega), hee]
      exact (hb.cell (p := ⟨g, o + i, none⟩) (cell_lt cm)).trans cm⟩
    have HG : Hid (∀ i, i < n → Good (Os.getD i [])) := hgood
    obtain ⟨m, hm⟩ : ∃ m, m = n - 1 := ⟨_, rfl⟩
    have hmn : (n : Int) - 1 = (m : Int) := by omega
    have imn : (m : Int) < (n : Int) := by omega
    have hn4 : n ≤ 4096 := by omega
    obtain ⟨sl, hsl⟩ : ∃ sl, (Os.getD m []).length = sl := ⟨_, rfl⟩
    have hsl2 : sl ≤ 65536 := by rw [← hsl]; exact (hgood m (by omega)).2
    have HBY : Hid (byt Os.reverse = sl + room Os.reverse) := by rw [← hsl, hm, hn]; exact byt_rev Os (by omega)
    have HLN : Hid (Os.length = n) := hn.symm
    have HM1 : Hid (m = n - 1) := hm
    have HRL : Hid (∀ i, i < n → room ((Os.take (i + 1)).reverse) ≤ 65560 * 4096) := fun i hi => by
      have := room_le ((Os.take (i + 1)).reverse) (fun S hS => by
        rw [List.mem_reverse] at hS
        exact hG S (List.mem_of_mem_take hS))
      rw [List.length_reverse, List.length_take] at this
      exact Nat.le_trans this (Nat.mul_le_mul_left _ (by omega))
    obtain ⟨c1, hE1⟩ := HW.out w (Below.refl _ _)
    obtain ⟨ea, ek, cm, -⟩ := hE1 m (by omega)
    rw [hsl] at cm
    have i3 : ¬ n = 0 := by omega
    clear hE1 hB hC hoc hnc hes hcells hE hG hgood hn hm h hl hsl
    go_enter Tryd.func25, Tryd.ntmps25
    go_upto_region 3 with fail
    go_quiet (fail)
    have B1 : Hid (Below w.heap.size w (w.drewN nq)) := below_drawsX (Below.refl _ _) nq
    clear c1 cm
    generalize w.drewN nq = W1 at *
    go_upto_region 5 with fail
    go_loopw [3, 4] (fun x y wr => ∃ (i : Nat), i + 1 ≤ n ∧ y = .int .i64 i ∧ x = .int .i64 ((sl + room ((Os.take (i + 1)).reverse) : Nat) : Int) ∧ Hid (Below w.heap.size w wr)) (fun _ y _ => n - (intOf y).toNat)
    case atStart => exact ⟨0, by omega, rfl, by rw [room_one]; rfl, B1⟩
    case round =>
      obtain ⟨i, hi, rfl, rfl, hb⟩ := hrel
      obtain ⟨wq, rfl⟩ : ∃ x, x = wr := ⟨_, rfl⟩
      have hA := (HW.out wq hb.out).1
      obtain ⟨R, hR⟩ : ∃ R, R = room ((Os.take (i + 1)).reverse) := ⟨_, rfl⟩
      have HR : Hid (R = room ((Os.take (i + 1)).reverse)) := hR
      have hR2 : R ≤ 65560 * 4096 := by rw [hR]; exact HRL.out i (by omega)
      rw [← hR]
      clear hR
      have i41 : (i : Int) + 1 = ((i + 1 : Nat) : Int) := by omega
      obtain ⟨j, hj⟩ : ∃ j, j = i + 1 := ⟨_, rfl⟩
      rw [← hj] at i41
      have HJ : Hid (j = i + 1) := hj
      by_cases hjn : j < n
      · have ijn : (j : Int) < (n : Int) := by omega
        have iin : (i : Int) < (n : Int) := by omega
        have ij4 : j ≤ 4096 := by omega
        obtain ⟨ej, kj, cj, rj⟩ := (HW.out wq hb.out).2 j hjn
        obtain ⟨ei, ki, ci, ri⟩ := (HW.out wq hb.out).2 i (by omega)
        have gj := HG.out j hjn
        have gi := HG.out i (by omega)
        obtain ⟨Sj, hSj⟩ : ∃ S, Os.getD j [] = S := ⟨_, rfl⟩
        obtain ⟨Si, hSi⟩ : ∃ S, Os.getD i [] = S := ⟨_, rfl⟩
        rw [hSj] at cj rj gj
        rw [hSi] at ci ri gi
        have HST : Hid (room ((Os.take (i + 2)).reverse) = (diffL Sj Si).length + R) := by
          rw [HR.out, ← hSj, ← hSi, hj]
          exact room_step Os i (by rw [HLN.out]; omega)
        obtain ⟨lj, hlj⟩ : ∃ l, Sj.length = l := ⟨_, rfl⟩
        obtain ⟨li, hli⟩ : ∃ l, Si.length = l := ⟨_, rfl⟩
        rw [hlj] at cj
        rw [hli] at ci
        have HDJ : Hid (Calls Tryd.prog 43 #[.slice ej lj kj, .slice ei li ki] (wq.drewN 1) (DfOk (wq.drewN 1) (diffL Sj Si))) := rdiff_any Sj Si lj li gj.1 gi.1 hlj hli (by rw [← hlj]; exact gj.2) (by rw [← hli]; exact gi.2) ej ei kj ki _ (rj.below (below_drawsX (Below.refl _ _) 1)) (ri.below (below_drawsX (Below.refl _ _) 1))
        have HDL : Hid ((diffL Sj Si).length ≤ 65560) := diffL_le gj gi
        have HCJ : Hid (∀ V, Below wq.heap.size wq V → V.cell? ⟨u, 1, none⟩ = some (.slice (some ⟨g, o, none⟩) n c) ∧ V.cell? ⟨g, o + j, none⟩ = some (.slice ej lj kj) ∧ V.cell? ⟨g, o + i, none⟩ = some (.slice ei li ki)) := fun V hV => ⟨(hV.cell (p := ⟨u, 1, none⟩) (cell_lt hA)).trans hA, (hV.cell (p := ⟨g, o + j, none⟩) (cell_lt cj)).trans cj, (hV.cell (p := ⟨g, o + i, none⟩) (cell_lt ci)).trans ci⟩
        clear cj rj gj ci ri gi hSj hSi hlj hli hj
        go_upto_region 7 with fail
        clear hA
        have s0 : (fun V => Below wq.heap.size wq V) (wq.drewN 1) := below_drawsX (Below.refl _ _) 1
        go_cut [5] (fun v wx => ∃ a k, v = .slice a (diffL Sj Si).length k ∧ Hid (Below w.heap.size w wx))
        case first =>
         rename_i J0 K0 hJ0 hK0
         refine wp_region_held (S := fun V => Below wq.heap.size wq V) (by kernel_rfl) ?_
         change wpAnyH _ _ _ _ _ _ _ _ (wq.drewN 1)
         refine takeH (i := 0) (v := .pointer (some ⟨u, 0, none⟩)) _ rfl (by kernel_rfl) (by kernel_rfl) (by kernel_rfl) (fun _ _ _ h => h) (.inl ⟨by kernel_rfl, fun _ _ => by kernel_rfl⟩) s0 rfl ?_
         refine takeH (i := 8) (v := .pointer (some ⟨u, 0, none⟩)) _ rfl (by kernel_rfl) (by kernel_rfl) (by kernel_rfl) (fun _ _ _ h => h) (.inl ⟨by kernel_rfl, fun _ _ => by kernel_rfl⟩) s0 rfl ?_
         refine takeH (i := 4) (v := .int .i64 (i : Nat)) _ rfl (by kernel_rfl) (by kernel_rfl) (by kernel_rfl) (fun _ _ _ h => h) (.inl ⟨by kernel_rfl, fun _ _ => by kernel_rfl⟩) s0 rfl ?_
         refine takeH (i := 12) (v := .int .i64 (i : Nat)) _ rfl (by kernel_rfl) (by kernel_rfl) (by kernel_rfl) (fun _ _ _ h => h) (.inl ⟨by kernel_rfl, fun _ _ => by kernel_rfl⟩) s0 rfl ?_
         refine takeH (i := 1) (v := .pointer (some ⟨u, 0, none⟩)) _ rfl (by kernel_rfl) (by kernel_rfl) (by kernel_rfl) (fun _ _ _ h => h) (.inl ⟨by kernel_rfl, fun _ _ => by kernel_rfl⟩) s0 rfl ?_
         refine takeH (i := 2) (v := .pointer (some ⟨u, 1, none⟩)) _ rfl (by kernel_rfl) (by kernel_rfl) (by kernel_rfl) (fun _ _ _ h => h) (.inl ⟨by kernel_rfl, fun _ _ => by kernel_rfl⟩) s0 rfl ?_
         refine takeH (i := 3) (v := .slice (some ⟨g, o, none⟩) n c) _ rfl (by kernel_rfl) (by kernel_rfl) (by kernel_rfl) (fun _ _ _ h => h) (.inl ⟨by kernel_rfl, fun v hv => by have c : v.cell? ⟨u, 1, none⟩ = some (.slice (some ⟨g, o, none⟩) n c) := (HCJ.out v hv).1; go_simp⟩) s0 rfl ?_
         refine takeH (i := 9) (v := .pointer (some ⟨u, 0, none⟩)) _ rfl (by kernel_rfl) (by kernel_rfl) (by kernel_rfl) (fun _ _ _ h => h) (.inl ⟨by kernel_rfl, fun _ _ => by kernel_rfl⟩) s0 rfl ?_
         refine takeH (i := 10) (v := .pointer (some ⟨u, 1, none⟩)) _ rfl (by kernel_rfl) (by kernel_rfl) (by kernel_rfl) (fun _ _ _ h => h) (.inl ⟨by kernel_rfl, fun _ _ => by kernel_rfl⟩) s0 rfl ?_
         refine takeH (i := 11) (v := .slice (some ⟨g, o, none⟩) n c) _ rfl (by kernel_rfl) (by kernel_rfl) (by kernel_rfl) (fun _ _ _ h => h) (.inl ⟨by kernel_rfl, fun v hv => by have c : v.cell? ⟨u, 1, none⟩ = some (.slice (some ⟨g, o, none⟩) n c) := (HCJ.out v hv).1; go_simp⟩) s0 rfl ?_
         refine takeH (i := 5) (v := .int .i64 (j : Nat)) _ rfl (by kernel_rfl) (by kernel_rfl) (by kernel_rfl) (fun _ _ _ h => h) (.inl ⟨by kernel_rfl, fun v hv => by have hw := wrap_small j (by omega); go_simp⟩) s0 rfl ?_
         refine takeH (i := 6) (v := .pointer (some ⟨g, o + j, none⟩)) _ rfl (by kernel_rfl) (by kernel_rfl) (by kernel_rfl) (fun _ _ _ h => h) (.inl ⟨by kernel_rfl, fun v hv => by have := ijn; go_simp⟩) s0 rfl ?_
         refine takeH (i := 7) (v := .slice ej lj kj) _ rfl (by kernel_rfl) (by kernel_rfl) (by kernel_rfl) (fun _ _ _ h => h) (.inl ⟨by kernel_rfl, fun v hv => by have c : v.cell? ⟨g, o + j, none⟩ = some (.slice ej lj kj) := (HCJ.out v hv).2.1; go_simp⟩) s0 rfl ?_
         refine takeH (i := 13) (v := .pointer (some ⟨g, o + i, none⟩)) _ rfl (by kernel_rfl) (by kernel_rfl) (by kernel_rfl) (fun _ _ _ h => h) (.inl ⟨by kernel_rfl, fun v hv => by have := iin; go_simp⟩) s0 rfl ?_
         refine takeH (i := 14) (v := .slice ei li ki) _ rfl (by kernel_rfl) (by kernel_rfl) (by kernel_rfl) (fun _ _ _ h => h) (.inl ⟨by kernel_rfl, fun v hv => by have c : v.cell? ⟨g, o + i, none⟩ = some (.slice ei li ki) := (HCJ.out v hv).2.2; go_simp⟩) s0 rfl ?_
         refine callHE (i := 15) (f := 43) (args := #[.slice ej lj kj, .slice ei li ki]) (R := fun v w' => Tx w' (wq.drewN 1).heap.size v (diffL Sj Si) ∧ Below (wq.drewN 1).heap.size (wq.drewN 1) w') (by kernel_rfl) rfl (by kernel_rfl) (by kernel_rfl) (HDJ.out.mono fun e w' h => by obtain ⟨v, h1, h2, h3⟩ := h; exact ⟨v, h1, h2, h3⟩) ?_
         rintro v9 w9 ⟨T9, B9⟩
         obtain ⟨a9, k9, hv9⟩ := T9.len
         subst hv9
         have b9 : Below wq.heap.size wq w9 := s0.trans B9
         have HB9 : Hid (Below w.heap.size w w9) := hb.out.trans (b9.mono hb.out.size)
         refine ⟨b9, ?_⟩
         refine takeH (i := 16) (v := .slice a9 (diffL Sj Si).length k9) _ rfl (by kernel_rfl) (by kernel_rfl) (by kernel_rfl) (fun _ _ _ h => h) (.inl ⟨by kernel_rfl, fun _ _ => by kernel_rfl⟩) b9 rfl ?_
         refine wpAnyH_done (by kernel_rfl) ?_ _
         exact hK0 _ _ (Met.intro (hJ0 _ _ ⟨.slice a9 (diffL Sj Si).length k9, .int .i64 (i : Nat), .int .i64 (j : Nat), .pointer (some ⟨u, 0, none⟩), .pointer (some ⟨u, 0, none⟩), .pointer (some ⟨u, 1, none⟩), .slice (some ⟨g, o, none⟩) n c, .int .i64 (n : Nat), .bool true, u37, u38, .pointer (some ⟨u, 0, none⟩), .pointer (some ⟨u, 0, none⟩), .pointer (some ⟨u, 1, none⟩), .slice (some ⟨g, o, none⟩) n c, .int .i64 (i : Nat), .int .i64 (j : Nat), .pointer (some ⟨g, o + j, none⟩), .slice ej lj kj, .pointer (some ⟨u, 0, none⟩), .pointer (some ⟨u, 0, none⟩), .pointer (some ⟨u, 1, none⟩), .slice (some ⟨g, o, none⟩) n c, .int .i64 (i : Nat), .pointer (some ⟨g, o + i, none⟩), .slice ei li ki, .slice a9 (diffL Sj Si).length k9, u55, u56, u57, u58, ⟨a9, k9, rfl, HB9⟩, by kernel_rfl⟩))
        case rest =>
        obtain ⟨a9, k9, hv9, HB9⟩ := hcut
        subst hv9
        generalize wc = w9 at *
        clear s0 HCJ HDJ hb
        obtain ⟨dl, hdl⟩ : ∃ dl, (diffL Sj Si).length = dl := ⟨_, rfl⟩
        have hdl2 := HDL.out
        rw [hdl] at HST hdl2 ⊢
        obtain ⟨s1, hs1⟩ : ∃ s1, s1 = sl + R := ⟨_, rfl⟩
        have HS1 : Hid (s1 = sl + R) := hs1
        have hs1b : s1 ≤ 300000000 := by omega
        rw [← hs1]
        have es1 : (s1 : Int) + (dl : Int) = ((s1 + dl : Nat) : Int) := by omega
        obtain ⟨s2, hs2⟩ : ∃ s2, s2 = s1 + dl := ⟨_, rfl⟩
        have HS2 : Hid (s2 = s1 + dl) := hs2
        have hs2b : s2 ≤ 300100000 := by omega
        rw [← hs2] at es1
        clear hs1 hs2 hdl HDL
        go_upto_region 8 with fail
        go_wp2
        go_roundw
        case rel => exact ⟨j, by omega, by go_num, by rw [show s2 = sl + room ((Os.take (j + 1)).reverse) by rw [HS2.out, HS1.out, HJ.out, HST.out]; omega], HB9⟩
        case measure => have := HJ.out; simp [intOf]; omega
      · have ijn : ¬ (j : Int) < (n : Int) := by omega
        have HFIN : Hid (sl + R = byt Os.reverse) := by
          rw [HBY.out, HR.out, List.take_of_length_le (by rw [HLN.out]; omega)]
          rfl
        clear hj
        obtain ⟨s1, hs1⟩ : ∃ s1, s1 = sl + R := ⟨_, rfl⟩
        rw [← hs1] at HFIN ⊢
        have hs1b : s1 ≤ 300000000 := by omega
        clear hs1
        go_wp2
        go_ret
        exact ⟨congrArg (fun x : Nat => Ending.returned (.int .i64 (x : Int))) HFIN.out, hb.out⟩
end Go.Proofs.YtlckjbangdnejaaDoor
