/-
  answers: Back and At.
-/
import Derived.Test.YtlckjbangdnejaaDoorXtAns
set_option linter.unusedSimpArgs false
set_option linter.unusedVariables false
namespace Go.Proofs.YtlckjbangdnejaaDoor
open Go.RowKit Classical
set_option maxRecDepth 100000 in
set_option maxHeartbeats 6400000 in
theorem ans_2 (w0 : World) (t K u : Nat) (FP FU : Nat → Prop) (Ss : List (List Nat)) (nn : Int) (ea : Option Addr) (y ek : Nat) (W : World) (h : Tu w0 t K u FP FU Ss W) (hK : K ≤ 4095) :
    Calls Tryd.prog 23 #[.pointer (some ⟨t, 0, none⟩), .pointer (some ⟨u, 0, none⟩), .agg #[.int .i64 2, .int .i64 nn, .slice ea y ek]] W fun e W' => e = .returned (.bool true) ∧ ∃ FQ Ts, Tu w0 t K u FQ FU Ts W' := by
  have HT : Hid (Tu w0 t K u FP FU Ss (W.alloc (.cells #[.int .i64 2, .int .i64 nn, .slice ea y ek] 38))) := h.on ((Below.refl _ _).alloc (Nat.le_refl _) _)
  clear h
  obtain ⟨w1, hw1⟩ : ∃ w1, (W.alloc (.cells #[.int .i64 2, .int .i64 nn, .slice ea y ek] 38)) = w1 := ⟨_, rfl⟩
  have HW1 : Hid ((W.alloc (.cells #[.int .i64 2, .int .i64 nn, .slice ea y ek] 38)) = w1) := hw1
  rw [hw1] at HT
  clear hw1
  go_enter Tryd.func23, Tryd.ntmps23
  go_upto_region 1 with fail
  rw [HW1.out]
  have c0 : w1.cell? ⟨W.heap.size, 0, none⟩ = some (.int .i64 2) := by rw [← HW1.out]; exact (Blk.new W _ _).cell 0
  clear HW1
  go_upto_region 12 with fail
  clear c0
  cases Ss with
  | nil =>
    go_wp2_with fail
    refine (back_empty FP t K w1 HT.out.t1).mono ?_
    rintro e w2 ⟨rfl, rfl⟩
    go_wp2_with fail
    refine (dback_empty FU u (K + 1) w2 HT.out.t2).mono ?_
    rintro e w3 ⟨rfl, rfl⟩
    go_wp2_with fail
    refine (same_any [] [] 0 0 (fun _ h => by cases h) (fun _ h => by cases h) rfl rfl (by decide) none none 0 0 _ (.inl rfl) (.inl rfl)).mono ?_
    rintro e w4 ⟨rfl, b4⟩
    have HT4 : Hid (Tu w0 t K u FP FU [] w4) := HT.out.on b4
    clear b4 HT
    rw [sameB_self]
    go_upto_region 16 with fail
    go_loopw [16] (fun x wr => x = .int .i64 0 ∧ Hid (Tu w0 t K u FP FU [] wr)) (fun x _ => 0)
    case atStart => exact ⟨rfl, HT4⟩
    case round =>
      obtain ⟨rfl, hb⟩ := hrel
      go_wp2
      go_ret
      exact ⟨rfl, FP, [], hb.out⟩
  | cons S0 rest =>
    go_wp2_with fail
    refine (back_some FP t K S0 rest w1 HT.out.t1).mono ?_
    rintro e w2 ⟨g, rfl, O2, hgF, T2, K2⟩
    have hgb := HT.out.f1 g hgF
    have hgU := HT.out.ap g hgF
    have hS0 : Good S0 := HT.out.t1.good S0 (by simp)
    have D2 : Dt FU u (K + 1) (rest.reverse ++ [S0]) w2 := by
      rw [← List.reverse_cons]
      exact HT.out.t2.on fun k hk => K2.block k (HT.out.f2 k hk).2 fun h => HT.out.ap k h hk
    have HD2 : Hid (Dt FU u (K + 1) (rest.reverse ++ [S0]) w2) := D2
    obtain ⟨np, hnp⟩ : ∃ np, S0.length = np := ⟨_, rfl⟩
    rw [hnp]
    have HNP : Hid (S0.length = np) := hnp
    have hnp6 : np ≤ 65536 := by rw [← hnp]; exact hS0.2
    have HGS : Hid (Bytes S0 ∧ S0.length = np) := ⟨hS0.1, hnp⟩
    have HM : Hid (Own w2 g S0 ∧ Tp (fun k => (FP k ∧ k ≠ g) ∨ (w1.heap.size ≤ k ∧ k < w2.heap.size)) t K rest w2 ∧ Kp FP w1 w2 ∧ FP g) := ⟨O2, T2, K2, hgF⟩
    clear O2 T2 K2 D2 hgF hgb hgU hS0 hnp
    go_wp2_with fail
    refine (dback_some FU u (K + 1) rest.reverse S0 w2 HD2.out (by omega)).mono ?_
    rintro e w3 ⟨a3, k3, rfl, R3, D3, K3⟩
    rw [HNP.out]
    have HO3 : Hid (Own w3 g S0) := K3.own HM.out.1 (HT.out.ap g HM.out.2.2.2)
    have HT3 : Hid (Tu w0 t K u (fun k => (FP k ∧ k ≠ g) ∨ (w1.heap.size ≤ k ∧ k < w2.heap.size)) FU rest w3) := by
      have hs1 := HM.out.2.2.1.size
      have hs2 := K3.size
      have b2 : Below w0.heap.size w0 w2 := HT.out.b.trans (HM.out.2.2.1.below HT.out.b.size fun k hk => (HT.out.f1 k hk).1)
      have hap : ∀ k, ((FP k ∧ k ≠ g) ∨ (w1.heap.size ≤ k ∧ k < w2.heap.size)) → ¬ FU k := fun k hk hu => by
        rcases hk with h | h
        · exact HT.out.ap k h.1 hu
        · have := (HT.out.f2 k hu).2; omega
      have hlt : ∀ k, ((FP k ∧ k ≠ g) ∨ (w1.heap.size ≤ k ∧ k < w2.heap.size)) → w0.heap.size ≤ k ∧ k < w2.heap.size := fun k hk => by
        have := HT.out.b.size
        rcases hk with h | h
        · have := HT.out.f1 k h.1; omega
        · omega
      exact ⟨HM.out.2.1.on fun k hk => K3.block k (hlt k hk).2 (hap k hk), D3, fun k hk => ⟨(hlt k hk).1, by have := (hlt k hk).2; omega⟩, fun k hk => ⟨(HT.out.f2 k hk).1, by have := (HT.out.f2 k hk).2; omega⟩, hap, b2.trans (K3.below b2.size fun k hk => (HT.out.f2 k hk).1)⟩
    have HG : Hid (w0.heap.size ≤ g ∧ ¬ ((FP g ∧ g ≠ g) ∨ (w1.heap.size ≤ g ∧ g < w2.heap.size)) ∧ ¬ FU g) := ⟨(HT.out.f1 g HM.out.2.2.2).1, fun h => by
      rcases h with h | h
      · exact h.2 rfl
      · have := (HT.out.f1 g HM.out.2.2.2).2; omega, HT.out.ap g HM.out.2.2.2⟩
    have HR3 : Hid (Row w3 a3 S0) := R3
    obtain ⟨FQ, hFQ⟩ : ∃ FQ : Nat → Prop, (fun k => (FP k ∧ k ≠ g) ∨ (w1.heap.size ≤ k ∧ k < w2.heap.size)) = FQ := ⟨_, rfl⟩
    have HG2 : Hid (w0.heap.size ≤ g ∧ ¬ FQ g ∧ ¬ FU g) := by rw [← hFQ]; exact HG.out
    rw [hFQ] at HT3
    clear R3 D3 K3 HT HM HD2 HG hFQ
    have HG : Hid (w0.heap.size ≤ g ∧ ¬ FQ g ∧ ¬ FU g) := HG2
    obtain ⟨Ts, hTs⟩ : ∃ Ts, rest = Ts := ⟨_, rfl⟩
    rw [hTs] at HT3
    clear hTs HG2
    go_upto_region 14 with fail
    go_wp2_with fail
    refine (same_any S0 S0 np np HGS.out.1 HGS.out.1 HGS.out.2 HGS.out.2 (by omega) (some ⟨g, 0, none⟩) a3 np k3 w3 HO3.out.row HR3.out).mono ?_
    rintro e w4 ⟨rfl, b4⟩
    rw [sameB_self]
    have HT4 : Hid (Tu w0 t K u FQ FU Ts w4) := HT3.out.on b4
    have HO4 : Hid (Own w4 g S0) := HO3.out.below HO3.out.lt b4
    have HBL : Hid (Bytes S0 ∧ S0.length = np) := HGS
    clear b4 HT3 HO3 HR3
    go_upto_region 16 with fail
    go_loopw [16] (fun x wr => ∃ (q : Nat) (Ld : List Nat), q ≤ np ∧ x = .int .i64 q ∧ Hid (Own wr g Ld) ∧ Hid (Bytes Ld ∧ Ld.length = np) ∧ Hid (Kp (fun k => k = g) w4 wr)) (fun x _ => np - (intOf x).toNat)
    case atStart => exact ⟨0, S0, by omega, rfl, HO4, HBL, Kp.refl _ _⟩
    case round =>
    obtain ⟨q, Ld, hq, rfl, hX, hLd, hKz⟩ := hrel
    by_cases hqy : q < np
    · have iqy : (q : Int) < (np : Int) := by omega
      obtain ⟨y1, hy1⟩ : ∃ y1, y1 = Ld.getD q 0 := ⟨_, rfl⟩
      have d9 := hX.out.cell q (by rw [hLd.out.2]; exact hqy)
      have f9 := hX.out.free q
      have b9 := bytes_at hLd.out.1 q
      rw [← hy1] at d9 b9
      have e1 : bits .xor .u8 (y1 : Int) 53 = ((y1 ^^^ 53 : Nat) : Int) := xor_u8 y1 53 b9 (by decide)
      have HS : Hid (Own (wr.setCell ⟨g, q, none⟩ (.int .u8 ((y1 ^^^ 53 : Nat) : Int))) g (Ld.set q (y1 ^^^ 53))) := hX.out.set q _
      have HLS : Hid (Bytes (Ld.set q (y1 ^^^ 53)) ∧ (Ld.set q (y1 ^^^ 53)).length = np) := ⟨fun x hx => by
        rcases List.mem_or_eq_of_mem_set hx with h | rfl
        · exact hLd.out.1 x h
        · exact Nat.xor_lt_two_pow (n := 8) b9 (by decide), by rw [List.length_set]; exact hLd.out.2⟩
      have HKS : Hid (Kp (fun k => k = g) w4 (wr.setCell ⟨g, q, none⟩ (.int .u8 ((y1 ^^^ 53 : Nat) : Int)))) := hKz.out.trans (Kp.of_grown (grown_set wr g q _) rfl)
      clear hX hLd hKz hy1
      go_wp2
      go_roundw
      case rel => exact ⟨q + 1, Ld.set q (y1 ^^^ 53), by omega, by go_num, HS, HLS, HKS⟩
      case measure => simp [intOf]; omega
    · obtain rfl : q = np := by omega
      have HTF : Hid (Tu w0 t K u FQ FU Ts wr) := HT4.out.kp hKz.out fun k hk => by rw [hk]; exact HG.out
      clear hX hLd hKz
      go_wp2
      go_ret
      exact ⟨rfl, FQ, Ts, HTF.out⟩
set_option maxRecDepth 100000 in
set_option maxHeartbeats 6400000 in
theorem ans_3 (w0 : World) (t K u : Nat) (FP FU : Nat → Prop) (Ss : List (List Nat)) (nn : Int) (ea : Option Addr) (y ek : Nat) (W : World) (h : Tu w0 t K u FP FU Ss W) (hK : K ≤ 4095) :
    Calls Tryd.prog 23 #[.pointer (some ⟨t, 0, none⟩), .pointer (some ⟨u, 0, none⟩), .agg #[.int .i64 3, .int .i64 nn, .slice ea y ek]] W fun e W' => e = .returned (.bool true) ∧ Tu w0 t K u FP FU Ss W' := by
  have HT : Hid (Tu w0 t K u FP FU Ss (W.alloc (.cells #[.int .i64 3, .int .i64 nn, .slice ea y ek] 38))) := h.on ((Below.refl _ _).alloc (Nat.le_refl _) _)
  clear h
  obtain ⟨w1, hw1⟩ : ∃ w1, (W.alloc (.cells #[.int .i64 3, .int .i64 nn, .slice ea y ek] 38)) = w1 := ⟨_, rfl⟩
  have HW1 : Hid ((W.alloc (.cells #[.int .i64 3, .int .i64 nn, .slice ea y ek] 38)) = w1) := hw1
  rw [hw1] at HT
  clear hw1
  go_enter Tryd.func23, Tryd.ntmps23
  go_upto_region 1 with fail
  rw [HW1.out]
  have c0 : w1.cell? ⟨W.heap.size, 0, none⟩ = some (.int .i64 3) := by rw [← HW1.out]; exact (Blk.new W _ _).cell 0
  have c1 : w1.cell? ⟨W.heap.size, 1, none⟩ = some (.int .i64 nn) := by rw [← HW1.out]; exact (Blk.new W _ _).cell 1
  have HC1 : Hid (∀ V, Below w1.heap.size w1 V → V.cell? ⟨W.heap.size, 1, none⟩ = some (.int .i64 nn)) := fun V hV => (hV.cell (p := ⟨W.heap.size, 1, none⟩) (cell_lt c1)).trans c1
  clear HW1
  go_upto_region 21 with fail
  clear c0
  by_cases hbad : nn < 0 ∨ (Ss.length : Int) ≤ nn
  · have HBAD : Hid (nn < 0 ∨ (Ss.length : Int) ≤ nn) := hbad
    clear hbad
    go_wp2_with fail
    refine (at_bad FP t K Ss w1 HT.out.t1 nn HBAD.out).mono ?_
    rintro e w2 ⟨rfl, rfl⟩
    go_wp2_with fail
    refine (dat_bad FU u (K + 1) Ss.reverse w2 HT.out.t2 nn (by rw [List.length_reverse]; exact HBAD.out)).mono ?_
    rintro e w3 ⟨rfl, rfl⟩
    go_wp2_with fail
    refine (same_any [] [] 0 0 (fun _ h => by cases h) (fun _ h => by cases h) rfl rfl (by decide) none none 0 0 _ (.inl rfl) (.inl rfl)).mono ?_
    rintro e w4 ⟨rfl, b4⟩
    have HT4 : Hid (Tu w0 t K u FP FU Ss w4) := HT.out.on b4
    clear b4 HT c1
    rw [sameB_self]
    go_upto_region 25 with fail
    go_loopw [22] (fun x wr => x = .int .i64 0 ∧ Hid (Tu w0 t K u FP FU Ss wr)) (fun x _ => 0)
    case atStart => exact ⟨rfl, HT4⟩
    case round =>
      obtain ⟨rfl, hb⟩ := hrel
      go_wp2
      go_ret
      exact ⟨rfl, hb.out⟩
  · obtain ⟨i, rfl⟩ : ∃ i : Nat, nn = (i : Int) := ⟨nn.toNat, by omega⟩
    have hi : i < Ss.length := by omega
    have hS0 : Good (Ss.getD i []) := HT.out.t1.good _ (by rw [List.getD, List.getElem?_eq_getElem hi, Option.getD_some]; exact List.getElem_mem _)
    have HI : Hid (i < Ss.length) := hi
    clear hi hbad
    go_wp2_with fail
    refine (at_good FP t K Ss w1 HT.out.t1 i HI.out).mono ?_
    rintro e w2 ⟨g, rfl, hg, O2, b2⟩
    have HT2 : Hid (Tu w0 t K u FP FU Ss w2) := HT.out.on b2
    have c12 := HC1.out w2 b2
    have HDA : Hid (Calls Tryd.prog 42 #[.pointer (some ⟨u, 0, none⟩), .int .i64 i] w2 fun e w' => ∃ v, e = .returned (.tuple #[v, .int .i64 0]) ∧ Tx w' w2.heap.size v (Ss.getD i []) ∧ Below w2.heap.size w2 w') := by
      have := dat_good FU u (K + 1) Ss.reverse w2 HT2.out.t2 (by omega) i (by rw [List.length_reverse]; exact HI.out)
      rw [rev_getD Ss i HI.out] at this
      exact this
    obtain ⟨S0, hs0⟩ : ∃ S0, Ss.getD i [] = S0 := ⟨_, rfl⟩
    rw [hs0] at O2 HDA hS0 ⊢
    obtain ⟨np, hnp⟩ : ∃ np, S0.length = np := ⟨_, rfl⟩
    rw [hnp]
    have hnp6 : np ≤ 65536 := by rw [← hnp]; exact hS0.2
    have HGS : Hid (Bytes S0 ∧ S0.length = np) := ⟨hS0.1, hnp⟩
    have HO2 : Hid (Own w2 g S0) := O2
    have HG : Hid (w0.heap.size ≤ g ∧ ¬ FP g ∧ ¬ FU g) := ⟨Nat.le_trans HT.out.b.size hg, fun h => by have := (HT.out.f1 g h).2; omega, fun h => by have := (HT.out.f2 g h).2; omega⟩
    clear O2 b2 hg hS0 hs0 hnp HT HC1 HI c1
    go_wp2_with fail
    refine HDA.out.mono ?_
    rintro e w3 ⟨v3, rfl, T3, b3⟩
    obtain ⟨a3, k3, rfl, -, RF, -⟩ := T3.full
    rw [HGS.out.2]
    have HR3 : Hid (Row w3 a3 S0) := RF.row
    have HT3 : Hid (Tu w0 t K u FP FU Ss w3) := HT2.out.on b3
    have HO3 : Hid (Own w3 g S0) := HO2.out.below HO2.out.lt b3
    clear T3 b3 RF HT2 HO2 HDA c12
    go_upto_region 23 with fail
    go_wp2_with fail
    refine (same_any S0 S0 np np HGS.out.1 HGS.out.1 HGS.out.2 HGS.out.2 (by omega) (some ⟨g, 0, none⟩) a3 np k3 w3 HO3.out.row HR3.out).mono ?_
    rintro e w4 ⟨rfl, b4⟩
    rw [sameB_self]
    have HT4 : Hid (Tu w0 t K u FP FU Ss w4) := HT3.out.on b4
    have HO4 : Hid (Own w4 g S0) := HO3.out.below HO3.out.lt b4
    have HBL : Hid (Bytes S0 ∧ S0.length = np) := HGS
    clear b4 HT3 HO3 HR3
    go_upto_region 25 with fail
    go_loopw [22] (fun x wr => ∃ (q : Nat) (Ld : List Nat), q ≤ np ∧ x = .int .i64 q ∧ Hid (Own wr g Ld) ∧ Hid (Bytes Ld ∧ Ld.length = np) ∧ Hid (Kp (fun k => k = g) w4 wr)) (fun x _ => np - (intOf x).toNat)
    case atStart => exact ⟨0, S0, by omega, rfl, HO4, HBL, Kp.refl _ _⟩
    case round =>
    obtain ⟨q, Ld, hq, rfl, hX, hLd, hKz⟩ := hrel
    by_cases hqy : q < np
    · have iqy : (q : Int) < (np : Int) := by omega
      obtain ⟨y1, hy1⟩ : ∃ y1, y1 = Ld.getD q 0 := ⟨_, rfl⟩
      have d9 := hX.out.cell q (by rw [hLd.out.2]; exact hqy)
      have f9 := hX.out.free q
      have b9 := bytes_at hLd.out.1 q
      rw [← hy1] at d9 b9
      have e1 : bits .xor .u8 (y1 : Int) 83 = ((y1 ^^^ 83 : Nat) : Int) := xor_u8 y1 83 b9 (by decide)
      have HS : Hid (Own (wr.setCell ⟨g, q, none⟩ (.int .u8 ((y1 ^^^ 83 : Nat) : Int))) g (Ld.set q (y1 ^^^ 83))) := hX.out.set q _
      have HLS : Hid (Bytes (Ld.set q (y1 ^^^ 83)) ∧ (Ld.set q (y1 ^^^ 83)).length = np) := ⟨fun x hx => by
        rcases List.mem_or_eq_of_mem_set hx with h | rfl
        · exact hLd.out.1 x h
        · exact Nat.xor_lt_two_pow (n := 8) b9 (by decide), by rw [List.length_set]; exact hLd.out.2⟩
      have HKS : Hid (Kp (fun k => k = g) w4 (wr.setCell ⟨g, q, none⟩ (.int .u8 ((y1 ^^^ 83 : Nat) : Int)))) := hKz.out.trans (Kp.of_grown (grown_set wr g q _) rfl)
      clear hX hLd hKz hy1
      go_wp2
      go_roundw
      case rel => exact ⟨q + 1, Ld.set q (y1 ^^^ 83), by omega, by go_num, HS, HLS, HKS⟩
      case measure => simp [intOf]; omega
    · obtain rfl : q = np := by omega
      have HTF : Hid (Tu w0 t K u FP FU Ss wr) := HT4.out.kp hKz.out fun k hk => by rw [hk]; exact HG.out
      clear hX hLd hKz
      go_wp2
      go_ret
      exact ⟨rfl, HTF.out⟩
end Go.Proofs.YtlckjbangdnejaaDoor
