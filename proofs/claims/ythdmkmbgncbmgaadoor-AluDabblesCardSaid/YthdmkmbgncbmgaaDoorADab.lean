/-
  The law AluDabbles returns true for every two bytes: doubling in decimal; condition: the two tables lie in their variables.
-/
import Derived.Test.YthdmkmbgncbmgaaDoorALdo2
import Derived.Test.YthdmkmbgncbmgaaDoorADig
import Derived.Deep.CutBlock
import Derived.Deep.DeepCutAuto
namespace Go.Proofs.YthdmkmbgncbmgaaDoor
open Go.RowKit
theorem wf8 {n : Int} (h : (Lit.int .u8 n).wf = true) : 0 ≤ n ∧ n ≤ 255 := by
  simp [Lit.wf, IntKind.min, IntKind.max, IntKind.signed, IntKind.bits] at h
  omega
theorem wLDA (a x y s m v : Int) (F : Fl) (w : World) :
    Calls Tryd.prog 9 #[.int .i64 29, .agg #[.int .u8 a, .int .u8 x, .int .u8 y, .int .u8 s, .int .u8 (F.val : Nat), .int .u8 m], .int .u8 v] w fun e w' => ∃ G' : Fl, G'.c = F.c ∧ G'.d = F.d ∧ e = .returned (.agg #[.int .u8 (v), .int .u8 (x), .int .u8 y, .int .u8 s, .int .u8 (G'.val : Nat), .int .u8 (v)]) ∧ Below w.heap.size w w' := by
  refine (ldo_29 a x y s m v F w).mono ?_
  rintro e w' ⟨rfl, hb⟩
  exact ⟨nzF v F, rfl, rfl, rfl, hb⟩
theorem wSTA (a x y s m v : Int) (F : Fl) (w : World) :
    Calls Tryd.prog 9 #[.int .i64 47, .agg #[.int .u8 a, .int .u8 x, .int .u8 y, .int .u8 s, .int .u8 (F.val : Nat), .int .u8 m], .int .u8 v] w fun e w' => ∃ G' : Fl, G'.c = F.c ∧ G'.d = F.d ∧ e = .returned (.agg #[.int .u8 (a), .int .u8 (x), .int .u8 y, .int .u8 s, .int .u8 (G'.val : Nat), .int .u8 (a)]) ∧ Below w.heap.size w w' := by
  refine (ldo_47 a x y s m v F w).mono ?_
  rintro e w' ⟨rfl, hb⟩
  exact ⟨F, rfl, rfl, rfl, hb⟩
theorem wASL (a x y s m v : Int) (F : Fl) (w : World) (v0 : 0 ≤ v) (v1 : v ≤ 255) :
    Calls Tryd.prog 9 #[.int .i64 2, .agg #[.int .u8 a, .int .u8 x, .int .u8 y, .int .u8 s, .int .u8 (F.val : Nat), .int .u8 m], .int .u8 v] w fun e w' => ∃ G' : Fl, G'.c = decide (128 ≤ v) ∧ G'.d = F.d ∧ e = .returned (.agg #[.int .u8 (a), .int .u8 (x), .int .u8 y, .int .u8 s, .int .u8 (G'.val : Nat), .int .u8 (v * 2 % 256)]) ∧ Below w.heap.size w w' := by
  refine (ldo_2 a x y s m v F w v0 v1).mono ?_
  rintro e w' ⟨rfl, hb⟩
  exact ⟨shF 2 v F, rfl, rfl, rfl, hb⟩
theorem wSED (a x y s m v : Int) (F : Fl) (w : World) (T : STab w) :
    Calls Tryd.prog 9 #[.int .i64 45, .agg #[.int .u8 a, .int .u8 x, .int .u8 y, .int .u8 s, .int .u8 (F.val : Nat), .int .u8 m], .int .u8 v] w fun e w' => ∃ G' : Fl, G'.c = F.c ∧ G'.d = true ∧ e = .returned (.agg #[.int .u8 (a), .int .u8 (x), .int .u8 y, .int .u8 s, .int .u8 (G'.val : Nat), .int .u8 (v)]) ∧ Below w.heap.size w w' := by
  refine (ldo_45 a x y s m v F w T).mono ?_
  rintro e w' ⟨rfl, hb⟩
  exact ⟨F.put 8 true, rfl, rfl, rfl, hb⟩
theorem wADCd (u u' x y s m : Int) (F : Fl) (w : World) (u0 : 0 ≤ u) (u1 : u ≤ 99) (v0 : 0 ≤ u') (v1 : u' ≤ 99) (hd : F.d = true) :
    Calls Tryd.prog 9 #[.int .i64 0, .agg #[.int .u8 (dg u), .int .u8 x, .int .u8 y, .int .u8 s, .int .u8 (F.val : Nat), .int .u8 m], .int .u8 (dg u')] w fun e w' => ∃ G' : Fl, G'.c = decide (100 ≤ u + u' + ci F.c) ∧ G'.d = true ∧ e = .returned (.agg #[.int .u8 (dg ((u + u' + ci F.c) % 100)), .int .u8 x, .int .u8 y, .int .u8 s, .int .u8 (G'.val : Nat), .int .u8 (dg u')]) ∧ Below w.heap.size w w' := by
  obtain ⟨h1, h2, h3⟩ := dec_add u u' F u0 u1 v0 v1 hd
  have bx := dg_bd u u0 u1
  have bY := dg_bd u' v0 v1
  refine (ldo_0 (dg u) x y s m (dg u') F w bx.1 (by omega) bY.1 (by omega)).mono ?_
  rintro e w' ⟨rfl, hb⟩
  exact ⟨adcF (dg u) (dg u') F, h2, h3, by rw [h1], hb⟩
def tt (n k : Nat) : Nat := n / 2 ^ (8 - k)
def vv (n k : Nat) : Nat := n * 2 ^ k % 256
theorem tv (n : Nat) (h : n < 256) : tt n 0 = 0 ∧ vv n 0 = n ∧ tt n 8 = n ∧ vv n 8 = 0 ∧ ∀ k, k < 8 → tt n (k + 1) = 2 * tt n k + vv n k / 128 ∧ vv n (k + 1) = vv n k * 2 % 256 ∧ tt n k ≤ 255 ∧ vv n k ≤ 255 := by
  revert n
  decide +kernel
theorem dg_small (h : Int) (h0 : 0 ≤ h) (h1 : h ≤ 9) : dg h = h := by unfold dg; omega
set_option maxHeartbeats 4000000 in
theorem law_aluDabbles (a0 : Int) (F : Fl) (w : World) (w0 : (Lit.int .u8 a0).wf = true) (T : STab w) :
    Calls Tryd.prog 3 #[.int .u8 a0, .int .u8 (F.val : Nat)] w fun e w' => e = .returned (.bool true) ∧ Below w.heap.size w w' := by
  obtain ⟨n0, n1⟩ := wf8 w0
  obtain ⟨n, rfl⟩ := Int.eq_ofNat_of_zero_le n0
  obtain ⟨t0, v0, t8, v8, tv'⟩ := tv n (by omega)
  have HTV : Hid _ := tv'
  have H8 : Hid _ := And.intro t8 v8
  clear w0 tv' t8 v8
  go_enter Tryd.func3, Tryd.ntmps3
  go_upto_region 1 with fail
  go_cut [5] (fun q wx => ∃ (b : Nat) (G' : Fl), q = .pointer (some ⟨b, 0, none⟩) ∧ w.heap.size ≤ b ∧ G'.d = true ∧ Blk wx b #[.int .u8 (0), .int .u8 (0), .int .u8 0, .int .u8 0, .int .u8 (G'.val : Nat), .int .u8 (0)] ∧ Below w.heap.size w wx)
  case first =>
    go_wp2_with (go_at_call 9; refine (wSED _ _ _ _ _ _ _ _ T).mono ?_; rintro e w1 ⟨G', e1, e2, rfl, hb1⟩)
    go_meet
    exact ⟨_, G', rfl, hb1.size, e2, by first | exact Blk.new _ _ | exact (Blk.new _ _).set6 _ _ _ _ _ _, by first | exact hb1.alloc hb1.size _ | exact below_set6 (hb1.alloc hb1.size _) hb1.size _ _ _ _ _ _⟩
  case rest =>
    obtain ⟨b, G, rfl, hbB, hd, hB, hw⟩ := hcut
    go_wp2
    go_loopw [6, 7, 8, 9] (fun u h v i wr => ∃ (k : Nat) (A M : Int) (G : Fl), k ≤ 8 ∧ i = .int .i64 k ∧ u = .int .u8 (dg ((tt n k : Nat) % 100)) ∧ h = .int .u8 (dg ((tt n k : Nat) / 100)) ∧ v = .int .u8 (vv n k : Nat) ∧ G.d = true ∧ Blk wr b #[.int .u8 (A), .int .u8 (0), .int .u8 0, .int .u8 0, .int .u8 (G.val : Nat), .int .u8 (M)] ∧ Below w.heap.size w wr) (fun _ _ _ i _ => 8 - (intOf i).toNat)
    case atStart => exact ⟨0, 0, 0, G, by omega, rfl, by rw [t0]; rfl, by rw [t0]; rfl, by rw [v0], hd, hB, hw⟩
    case round =>
      clear hB hw hd T
      obtain ⟨k, A, M, G, hk, rfl, rfl, rfl, rfl, hd, hB, hw⟩ := hrel
      by_cases hk8 : k = 8
      · subst hk8
        obtain ⟨t8, v8⟩ := H8.out
        rw [t8, v8]
        have hq := dg_small ((n : Int) / 100) (by omega) (by omega)
        rw [hq]
        go_wp2_with (go_at_call 10; refine (digits_any _ _ (by omega) (by omega)).mono ?_; rintro e w' ⟨rfl, rfl⟩)
        go_ret
        exact ⟨rfl, hw⟩
      · obtain ⟨s1, s2, b1, b2⟩ := HTV.out k (by omega)
        have HN : Hid _ := And.intro s1 s2
        clear s1 s2
        have hlt8 : (k : Int) < 8 := by omega
        generalize hV : vv n k = V at *
        generalize hT : tt n k = t at *
        have hcell := hB.cell
        have hfree := hB.free
        have hlt := hB.lt
        have bt : (t : Int) % 100 ≤ 99 ∧ 0 ≤ (t : Int) % 100 := by omega
        have bh : (t : Int) / 100 ≤ 2 ∧ 0 ≤ (t : Int) / 100 := by omega
        go_upto_region 7 with fail
        go_cut [] (fun wx => ∃ G' : Fl, G'.c = decide (128 ≤ (V : Int)) ∧ G'.d = true ∧ Blk wx b #[.int .u8 (A), .int .u8 (0), .int .u8 0, .int .u8 0, .int .u8 (G'.val : Nat), .int .u8 ((V : Int) * 2 % 256)] ∧ Below w.heap.size w wx)
        case first =>
          go_wp2_with (go_at_call 9; refine (wASL _ _ _ _ _ _ _ _ (by omega) (by omega)).mono ?_; rintro e w1 ⟨G', e1, e2, rfl, hb1⟩; have hk1 := hB.below hlt hb1; have hcell1 := hk1.cell; have hfree1 := hk1.free)
          go_meet
          exact ⟨G', e1, e2.trans hd, hk1.set6 _ _ _ _ _ _, below_set6 (hw.trans (hb1.mono hw.size)) hbB _ _ _ _ _ _⟩
        case rest =>
        clear hB hw hcell hfree hlt
        obtain ⟨G1, c_G1, d_G1, hB, hw⟩ := hcut
        have K_G1 : Hid _ := c_G1
        clear c_G1
        have hcell := hB.cell
        have hfree := hB.free
        have hlt := hB.lt
        go_upto_region 9 with fail
        go_cut [] (fun wx => ∃ G' : Fl, G'.c = decide (128 ≤ (V : Int)) ∧ G'.d = true ∧ Blk wx b #[.int .u8 (dg ((t : Int) % 100)), .int .u8 (0), .int .u8 0, .int .u8 0, .int .u8 (G'.val : Nat), .int .u8 (dg ((t : Int) % 100))] ∧ Below w.heap.size w wx)
        case first =>
          go_wp2_with (go_at_call 9; refine (wLDA _ _ _ _ _ _ _ _).mono ?_; rintro e w1 ⟨G', e1, e2, rfl, hb1⟩; have hk1 := hB.below hlt hb1; have hcell1 := hk1.cell; have hfree1 := hk1.free)
          go_meet
          exact ⟨G', e1.trans K_G1.out, e2.trans d_G1, hk1.set6 _ _ _ _ _ _, below_set6 (hw.trans (hb1.mono hw.size)) hbB _ _ _ _ _ _⟩
        case rest =>
        clear hB hw hcell hfree hlt
        obtain ⟨G2, c_G2, d_G2, hB, hw⟩ := hcut
        have K_G2 : Hid _ := c_G2
        clear c_G2
        have hcell := hB.cell
        have hfree := hB.free
        have hlt := hB.lt
        go_upto_region 10 with fail
        go_cut [] (fun wx => ∃ G' : Fl, G'.c = decide (100 ≤ (t : Int) % 100 + (t : Int) % 100 + ci G2.c) ∧ G'.d = true ∧ Blk wx b #[.int .u8 (dg (((t : Int) % 100 + (t : Int) % 100 + ci G2.c) % 100)), .int .u8 (0), .int .u8 0, .int .u8 0, .int .u8 (G'.val : Nat), .int .u8 (dg ((t : Int) % 100))] ∧ Below w.heap.size w wx)
        case first =>
          go_wp2_with (go_at_call 9; refine (wADCd ((t : Int) % 100) ((t : Int) % 100) _ _ _ _ _ _ (by omega) (by omega) (by omega) (by omega) d_G2).mono ?_; rintro e w1 ⟨G', e1, e2, rfl, hb1⟩; have hk1 := hB.below hlt hb1; have hcell1 := hk1.cell; have hfree1 := hk1.free)
          go_meet
          exact ⟨G', e1, e2, hk1.set6 _ _ _ _ _ _, below_set6 (hw.trans (hb1.mono hw.size)) hbB _ _ _ _ _ _⟩
        case rest =>
        clear hB hw hcell hfree hlt
        obtain ⟨G3, c_G3, d_G3, hB, hw⟩ := hcut
        have K_G3 : Hid _ := c_G3
        clear c_G3
        have hcell := hB.cell
        have hfree := hB.free
        have hlt := hB.lt
        go_upto_region 11 with fail
        go_cut [] (fun wx => ∃ G' : Fl, G'.c = decide (100 ≤ (t : Int) % 100 + (t : Int) % 100 + ci G2.c) ∧ G'.d = true ∧ Blk wx b #[.int .u8 (dg (((t : Int) % 100 + (t : Int) % 100 + ci G2.c) % 100)), .int .u8 (0), .int .u8 0, .int .u8 0, .int .u8 (G'.val : Nat), .int .u8 (dg (((t : Int) % 100 + (t : Int) % 100 + ci G2.c) % 100))] ∧ Below w.heap.size w wx)
        case first =>
          go_wp2_with (go_at_call 9; refine (wSTA _ _ _ _ _ _ _ _).mono ?_; rintro e w1 ⟨G', e1, e2, rfl, hb1⟩; have hk1 := hB.below hlt hb1; have hcell1 := hk1.cell; have hfree1 := hk1.free)
          go_meet
          exact ⟨G', e1.trans K_G3.out, e2.trans d_G3, hk1.set6 _ _ _ _ _ _, below_set6 (hw.trans (hb1.mono hw.size)) hbB _ _ _ _ _ _⟩
        case rest =>
        clear hB hw hcell hfree hlt
        obtain ⟨G4, c_G4, d_G4, hB, hw⟩ := hcut
        have K_G4 : Hid _ := c_G4
        clear c_G4
        have hcell := hB.cell
        have hfree := hB.free
        have hlt := hB.lt
        go_upto_region 13 with fail
        go_cut [] (fun wx => ∃ G' : Fl, G'.c = decide (100 ≤ (t : Int) % 100 + (t : Int) % 100 + ci G2.c) ∧ G'.d = true ∧ Blk wx b #[.int .u8 (dg ((t : Int) / 100)), .int .u8 (0), .int .u8 0, .int .u8 0, .int .u8 (G'.val : Nat), .int .u8 (dg ((t : Int) / 100))] ∧ Below w.heap.size w wx)
        case first =>
          go_wp2_with (go_at_call 9; refine (wLDA _ _ _ _ _ _ _ _).mono ?_; rintro e w1 ⟨G', e1, e2, rfl, hb1⟩; have hk1 := hB.below hlt hb1; have hcell1 := hk1.cell; have hfree1 := hk1.free)
          go_meet
          exact ⟨G', e1.trans K_G4.out, e2.trans d_G4, hk1.set6 _ _ _ _ _ _, below_set6 (hw.trans (hb1.mono hw.size)) hbB _ _ _ _ _ _⟩
        case rest =>
        clear hB hw hcell hfree hlt
        obtain ⟨G5, c_G5, d_G5, hB, hw⟩ := hcut
        have K_G5 : Hid _ := c_G5
        clear c_G5
        have hcell := hB.cell
        have hfree := hB.free
        have hlt := hB.lt
        go_upto_region 14 with fail
        go_cut [] (fun wx => ∃ G' : Fl, G'.c = decide (100 ≤ (t : Int) / 100 + (t : Int) / 100 + ci G5.c) ∧ G'.d = true ∧ Blk wx b #[.int .u8 (dg (((t : Int) / 100 + (t : Int) / 100 + ci G5.c) % 100)), .int .u8 (0), .int .u8 0, .int .u8 0, .int .u8 (G'.val : Nat), .int .u8 (dg ((t : Int) / 100))] ∧ Below w.heap.size w wx)
        case first =>
          go_wp2_with (go_at_call 9; refine (wADCd ((t : Int) / 100) ((t : Int) / 100) _ _ _ _ _ _ (by omega) (by omega) (by omega) (by omega) d_G5).mono ?_; rintro e w1 ⟨G', e1, e2, rfl, hb1⟩; have hk1 := hB.below hlt hb1; have hcell1 := hk1.cell; have hfree1 := hk1.free)
          go_meet
          exact ⟨G', e1, e2, hk1.set6 _ _ _ _ _ _, below_set6 (hw.trans (hb1.mono hw.size)) hbB _ _ _ _ _ _⟩
        case rest =>
        clear hB hw hcell hfree hlt
        obtain ⟨G6, c_G6, d_G6, hB, hw⟩ := hcut
        have K_G6 : Hid _ := c_G6
        clear c_G6
        have hcell := hB.cell
        have hfree := hB.free
        have hlt := hB.lt
        go_upto_region 15 with fail
        go_cut [] (fun wx => ∃ G' : Fl, G'.c = decide (100 ≤ (t : Int) / 100 + (t : Int) / 100 + ci G5.c) ∧ G'.d = true ∧ Blk wx b #[.int .u8 (dg (((t : Int) / 100 + (t : Int) / 100 + ci G5.c) % 100)), .int .u8 (0), .int .u8 0, .int .u8 0, .int .u8 (G'.val : Nat), .int .u8 (dg (((t : Int) / 100 + (t : Int) / 100 + ci G5.c) % 100))] ∧ Below w.heap.size w wx)
        case first =>
          go_wp2_with (go_at_call 9; refine (wSTA _ _ _ _ _ _ _ _).mono ?_; rintro e w1 ⟨G', e1, e2, rfl, hb1⟩; have hk1 := hB.below hlt hb1; have hcell1 := hk1.cell; have hfree1 := hk1.free)
          go_meet
          exact ⟨G', e1.trans K_G6.out, e2.trans d_G6, hk1.set6 _ _ _ _ _ _, below_set6 (hw.trans (hb1.mono hw.size)) hbB _ _ _ _ _ _⟩
        case rest =>
        clear hB hw hcell hfree hlt
        obtain ⟨G7, c_G7, d_G7, hB, hw⟩ := hcut
        have K_G7 : Hid _ := c_G7
        clear c_G7
        have hcell := hB.cell
        have hfree := hB.free
        have hlt := hB.lt
        go_wp2
        have k1 := ci_bd G2.c
        have k2 := ci_bd G5.c
        have q2 : ci G2.c = (V : Int) / 128 := by
          rw [K_G2.out]
          by_cases h : 128 ≤ (V : Int)
          · rw [decide_eq_true h, show ci true = 1 from rfl]; omega
          · rw [decide_eq_false h, show ci false = 0 from rfl]; omega
        have q5 : ci G5.c = ((t : Int) % 100 + (t : Int) % 100 + ci G2.c) / 100 := by
          rw [K_G5.out]
          by_cases h : 100 ≤ (t : Int) % 100 + (t : Int) % 100 + ci G2.c
          · rw [decide_eq_true h, show ci true = 1 from rfl]; omega
          · rw [decide_eq_false h, show ci false = 0 from rfl]; omega
        obtain ⟨z1, z2⟩ := HN.out
        go_roundw
        case rel => exact ⟨k + 1, _, _, G7, by omega, by go_num, by rw [z1]; exact congrArg (fun z => Value.int .u8 (dg z)) (by omega), by rw [z1]; exact congrArg (fun z => Value.int .u8 (dg z)) (by omega), by rw [z2]; exact congrArg (Value.int .u8) (by omega), d_G7, hB, hw⟩
        case measure => simp [intOf]; omega
end Go.Proofs.YthdmkmbgncbmgaaDoor
