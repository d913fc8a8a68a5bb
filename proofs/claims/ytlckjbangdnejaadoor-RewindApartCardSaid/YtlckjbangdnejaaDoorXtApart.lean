/-
  The law RewindApart returns true.
-/
import Derived.Test.YtlckjbangdnejaaDoorXtAiS
set_option linter.unusedSimpArgs false
set_option linter.unusedVariables false
namespace Go.Proofs.YtlckjbangdnejaaDoor
open Go.RowKit Classical
set_option maxRecDepth 100000 in
set_option maxHeartbeats 12800000 in
theorem apart_law (n0 n1 : Int) (hn0 : -9223372036854775808 ≤ n0 ∧ n0 ≤ 9223372036854775807) (hn1 : -9223372036854775808 ≤ n1 ∧ n1 ≤ 9223372036854775807) (a : Option Addr) (len cap : Nat) (KD N : Nat → Int) (E : Nat → Option Addr) (C : Nat → Nat) (L : Nat → List Nat) (b o : Nat) (hlen : len ≤ 9223372036854775807) (w : World) (HS : Sts w a len KD N E C L b o) (tab : Tab w) :
    Calls Tryd.prog 5 #[.int .i64 n0, .int .i64 n1, .slice a len cap] w fun e w' => e = .returned (.bool true) ∧ Below w.heap.size w w' := by
  have HR : Hid (∀ W, Below w.heap.size w W → Sts W a len KD N E C L b o ∧ Tab W) := fun W h => ⟨HS.below h, tab.below tab.lt h⟩
  have HS0 : Hid (Sts w a len KD N E C L b o ∧ Tab w) := ⟨HS, tab⟩
  clear HS tab
  obtain ⟨z0, hz0⟩ : ∃ z : Int, n0.tmod 9 = z := ⟨_, rfl⟩
  obtain ⟨z1, hz1⟩ : ∃ z : Int, n1.tmod 9 = z := ⟨_, rfl⟩
  have t0 := tmod_in n0 9 (by decide)
  have t1 := tmod_in n1 9 (by decide)
  rw [show ((9 : Nat) : Int) = 9 from rfl] at t0 t1
  rw [hz0] at t0
  rw [hz1] at t1
  obtain ⟨A, hA⟩ : ∃ A : Nat, (z0 + 9).tmod 9 = (A : Int) := ⟨((z0 + 9).tmod 9).toNat, by have := Int.tmod_nonneg 9 (show (0 : Int) ≤ z0 + 9 by omega); omega⟩
  obtain ⟨B, hB⟩ : ∃ B : Nat, (z1 + 9).tmod 9 = (B : Int) := ⟨((z1 + 9).tmod 9).toNat, by have := Int.tmod_nonneg 9 (show (0 : Int) ≤ z1 + 9 by omega); omega⟩
  have hA8 : A ≤ 8 := by have := Int.tmod_lt_of_pos (z0 + 9) (show (0 : Int) < 9 by decide); omega
  have hB8 : B ≤ 8 := by have := Int.tmod_lt_of_pos (z1 + 9) (show (0 : Int) < 9 by decide); omega
  obtain ⟨ca, hca⟩ : ∃ ca, ca = A + 1 := ⟨_, rfl⟩
  obtain ⟨cb, hcb⟩ : ∃ cb, cb = B + 1 := ⟨_, rfl⟩
  have e1 : (A : Int) + 1 = (ca : Int) := by omega
  have e2 : (B : Int) + 1 = (cb : Int) := by omega
  have HCA : Hid (ca = A + 1 ∧ cb = B + 1) := ⟨hca, hcb⟩
  have hcl : 1 ≤ ca ∧ ca ≤ 9 ∧ 1 ≤ cb ∧ cb ≤ 9 := by omega
  clear hca hcb
  go_enter Tryd.func5, Tryd.ntmps5
  go_upto_region 3 with fail
  clear t0 t1 hz0 hz1 hA hB e1 e2 hn0 hn1
  go_wp2_with fail
  refine (new_in ca (by omega) (by omega) w).mono ?_
  rintro e w1 ⟨t, rfl, T1, b1⟩
  rw [show ca - 1 = A by have := HCA.out; omega] at T1
  have HT1 : Hid (Tp (Fp w w1) t A [] w1) := T1
  have HB1 : Hid (Below w.heap.size w w1) := b1
  clear T1 b1
  go_upto_region 4 with fail
  go_wp2_with fail
  refine (new_in cb (by omega) (by omega) w1).mono ?_
  rintro e w2 ⟨u, rfl, T2, b2⟩
  rw [show cb - 1 = B by have := HCA.out; omega] at T2
  have HA0 : Hid (Ai w t A u B E C L len (Fp w w1) (Fp w1 w2) (.slice none 0 0) (.slice none 0 0) [] [] w2) := Ai.begin w w1 w2 t A u B E C L len HT1.out HB1.out T2 b2
  clear T2 b2 HT1 HB1
  go_upto_region 7 with fail
  go_upto_region 10 with fail
  go_loopw [11, 12, 13] (fun vx vy i wr => ∃ (j : Nat) (FT FU : Nat → Prop) (kx ky : List Nat), j ≤ len ∧ i = .int .i64 j ∧ Hid (Ai w t A u B E C L len FT FU vx vy kx ky wr)) (fun _ _ i _ => len - (intOf i).toNat)
  case atStart => exact ⟨0, _, _, [], [], by omega, rfl, HA0⟩
  case round =>
    clear HA0
    obtain ⟨j, FT, FU, kx, ky, hj, rfl, hI⟩ := hrel
    obtain ⟨wq, rfl⟩ : ∃ x, x = wr := ⟨_, rfl⟩
    by_cases hjl : j < len
    · have ijl : (j : Int) < (len : Int) := by omega
      have hS := (HR.out _ hI.out.b).1
      obtain rfl := hS.at_ (by omega)
      obtain ⟨c0, c1, c2⟩ := hS.cells j hjl
      have hft := hS.fits j hjl
      obtain ⟨y, hy⟩ : ∃ y, (L j).length = y := ⟨_, rfl⟩
      have hy9 : y ≤ 9223372036854775807 := by rw [← hy]; exact (hS.rows j hjl).2.2
      rw [hy] at c2
      have HY : Hid ((L j).length = y) := hy
      have hRg : Hid (wq.rangeAt b (o + j * 3) [.int .i64 (KD j), .int .i64 (N j), .slice (E j) y (C j)]) := fun q v hv => by
        match q, hv with
        | 0, hv => simp at hv; subst hv; exact c0
        | 1, hv => simp at hv; subst hv; exact c1
        | 2, hv => simp at hv; subst hv; exact c2
      clear c0 c1 c2 hS hy
      have HTU : Hid (∀ W, Ai w t A u B E C L len FT FU (u11) (u12) kx ky W → y ≤ 4096 → Calls Tryd.prog 16 #[.pointer (some ⟨t, 0, none⟩), u11, .int .i64 (ca : Nat), .agg #[.int .i64 (KD j), .int .i64 (N j), .slice (E j) y (C j)]] W fun e W' => ∃ v' FT' kz, e = .returned v' ∧ Ai w t A u B E C L len FT' FU v' u12 kz ky W') := fun W h hy4 => by
        have := h.turn (by omega) HS0.out.1 HS0.out.2 j hjl (by rw [HY.out]; exact hy4) y HY.out
        rwa [← HCA.out.1] at this
      have HUU : Hid (∀ W, Ai w t A u B E C L len FT FU (u11) (u12) kx ky W → y ≤ 4096 → Calls Tryd.prog 16 #[.pointer (some ⟨u, 0, none⟩), u12, .int .i64 (cb : Nat), .agg #[.int .i64 (KD j), .int .i64 (N j), .slice (E j) y (C j)]] W fun e W' => ∃ v' FT' kz, e = .returned v' ∧ Ai w u B t A E C L len FT' FT v' u11 kz kx W') := fun W h hy4 => by
        have := h.swap.turn (by omega) HS0.out.1 HS0.out.2 j hjl (by rw [HY.out]; exact hy4) y HY.out
        rwa [← HCA.out.2] at this
      generalize KD j = kd at *
      generalize N j = nj at *
      go_upto_region 12 with fail
      go_upto_region 13 with (refine wpList_load_mid rfl 38 _ rfl b (o + j * 3) rfl [.int .i64 kd, .int .i64 nj, .slice (E j) y (C j)] _ hRg.out Tryd.underlying38 rfl (by kernel_rfl) ?_)
      have bo : Hid (Blk (wq.alloc (.cells #[.int .i64 kd, .int .i64 nj, .slice (E j) y (C j)] 38)) wq.heap.size #[.int .i64 kd, .int .i64 nj, .slice (E j) y (C j)] 38) := Blk.new wq _ _
      have hI1 : Hid (Ai w t A u B E C L len FT FU u11 u12 kx ky (wq.alloc (.cells #[.int .i64 kd, .int .i64 nj, .slice (E j) y (C j)] 38))) := hI.out.on ((Below.refl _ _).alloc (Nat.le_refl _) _)
      generalize wq.alloc (.cells #[.int .i64 kd, .int .i64 nj, .slice (E j) y (C j)] 38) = W1 at *
      clear hRg hI
      generalize wq.heap.size = nb at *
      have g1 : W1.cell? ⟨nb, 1, none⟩ = some (.int .i64 nj) := bo.out.cell 1
      have g2 : W1.cell? ⟨nb, 2, none⟩ = some (.slice (E j) y (C j)) := bo.out.cell 2
      by_cases hy4 : y ≤ 4096
      · have iy : ¬ (4096 : Int) < (y : Int) := by omega
        obtain ⟨z, hz⟩ : ∃ z : Int, nj.tmod 2 = z := ⟨_, rfl⟩
        by_cases h0 : z = 0
        · subst h0
          go_upto_region 15 with fail
          go_wp2_with (refine wpList_load_blk rfl 38 _ rfl nb rfl #[.int .i64 kd, .int .i64 nj, .slice (E j) y (C j)] _ bo.out Tryd.underlying38 rfl (by kernel_rfl) ?_)
          refine (HTU.out W1 hI1.out hy4).mono ?_
          rintro e W2 ⟨v9, FQ, kz, rfl, hI2⟩
          obtain ⟨a9, c9, hv9, -⟩ := hI2.r1
          subst hv9
          have HI3 : Hid (Ai w t A u B E C L len FQ FU (.slice a9 kz.length c9) u12 kz ky W2) := hI2
          have hk20 : kz.length ≤ 20 := by have := hI2.l1; omega
          have HKL : Hid (((kz.map L).reverse).length = kz.length) := by unfold Hid; simp
          clear hI2 hI1 bo g1 g2 HTU HUU
          obtain ⟨nz, hnz⟩ : ∃ nz, nz = kz.length := ⟨_, rfl⟩
          rw [← hnz] at HI3 hk20 HKL ⊢
          clear hnz
          go_upto_region 16 with fail
          go_wp2_with fail
          refine (len_any FQ t A _ W2 HI3.out.t1).mono ?_
          rintro e W3 ⟨rfl, rfl⟩
          rw [HKL.out]
          go_wp2
          go_roundw
          case rel => exact ⟨j + 1, FQ, FU, kz, ky, by omega, by go_num, HI3⟩
          case measure => simp [intOf]; omega
        · have i0 : (z == 0) = false := by simpa using h0
          clear h0
          go_upto_region 18 with fail
          go_wp2_with (refine wpList_load_blk rfl 38 _ rfl nb rfl #[.int .i64 kd, .int .i64 nj, .slice (E j) y (C j)] _ bo.out Tryd.underlying38 rfl (by kernel_rfl) ?_)
          refine (HUU.out W1 hI1.out hy4).mono ?_
          rintro e W2 ⟨v9, FQ, kz, rfl, hI2⟩
          obtain ⟨a9, c9, hv9, -⟩ := hI2.r1
          subst hv9
          have HI3 : Hid (Ai w t A u B E C L len FT FQ u11 (.slice a9 kz.length c9) kx kz W2) := hI2.swap
          have hk20 : kz.length ≤ 20 := by have := hI2.l1; omega
          have HKL : Hid (((kz.map L).reverse).length = kz.length) := by unfold Hid; simp
          clear hI2 hI1 bo g1 g2 HTU HUU
          obtain ⟨nz, hnz⟩ : ∃ nz, nz = kz.length := ⟨_, rfl⟩
          rw [← hnz] at HI3 hk20 HKL ⊢
          clear hnz
          go_upto_region 19 with fail
          go_wp2_with fail
          refine (len_any FQ u B _ W2 HI3.out.t2).mono ?_
          rintro e W3 ⟨rfl, rfl⟩
          rw [HKL.out]
          go_wp2
          go_roundw
          case rel => exact ⟨j + 1, FT, FQ, kx, kz, by omega, by go_num, HI3⟩
          case measure => simp [intOf]; omega
      · have iy : (4096 : Int) < (y : Int) := by omega
        clear HTU HUU
        go_wp2
        go_roundw
        case rel => exact ⟨j + 1, FT, FU, kx, ky, by omega, by go_num, hI1⟩
        case measure => simp [intOf]; omega
    · obtain rfl : j = len := by omega
      obtain ⟨a1, c1, h1, -⟩ := hI.out.r1
      have HD1 : Hid (Calls Tryd.prog 17 #[.pointer (some ⟨t, 0, none⟩), u11] wq fun e w' => e = .returned (.bool true) ∧ Kp FT wq w') :=
        drained_any FT t A E C L u11 kx wq w hI.out.t1 hI.out.r1 (by have := hI.out.l1; omega) hI.out.f1 (fun k hk => ⟨(hI.out.o1 k hk).1, (hI.out.o1 k hk).2.1⟩) hI.out.b (fun i hi => ⟨(HS0.out.1.rows i (hI.out.g1 i hi).1).1, (HS0.out.1.rows i (hI.out.g1 i hi).1).2.1, by have := (hI.out.g1 i hi).2; omega⟩)
      have HD2 : Hid (∀ W, Kp FT wq W → Calls Tryd.prog 17 #[.pointer (some ⟨u, 0, none⟩), u12] W fun e w' => e = .returned (.bool true) ∧ Kp FU W w') := fun W hK =>
        drained_any FU u B E C L u12 ky W w (hI.out.t2.on fun k hk => hK.block k (hI.out.f2 k hk).2 fun h => hI.out.ap k h hk) (hI.out.r2.on fun k hk => hK.block k (hI.out.o2 k hk).1 (hI.out.o2 k hk).2.1) (by have := hI.out.l2; omega) (fun k hk => ⟨(hI.out.f2 k hk).1, Nat.lt_of_lt_of_le (hI.out.f2 k hk).2 hK.size⟩) (fun k hk => ⟨Nat.lt_of_lt_of_le (hI.out.o2 k hk).1 hK.size, (hI.out.o2 k hk).2.2⟩) (hI.out.b.trans (hK.below hI.out.b.size fun k hk => (hI.out.f1 k hk).1)) (fun i hi => ⟨(HS0.out.1.rows i (hI.out.g2 i hi).1).1, (HS0.out.1.rows i (hI.out.g2 i hi).1).2.1, by have := (hI.out.g2 i hi).2; omega⟩)
      have HBB : Hid (∀ W V, Kp FT wq W → Kp FU W V → Below w.heap.size w V) := fun W V h1 h2 => by
        have b1 := hI.out.b.trans (h1.below hI.out.b.size fun k hk => (hI.out.f1 k hk).1)
        exact b1.trans (h2.below b1.size fun k hk => (hI.out.f2 k hk).1)
      clear hI h1
      go_upto_region 21 with fail
      go_wp2_with fail
      refine HD1.out.mono ?_
      rintro e W1 ⟨rfl, K1⟩
      have HK1 : Hid (Kp FT wq W1) := K1
      clear K1
      go_wp2_with fail
      refine (HD2.out W1 HK1.out).mono ?_
      rintro e W2 ⟨rfl, K2⟩
      have HB2 : Hid (Below w.heap.size w W2) := HBB.out W1 W2 HK1.out K2
      clear K2
      go_wp2
      go_ret
      exact ⟨rfl, HB2.out⟩
end Go.Proofs.YtlckjbangdnejaaDoor
