/-
  turn: a push.
-/
import Derived.Test.YtlckjbangdnejaaDoorXtTurn
set_option linter.unusedSimpArgs false
set_option linter.unusedVariables false
namespace Go.Proofs.YtlckjbangdnejaaDoor
open Go.RowKit Classical
set_option maxRecDepth 100000 in
set_option maxHeartbeats 3200000 in
theorem turn_put (FP : Nat → Prop) (t K : Nat) (E : Nat → Option Addr) (C : Nat → Nat) (L : Nat → List Nat) (v : Value) (ks : List Nat) (i : Nat) (z nn : Int) (w : World) (hz : z.tmod 3 ≠ 0) (hT : Tp FP t K ((ks.map L).reverse) w) (hR : Rl w E C L v ks) (hl : ks.length ≤ K + 1) (hK : K ≤ 20) (hD : Row w (E i) (L i)) (hG : Good (L i)) (hap : ∀ p, E i = some p → L i ≠ [] → ¬ FP p.block) (tab : Tab w) (hF : ∀ k, FP k → k < w.heap.size) (hv : ∀ k, v.ownBlock = some k → k < w.heap.size ∧ ¬ FP k) :
    Calls Tryd.prog 16 #[.pointer (some ⟨t, 0, none⟩), v, .int .i64 (K + 1 : Nat), .agg #[.int .i64 z, .int .i64 nn, .slice (E i) (L i).length (C i)]] w (TnOk FP t K E C L v (stp (K + 1) false i ks) w) := by
  obtain ⟨y, hy⟩ : ∃ y, y = (L i).length := ⟨_, rfl⟩
  rw [← hy]
  have HY : Hid ((L i).length = y) := hy.symm
  obtain ⟨w1, hw1⟩ : ∃ w1, w1 = w.alloc (.cells #[.int .i64 z, .int .i64 nn, .slice (E i) y (C i)] 38) := ⟨_, rfl⟩
  have HF : Hid (∀ k, FP k → k < w.heap.size) := hF
  have HV : Hid (∀ k, v.ownBlock = some k → k < w.heap.size ∧ ¬ FP k) := hv
  have HB1 : Hid (Below w.heap.size w w1) := by rw [hw1]; exact (Below.refl _ _).alloc (Nat.le_refl _) _
  have HX1 : Hid (Blk w1 w.heap.size #[.int .i64 z, .int .i64 nn, .slice (E i) y (C i)] 38) := by rw [hw1]; exact Blk.new _ _ _
  have HT1 : Hid (Tp FP t K ((ks.map L).reverse) w1) := hT.below hF HB1.out
  have HR1 : Hid (Rl w1 E C L v ks) := hR.on fun k hk => HB1.out.block k (hv k hk).1
  have HD : Hid (Row w1 (E i) (L i)) := hD.below HB1.out
  have HA : Hid (Good (L i) ∧ ∀ p, E i = some p → L i ≠ [] → ¬ FP p.block) := ⟨hG, hap⟩
  have HTB : Hid (Tab w1) := tab.below tab.lt HB1.out
  have HSZ : Hid (w.heap.size < w1.heap.size) := HX1.out.lt
  obtain ⟨lm, hlm⟩ : ∃ lm, lm = K + 1 := ⟨_, rfl⟩
  rw [← hlm] at hl ⊢
  have HLM : Hid (lm = K + 1) := hlm
  have hl21 : lm ≤ 21 := by omega
  obtain ⟨n, hn⟩ : ∃ n, n = ks.length := ⟨_, rfl⟩
  have HN : Hid (ks.length = n) := hn.symm
  rw [← hn] at hl
  clear hF hv hT hR hD hG hap tab hy hlm hn hK
  have HW1 : Hid (w.alloc (.cells #[.int .i64 z, .int .i64 nn, .slice (E i) y (C i)] 38) = w1) := hw1.symm
  have HPU0 : Calls Tryd.prog 9 #[.pointer (some ⟨t, 0, none⟩), .slice (E i) y (C i)] w1 (PuOk FP t K ((L i :: (ks.map L).reverse).take (K + 1)) w1) := by
    cases hS : (ks.map L).reverse with
    | nil =>
      have := push_first FP t K (L i) (E i) y (C i) HA.out.1 HY.out w1 (by rw [← hS]; exact HT1.out) HD.out
      simpa using this
    | cons S0 r => exact push_more FP t K S0 r (L i) (E i) y (C i) HA.out.1 HY.out w1 (by rw [← hS]; exact HT1.out) HD.out HTB.out HA.out.2
  have HPU : Hid (Calls Tryd.prog 9 #[.pointer (some ⟨t, 0, none⟩), .slice (E i) y (C i)] w1 (PuOk FP t K ((L i :: (ks.map L).reverse).take (K + 1)) w1)) := HPU0
  clear hw1 HPU0
  go_enter Tryd.func16, Tryd.ntmps16
  have c0 : w1.cell? ⟨w.heap.size, 0, none⟩ = some (.int .i64 z) := HX1.out.cell 0
  have c2 : w1.cell? ⟨w.heap.size, 2, none⟩ = some (.slice (E i) y (C i)) := HX1.out.cell 2
  go_upto_region 1 with fail
  rw [HW1.out]
  go_upto_region 6 with fail
  go_wp2_with fail
  refine HPU.out.mono ?_
  rintro e w2 ⟨rfl, T2, K2⟩
  have HT2 : Hid (Tp (fun k => FP k ∨ (w1.heap.size ≤ k ∧ k < w2.heap.size)) t K (((stp lm false i ks).map L).reverse) w2) := by
    rw [HLM.out, ← stp_push L K i ks (by rw [HN.out, ← HLM.out]; exact hl)]
    exact T2
  have HK2 : Hid (Kp FP w1 w2) := K2
  have HX2 : Hid (Blk w2 w.heap.size #[.int .i64 z, .int .i64 nn, .slice (E i) y (C i)] 38) := K2.blk HX1.out (fun h => by have := HF.out _ h; omega)
  have HR2 : Hid (Rl w2 E C L v ks) := HR1.out.on fun k hk => K2.block k (by have := (HV.out k hk).1; have := HSZ.out; omega) (HV.out k hk).2
  clear T2 K2 c0 c2 HX1 HR1 HT1 HPU HW1
  go_upto_region 7 with fail
  go_cut [1] (fun v9 wx => Hid (Kt wx w2.heap.size E C L v9 (ks ++ [i])) ∧ Hid (Below w2.heap.size w2 wx))
  case first =>
    rename_i J0 K0 hJ0 hK0
    obtain ⟨SR, hSR⟩ : ∃ SR : World → Prop, SR = fun u => Below w2.heap.size w2 u := ⟨_, rfl⟩
    have HSR : Hid (∀ u, SR u ↔ Below w2.heap.size w2 u) := fun u => by rw [hSR]
    clear hSR
    have b0 : Below w2.heap.size w2 w2.drew := (below_drawsX (Below.refl _ _) 1)
    have s0 : SR w2.drew := (HSR.out _).2 b0
    refine wp_region_held (S := SR) (by kernel_rfl) ?_
    change wpAnyH _ _ _ _ _ _ _ _ w2.drew
    refine takeH (i := 1) (v := v) _ rfl (by kernel_rfl) (by kernel_rfl) (by kernel_rfl) (fun _ _ _ h => h) (.inl ⟨by kernel_rfl, fun _ _ => by kernel_rfl⟩) s0 rfl ?_
    refine takeH (i := 3) (v := .pointer (some ⟨w.heap.size, 2, none⟩)) _ rfl (by kernel_rfl) (by kernel_rfl) (by kernel_rfl) (fun _ _ _ h => h) (.inl ⟨by kernel_rfl, fun _ _ => by kernel_rfl⟩) s0 rfl ?_
    refine takeH (i := 4) (v := .slice (E i) y (C i)) _ rfl (by kernel_rfl) (by kernel_rfl) (by kernel_rfl) (fun _ _ _ h => h) (.inl ⟨by kernel_rfl, fun u hu => by have c : u.cell? ⟨w.heap.size, 2, none⟩ = some (.slice (E i) y (C i)) := (HX2.out.below HX2.out.lt ((HSR.out u).1 hu)).cell 2; go_simp⟩) s0 rfl ?_
    obtain ⟨V0, hV0⟩ : ∃ V0, V0 = w2.drew := ⟨_, rfl⟩
    rw [← hV0] at b0 s0 ⊢
    clear hV0
    refine pickHX (i := 0) (j := 5) (by kernel_rfl) ?_ ?_
    case refine_1 =>
      obtain ⟨q1, hq1⟩ : ∃ q, q = V0.heap.size := ⟨_, rfl⟩
      obtain ⟨V1, hv1⟩ : ∃ V', V' = V0.alloc (.cells #[] 28) := ⟨_, rfl⟩
      have b1 : Below w2.heap.size w2 V1 := by rw [hv1]; exact b0.alloc b0.size _
      have k1 : Kt V1 w2.heap.size E C L (.slice (some ⟨q1, 0, none⟩) 0 0) [] := by rw [hv1, hq1]; exact Kt.new V0 _ b0.size E C L
      have s1 : SR V1 := (HSR.out _).2 b1
      refine worldOX (v := .slice (some ⟨q1, 0, none⟩) 0 0) (w1 := V1) rfl (by kernel_rfl) (by subst hq1; subst hv1; kernel_rfl) _ rfl ⟨s1, ?_⟩
      clear hq1 hv1
      refine pickHX (i := 2) (j := 5) (by kernel_rfl) ?_ ?_
      case refine_1 =>
        obtain ⟨v2, V2, r2, k2, bb2⟩ := app_all 22 E C L V1 w2.heap.size _ v [] ks k1 (HR2.out.on fun m hm => b1.block m (by have := (HV.out m hm).1; have := HSZ.out; have := HK2.out.size; omega)) (by rw [HN.out]; simp; omega) b1.size
        rw [List.nil_append] at k2
        have b2 : Below w2.heap.size w2 V2 := b1.trans bb2
        have s2 : SR V2 := (HSR.out _).2 b2
        refine worldOX (v := v2) (w1 := V2) rfl (by kernel_rfl) (exec_appX rfl (by kernel_rfl) (by kernel_rfl) r2) _ rfl ⟨s2, ?_⟩
        clear r2 bb2
        obtain ⟨p3, hp3⟩ : ∃ q, q = V2.heap.size := ⟨_, rfl⟩
        obtain ⟨V3, hv3⟩ : ∃ V', V' = V2.alloc (.cells #[.slice (E i) y (C i)] 28) := ⟨_, rfl⟩
        have b3 : Below w2.heap.size w2 V3 := by rw [hv3]; exact b2.alloc b2.size _
        have y3 : Blk V3 p3 #[.slice (E i) y (C i)] 28 := by rw [hv3, hp3]; exact Blk.new V2 _ _
        have k3 : Kt V3 w2.heap.size E C L v2 ks := k2.on fun m hm => by rw [hv3]; exact Below.heap_alloc V2 _ m (k2.lt m hm).2
        have hb3 : w2.heap.size ≤ p3 := by rw [hp3]; exact b2.size
        have s3 : SR V3 := (HSR.out _).2 b3
        refine worldHX (i := 5) (v := .slice (some ⟨p3, 0, none⟩) 1 1) (w1 := V3) _ (by kernel_rfl) rfl (by kernel_rfl) (by subst hp3; subst hv3; kernel_rfl) rfl ⟨s3, ?_⟩
        clear hp3 hv3
        obtain ⟨v4, V4, r4, k4, bb4⟩ := app_all 22 E C L V3 w2.heap.size v2 (.slice (some ⟨p3, 0, none⟩) 1 1) ks [i] k3 (Rl.one E C L V3 p3 i (by rw [HY.out]; exact y3)) (by rw [HN.out]; simp; omega) b3.size
        have b4 : Below w2.heap.size w2 V4 := b3.trans bb4
        have s4 : SR V4 := (HSR.out _).2 b4
        refine worldHX (i := 6) (v := v4) (w1 := V4) _ (by kernel_rfl) rfl (by kernel_rfl) (exec_appX rfl (by kernel_rfl) (by kernel_rfl) r4) rfl ⟨s4, ?_⟩
        refine takeH (i := 7) (v := v4) _ rfl (by kernel_rfl) (by kernel_rfl) (by kernel_rfl) (fun _ _ _ h => h) (.inl ⟨by kernel_rfl, fun _ _ => by kernel_rfl⟩) s4 rfl ?_
        refine wpAnyH_done (by kernel_rfl) ?_ _
        clear r4 bb4
        exact hK0 _ _ (Met.intro (hJ0 _ _ ⟨v4, .pointer (some ⟨w.heap.size, 0, none⟩), .int .i64 z, .int .i64 (z.tmod 3), .bool false, undef, undef, undef, undef, undef, undef, undef, undef, undef, undef, undef, .pointer (some ⟨t, 0, none⟩), .pointer (some ⟨w.heap.size, 2, none⟩), .slice (E i) y (C i), .int .i64 0, .slice (some ⟨q1, 0, none⟩) 0 0, v, v2, .pointer (some ⟨w.heap.size, 2, none⟩), .slice (E i) y (C i), .slice (some ⟨p3, 0, none⟩) 1 1, v4, undef, undef, undef, undef, undef, undef, undef, ⟨k4, b4⟩, by kernel_rfl⟩))
      case refine_2 =>
        obtain ⟨p5, hp5⟩ : ∃ q, q = V1.heap.size := ⟨_, rfl⟩
        obtain ⟨V5, hv5⟩ : ∃ V', V' = V1.alloc (.cells #[.slice (E i) y (C i)] 28) := ⟨_, rfl⟩
        have b5 : Below w2.heap.size w2 V5 := by rw [hv5]; exact b1.alloc b1.size _
        have y5 : Blk V5 p5 #[.slice (E i) y (C i)] 28 := by rw [hv5, hp5]; exact Blk.new V1 _ _
        have k5 : Kt V5 w2.heap.size E C L (.slice (some ⟨q1, 0, none⟩) 0 0) [] := k1.on fun m hm => by rw [hv5]; exact Below.heap_alloc V1 _ m (k1.lt m hm).2
        have hne5 : q1 ≠ p5 := by have := (k1.lt q1 rfl).2; omega
        have hb5 : w2.heap.size ≤ p5 := by rw [hp5]; exact b1.size
        have s5 : SR V5 := (HSR.out _).2 b5
        refine worldOX (v := .slice (some ⟨p5, 0, none⟩) 1 1) (w1 := V5) rfl (by kernel_rfl) (by subst hp5; subst hv5; kernel_rfl) _ rfl ⟨s5, ?_⟩
        clear hp5 hv5
        obtain ⟨v6, V6, r6, k6, bb6⟩ := app_all2 22 E C L V5 w2.heap.size _ v [] ks k5 (HR2.out.on fun m hm => b5.block m (by have := (HV.out m hm).1; have := HSZ.out; have := HK2.out.size; omega)) (by rw [HN.out]; simp; omega) b5.size p5 _ _ y5 (fun e => hne5 (Option.some.inj e))
        rw [List.nil_append] at k6
        have b6 : Below w2.heap.size w2 V6 := b5.trans bb6.1
        have y6 : Blk V6 p5 #[.slice (E i) y (C i)] 28 := bb6.2
        have s6 : SR V6 := (HSR.out _).2 b6
        refine worldHX (i := 2) (v := v6) (w1 := V6) _ (by kernel_rfl) rfl (by kernel_rfl) (exec_appX rfl (by kernel_rfl) (by kernel_rfl) r6) rfl ⟨s6, ?_⟩
        clear r6 bb6
        obtain ⟨v7, V7, r7, k7, bb7⟩ := app_all 22 E C L V6 w2.heap.size v6 (.slice (some ⟨p5, 0, none⟩) 1 1) ks [i] k6 (Rl.one E C L V6 p5 i (by rw [HY.out]; exact y6)) (by rw [HN.out]; simp; omega) b6.size
        have b7 : Below w2.heap.size w2 V7 := b6.trans bb7
        have s7 : SR V7 := (HSR.out _).2 b7
        refine worldHX (i := 6) (v := v7) (w1 := V7) _ (by kernel_rfl) rfl (by kernel_rfl) (exec_appX rfl (by kernel_rfl) (by kernel_rfl) r7) rfl ⟨s7, ?_⟩
        refine takeH (i := 7) (v := v7) _ rfl (by kernel_rfl) (by kernel_rfl) (by kernel_rfl) (fun _ _ _ h => h) (.inl ⟨by kernel_rfl, fun _ _ => by kernel_rfl⟩) s7 rfl ?_
        refine wpAnyH_done (by kernel_rfl) ?_ _
        clear r7 bb7
        exact hK0 _ _ (Met.intro (hJ0 _ _ ⟨v7, .pointer (some ⟨w.heap.size, 0, none⟩), .int .i64 z, .int .i64 (z.tmod 3), .bool false, undef, undef, undef, undef, undef, undef, undef, undef, undef, undef, undef, .pointer (some ⟨t, 0, none⟩), .pointer (some ⟨w.heap.size, 2, none⟩), .slice (E i) y (C i), .int .i64 0, .slice (some ⟨q1, 0, none⟩) 0 0, v, v6, .pointer (some ⟨w.heap.size, 2, none⟩), .slice (E i) y (C i), .slice (some ⟨p5, 0, none⟩) 1 1, v7, undef, undef, undef, undef, undef, undef, undef, ⟨k7, b7⟩, by kernel_rfl⟩))
    case refine_2 =>
      obtain ⟨p8, hp8⟩ : ∃ q, q = V0.heap.size := ⟨_, rfl⟩
      obtain ⟨V8, hv8⟩ : ∃ V', V' = V0.alloc (.cells #[.slice (E i) y (C i)] 28) := ⟨_, rfl⟩
      have b8 : Below w2.heap.size w2 V8 := by rw [hv8]; exact b0.alloc b0.size _
      have y8 : Blk V8 p8 #[.slice (E i) y (C i)] 28 := by rw [hv8, hp8]; exact Blk.new V0 _ _
      have hb8 : w2.heap.size ≤ p8 := by rw [hp8]; exact b0.size
      have s8 : SR V8 := (HSR.out _).2 b8
      refine worldOX (v := .slice (some ⟨p8, 0, none⟩) 1 1) (w1 := V8) rfl (by kernel_rfl) (by subst hp8; subst hv8; kernel_rfl) _ rfl ⟨s8, ?_⟩
      clear hp8 hv8
      obtain ⟨q9, hq9⟩ : ∃ q, q = V8.heap.size := ⟨_, rfl⟩
      obtain ⟨V9, hv9⟩ : ∃ V', V' = V8.alloc (.cells #[] 28) := ⟨_, rfl⟩
      have b9 : Below w2.heap.size w2 V9 := by rw [hv9]; exact b8.alloc b8.size _
      have hne9 : q9 ≠ p8 := by have := y8.lt; omega
      have y9x : Blk V9 p8 #[.slice (E i) y (C i)] 28 := by rw [hv9]; exact y8.old _
      have k9 : Kt V9 w2.heap.size E C L (.slice (some ⟨q9, 0, none⟩) 0 0) [] := by rw [hv9, hq9]; exact Kt.new V8 _ b8.size E C L
      have s9 : SR V9 := (HSR.out _).2 b9
      refine worldHX (i := 0) (v := .slice (some ⟨q9, 0, none⟩) 0 0) (w1 := V9) _ (by kernel_rfl) rfl (by kernel_rfl) (by subst hq9; subst hv9; kernel_rfl) rfl ⟨s9, ?_⟩
      clear hq9 hv9
      have y9 : Blk V9 p8 #[.slice (E i) y (C i)] 28 := y9x
      obtain ⟨v10, V10, r10, k10, bb10⟩ := app_all2 22 E C L V9 w2.heap.size _ v [] ks k9 (HR2.out.on fun m hm => b9.block m (by have := (HV.out m hm).1; have := HSZ.out; have := HK2.out.size; omega)) (by rw [HN.out]; simp; omega) b9.size p8 _ _ y9 (fun e => hne9 (Option.some.inj e))
      rw [List.nil_append] at k10
      have b10 : Below w2.heap.size w2 V10 := b9.trans bb10.1
      have y10 : Blk V10 p8 #[.slice (E i) y (C i)] 28 := bb10.2
      have s10 : SR V10 := (HSR.out _).2 b10
      refine worldHX (i := 2) (v := v10) (w1 := V10) _ (by kernel_rfl) rfl (by kernel_rfl) (exec_appX rfl (by kernel_rfl) (by kernel_rfl) r10) rfl ⟨s10, ?_⟩
      clear r10 bb10
      obtain ⟨v11, V11, r11, k11, bb11⟩ := app_all 22 E C L V10 w2.heap.size v10 (.slice (some ⟨p8, 0, none⟩) 1 1) ks [i] k10 (Rl.one E C L V10 p8 i (by rw [HY.out]; exact y10)) (by rw [HN.out]; simp; omega) b10.size
      have b11 : Below w2.heap.size w2 V11 := b10.trans bb11
      have s11 : SR V11 := (HSR.out _).2 b11
      refine worldHX (i := 6) (v := v11) (w1 := V11) _ (by kernel_rfl) rfl (by kernel_rfl) (exec_appX rfl (by kernel_rfl) (by kernel_rfl) r11) rfl ⟨s11, ?_⟩
      refine takeH (i := 7) (v := v11) _ rfl (by kernel_rfl) (by kernel_rfl) (by kernel_rfl) (fun _ _ _ h => h) (.inl ⟨by kernel_rfl, fun _ _ => by kernel_rfl⟩) s11 rfl ?_
      refine wpAnyH_done (by kernel_rfl) ?_ _
      clear r11 bb11
      exact hK0 _ _ (Met.intro (hJ0 _ _ ⟨v11, .pointer (some ⟨w.heap.size, 0, none⟩), .int .i64 z, .int .i64 (z.tmod 3), .bool false, undef, undef, undef, undef, undef, undef, undef, undef, undef, undef, undef, .pointer (some ⟨t, 0, none⟩), .pointer (some ⟨w.heap.size, 2, none⟩), .slice (E i) y (C i), .int .i64 0, .slice (some ⟨q9, 0, none⟩) 0 0, v, v10, .pointer (some ⟨w.heap.size, 2, none⟩), .slice (E i) y (C i), .slice (some ⟨p8, 0, none⟩) 1 1, v11, undef, undef, undef, undef, undef, undef, undef, ⟨k11, b11⟩, by kernel_rfl⟩))
  case rest =>
  obtain ⟨hK9, hB9⟩ := hcut
  generalize wc = w3 at *
  have hks : (ks ++ [i]).length = n + 1 := by rw [List.length_append, HN.out]; rfl
  have HT3 : Hid (Tp (fun k => FP k ∨ (w1.heap.size ≤ k ∧ k < w2.heap.size)) t K (((stp lm false i ks).map L).reverse) w3) := HT2.out.below (fun k hk => by
    have := HK2.out.size
    have := HSZ.out
    rcases hk with h | h
    · have := HF.out k h; omega
    · exact h.2) hB9.out
  have HKW : Hid (Kp FP w w3) := ((Kp.of_below HB1.out).trans HK2.out).on hB9.out
  have HSS : Hid (w1.heap.size ≤ w2.heap.size ∧ w2.heap.size ≤ w3.heap.size) := ⟨HK2.out.size, hB9.out.size⟩
  obtain ⟨g, c, hue⟩ := orow_some hK9.out (by rw [hks]; omega)
  have HRD : Hid (Rl w3 E C L (.slice (some ⟨g, 0, none⟩) (n + 1) c) (ks ++ [i])) := by
    have := hK9.out.read
    rw [hue, hks] at this
    exact this
  have HG : Hid (w2.heap.size ≤ g ∧ g < w3.heap.size) := hK9.out.lt g (by rw [hue]; rfl)
  have hnc : n + 1 ≤ c := by
    obtain ⟨a, c', e, h, -⟩ := HRD.out
    rw [hks] at h
    rw [Value.slice.injEq] at e
    omega
  rw [hks] at hue
  subst hue
  obtain ⟨m, hm⟩ : ∃ m, m = n + 1 := ⟨_, rfl⟩
  rw [← hm] at hnc HRD ⊢
  have HM : Hid ((ks ++ [i]).length = m ∧ m = n + 1) := ⟨by rw [hks, hm], hm⟩
  have m22 : m ≤ 22 := by omega
  clear HT2 HK2 HX2 HR2 hK9 hB9 hks hm
  have fin : Hid (∀ (v' : Value) (o' c' : Nat), v' = .slice (some ⟨g, o', none⟩) (stp lm false i ks).length c' → Rl w3 E C L v' (stp lm false i ks) → TnOk FP t K E C L v (stp lm false i ks) w (.returned v') w3) := fun v' o' c' hv' hr => by
    subst hv'
    have h1 := HSS.out
    have h2 := HSZ.out
    have h3 := HG.out
    refine ⟨_, _, rfl, hr, HT3.out, HKW.out, fun k hk => ?_, fun k hk => ?_⟩
    · rcases hk with h | h
      · have := HF.out k h; exact ⟨.inl h, by omega⟩
      · exact ⟨.inr (by omega), by omega⟩
    · obtain rfl : g = k := by simpa [Value.ownBlock] using hk
      refine ⟨.inr (by omega), h3.2, fun h => ?_⟩
      rcases h with h | h
      · have := HF.out g h; omega
      · have := h.2; omega
  by_cases hz2 : lm < m
  · have i1 : (lm : Int) < (m : Int) := by omega
    have i2 : ¬ c = 1 := by have := HLM.out; omega
    have i3 : 1 ≤ c := by omega
    have i4 : 1 ≤ m := by omega
    have e1 : stp lm false i ks = (ks ++ [i]).drop 1 := by
      unfold stp
      rw [if_neg (by decide), if_pos (by rw [HN.out, ← HM.out.2]; exact hz2)]
    have e2 : ((ks ++ [i]).drop 1).length = m - 1 := by rw [List.length_drop, HM.out.1]
    have HR4 : Hid (Rl w3 E C L (.slice (some ⟨g, 1, none⟩) (m - 1) (c - 1)) (stp lm false i ks)) := by
      rw [e1]
      exact HRD.out.behind e2 i4 1 (fun _ => rfl)
    have HLE : Hid ((stp lm false i ks).length = m - 1) := by rw [e1]; exact e2
    clear e1 e2 HRD
    go_wp2
    go_ret
    exact fin.out _ 1 (c - 1) (by rw [HLE.out]; rfl) HR4.out
  · have i1 : ¬ (lm : Int) < (m : Int) := by omega
    have e1 : stp lm false i ks = ks ++ [i] := by
      unfold stp
      rw [if_neg (by decide), if_neg (by rw [HN.out, ← HM.out.2]; exact hz2)]
    have HR4 : Hid (Rl w3 E C L (.slice (some ⟨g, 0, none⟩) m c) (stp lm false i ks)) := by
      rw [e1]
      exact HRD.out
    have HLE : Hid ((stp lm false i ks).length = m) := by rw [e1]; exact HM.out.1
    clear e1 HRD
    go_wp2
    go_ret
    exact fin.out _ 0 c (by rw [HLE.out]; rfl) HR4.out
end Go.Proofs.YtlckjbangdnejaaDoor
