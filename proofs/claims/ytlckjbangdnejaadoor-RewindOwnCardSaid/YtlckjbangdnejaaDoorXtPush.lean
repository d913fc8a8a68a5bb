/-
  The ring's push.
-/
import Derived.Test.YtlckjbangdnejaaDoorXtRing
set_option linter.unusedSimpArgs false
set_option linter.unusedVariables false
namespace Go.Proofs.YtlckjbangdnejaaDoor
open Go.RowKit Classical
theorem push_zero (t : Nat) (made held : Bool) (nv : Value) (s f c : Nat) (ro : Int) (e : Value) (w : World) (B : Blk w t (tc made held nv s 0 f c ro) 54) :
    Calls Tryd.prog 29 #[.pointer (some ⟨t, 3, none⟩), e] w fun en w' => en = .returned (.tuple #[e, .bool true]) ∧ w' = w := by
  have c3 : w.cell? ⟨t, 3, none⟩ = some (.slice (some ⟨s, 0, none⟩) 0 0) := B.cell 3
  clear B
  go_enter Tryd.func29, Tryd.ntmps29
  go_wp2
  go_ret2
  exact ⟨rfl, rfl⟩
set_option maxRecDepth 100000 in
set_option maxHeartbeats 3200000 in
theorem push_room (t : Nat) (made held : Bool) (nv : Value) (s K f : Nat) (ro : Int) (cur : Array Value) (ea : Option Addr) (en' ek : Nat) (e : Value) (he : e = .slice ea en' ek) (R : List Value) (hl : R.length < K) (hK2 : K ≤ 4096) (w : World) (N : Rn K f cur R) (B : Blk w t (tc made held nv s K f R.length ro) 54) (S : Blk w s cur 28) :
    Calls Tryd.prog 29 #[.pointer (some ⟨t, 3, none⟩), e] w fun en w' => en = .returned (.tuple #[.slice none 0 0, .bool false]) ∧ RgOk t made held nv s K ro (e :: R) w w' := by
  have hts := blk_ne B S (by decide)
  have hf := N.first (by omega)
  obtain ⟨c, hc⟩ : ∃ c, c = R.length := ⟨_, rfl⟩
  rw [← hc] at B hl
  have c3 : w.cell? ⟨t, 3, none⟩ = some (.slice (some ⟨s, 0, none⟩) K K) := B.cell 3
  have c5 : w.cell? ⟨t, 5, none⟩ = some (.int .i64 (c : Nat)) := B.cell 5
  have HB : Hid (Blk w t (tc made held nv s K f c ro) 54) := B
  have HS : Hid (Blk w s cur 28) := S
  have HC : Hid (c = R.length) := hc
  have HN : Hid (Rn K f cur R) := N
  have i1 : ((K : Int) == 0) = false := by rw [beq_eq_false_iff_ne]; omega
  have i2 : ((c : Int) == (K : Int)) = false := by rw [beq_eq_false_iff_ne]; omega
  have HE : Hid (e = .slice ea en' ek) := he
  clear B S hc N he
  go_enter Tryd.func29, Tryd.ntmps29
  go_upto_region 4 with fail
  go_quiet (fail)
  have B7 : Hid (Blk (w.drewN nq) t (tc made held nv s K f c ro) 54) := HB.out.draws nq
  have S7 : Hid (Blk (w.drewN nq) s cur 28) := HS.out.draws nq
  have K7 : Hid (Kp (S2 t s) w (w.drewN nq)) := (Kp.refl _ w).on (below_drawsX (Below.refl _ _) nq)
  go_upto_region 7 with fail
  generalize w.drewN nq = W7 at *
  clear c3 c5
  obtain ⟨q, hq⟩ : ∃ q, q = (f + c) % K := ⟨_, rfl⟩
  have hqK : q < K := by rw [hq]; exact Nat.mod_lt _ (by omega)
  have HQ : Hid (q = (f + c) % K) := hq
  clear hq
  have S7 : (W7.setCell ⟨s, q, none⟩ e) = (W7.setCell ⟨s, q, none⟩ e) := rfl
  clear S7
  obtain ⟨SR, hSR⟩ : ∃ SR : World → Prop, SR = fun v => Blk v t (tc made held nv s K f c ro) 54 ∧ ∃ cs, Blk v s cs 28 := ⟨_, rfl⟩
  have HSR : Hid (∀ v, SR v ↔ (Blk v t (tc made held nv s K f c ro) 54 ∧ ∃ cs, Blk v s cs 28)) := fun v => by rw [hSR]
  have HP0 : Hid (∀ v, SR v → Blk v t (tc made held nv s K f c ro) 54) := fun v h => ((HSR.out v).1 h).1
  clear hSR
  have s0 : SR W7.drew := (HSR.out _).2 ⟨B7.out.draws 1, _, S7.out.draws 1⟩
  refine wp_region_held (S := SR) (by kernel_rfl) ?_
  refine takeH (i := 0) (v := .pointer (some ⟨t, 3, none⟩)) _ rfl (by kernel_rfl) (by kernel_rfl) (by kernel_rfl) (fun _ _ _ h => h) (.inl ⟨by kernel_rfl, fun _ _ => by kernel_rfl⟩) s0 rfl ?_
  refine takeH (i := 1) (v := .pointer (some ⟨t, 3, none⟩)) _ rfl (by kernel_rfl) (by kernel_rfl) (by kernel_rfl) (fun _ _ _ h => h) (.inl ⟨by kernel_rfl, fun _ _ => by kernel_rfl⟩) s0 rfl ?_
  refine takeH (i := 2) (v := .pointer (some ⟨t, 3, none⟩)) _ rfl (by kernel_rfl) (by kernel_rfl) (by kernel_rfl) (fun _ _ _ h => h) (.inl ⟨by kernel_rfl, fun _ _ => by kernel_rfl⟩) s0 rfl ?_
  refine takeH (i := 3) (v := .slice (some ⟨s, 0, none⟩) K K) _ rfl (by kernel_rfl) (by kernel_rfl) (by kernel_rfl) (fun _ _ _ h => h) (.inl ⟨by kernel_rfl, fun v hv => by have c : v.cell? ⟨t, 3, none⟩ = some (.slice (some ⟨s, 0, none⟩) K K) := (HP0.out v hv).cell 3; go_simp⟩) s0 rfl ?_
  refine takeH (i := 4) (v := .pointer (some ⟨t, 3, none⟩)) _ rfl (by kernel_rfl) (by kernel_rfl) (by kernel_rfl) (fun _ _ _ h => h) (.inl ⟨by kernel_rfl, fun _ _ => by kernel_rfl⟩) s0 rfl ?_
  refine takeH (i := 5) (v := .pointer (some ⟨t, 3, none⟩)) _ rfl (by kernel_rfl) (by kernel_rfl) (by kernel_rfl) (fun _ _ _ h => h) (.inl ⟨by kernel_rfl, fun _ _ => by kernel_rfl⟩) s0 rfl ?_
  refine takeH (i := 6) (v := .pointer (some ⟨t, 3, none⟩)) _ rfl (by kernel_rfl) (by kernel_rfl) (by kernel_rfl) (fun _ _ _ h => h) (.inl ⟨by kernel_rfl, fun _ _ => by kernel_rfl⟩) s0 rfl ?_
  refine takeH (i := 7) (v := .pointer (some ⟨t, 5, none⟩)) _ rfl (by kernel_rfl) (by kernel_rfl) (by kernel_rfl) (fun _ _ _ h => h) (.inl ⟨by kernel_rfl, fun _ _ => by kernel_rfl⟩) s0 rfl ?_
  refine takeH (i := 8) (v := .int .i64 (c : Nat)) _ rfl (by kernel_rfl) (by kernel_rfl) (by kernel_rfl) (fun _ _ _ h => h) (.inl ⟨by kernel_rfl, fun v hv => by have c : v.cell? ⟨t, 5, none⟩ = some (.int .i64 (c : Nat)) := (HP0.out v hv).cell 5; go_simp⟩) s0 rfl ?_
  refine takeH (i := 10) (v := e) _ rfl (by kernel_rfl) (by kernel_rfl) (by kernel_rfl) (fun _ _ _ h => h) (.inl ⟨by kernel_rfl, fun _ _ => by kernel_rfl⟩) s0 rfl ?_
  refine callH (i := 9) (f := 45) (args := #[.pointer (some ⟨t, 3, none⟩), .int .i64 (c : Nat)]) (v := .int .i64 (q : Nat)) (R := fun v => ∃ n, v = W7.drew.drewN n) _ (by kernel_rfl) rfl (by kernel_rfl) (by kernel_rfl) (by rw [HQ.out]; exact spot_any t made held nv s K f c ro c (by omega) hK2 (by omega) (by omega) W7.drew (B7.out.draws 1)) rfl ?_
  rintro W8 ⟨m, rfl⟩
  have B8 : Hid (Blk (W7.drew.drewN m) t (tc made held nv s K f c ro) 54) := Blk.draws (B7.out.draws 1) m
  have S8 : Hid (Blk (W7.drew.drewN m) s cur 28) := Blk.draws (S7.out.draws 1) m
  have K8 : Hid (Kp (S2 t s) w (W7.drew.drewN m)) := (K7.out.on (below_drawsX (Below.refl W7.heap.size W7) 1)).on (below_drawsX (Below.refl _ _) m)
  generalize W7.drew.drewN m = W8 at *
  have s1 : SR W8 := (HSR.out _).2 ⟨B8.out, _, S8.out⟩
  refine ⟨s1, ?_⟩
  refine takeH (i := 11) (v := .pointer (some ⟨s, q, none⟩)) _ rfl (by kernel_rfl) (by kernel_rfl) (by kernel_rfl) (fun _ _ _ h => h) (.inl ⟨by kernel_rfl, fun v hv => by have i7 : (q : Int) < (K : Int) := (by omega); go_simp⟩) s1 rfl ?_
  refine wpAnyH_all (rs := [12]) (by kernel_rfl) (by simp) ?_
  intro i hi
  obtain rfl : i = 12 := by simpa using hi
  have HCE : e.cells = #[e] := by rw [HE.out]; rfl
  have HTH : W8.there s q (#[e] : Array Value).size := (S8.out).thereAt q 1 (by rw [HN.out.size]; omega)
  have HO1 : (#[e] : Array Value).all (·.oneCell') = true := by rw [HE.out]; simp [Value.oneCell']
  refine wpOp_store rfl (by kernel_rfl) 28 (.tmp 42) (.tmp 41) rfl s q e #[e] (by kernel_rfl) (by kernel_rfl) HCE HTH (by kernel_rfl) HO1 _ rfl ?_
  intro W9 hW9
  have B9 : Hid (Blk W9 t (tc made held nv s K f c ro) 54) := by rw [hW9]; exact (B8.out).other hts q e
  have S9 : Hid (Blk W9 s (cur.setIfInBounds q e) 28) := by rw [hW9]; exact (S8.out).set q e
  have K9 : Hid (Kp (S2 t s) w W9) := by rw [hW9]; exact K8.out.trans (Kp.of_grown (grown_set W8 s q e) (.inr rfl))
  have HSR9 : SR W9 := (HSR.out _).2 ⟨B9.out, _, S9.out⟩
  clear hW9
  refine ⟨HSR9, ?_⟩
  refine wpAnyH_done (by kernel_rfl) ?_ _
  clear s0 s1 HSR HP0 B8 S8 K8 HSR9 HTH
  have c5 : W9.cell? ⟨t, 5, none⟩ = some (.int .i64 (c : Nat)) := B9.out.cell 5
  have f5 := B9.out.free 5
  have e5 : (c : Int) + 1 = ((c + 1 : Nat) : Int) := by omega
  have B10 : Hid (Blk (W9.setCell ⟨t, 5, none⟩ (.int .i64 ((c + 1 : Nat) : Int))) t (tc made held nv s K f (c + 1) ro) 54) := B9.out.set 5 (.int .i64 ((c + 1 : Nat) : Int))
  have S10 : Hid (Blk (W9.setCell ⟨t, 5, none⟩ (.int .i64 ((c + 1 : Nat) : Int))) s (cur.setIfInBounds q e) 28) := S9.out.other hts.symm 5 _
  have K10 : Hid (Kp (S2 t s) w (W9.setCell ⟨t, 5, none⟩ (.int .i64 ((c + 1 : Nat) : Int)))) := K9.out.trans (Kp.of_grown (grown_set W9 t 5 _) (.inl rfl))
  obtain ⟨c1, hc1⟩ : ∃ c1, c1 = c + 1 := ⟨_, rfl⟩
  have HC1 : Hid (c1 = c + 1) := hc1
  rw [← hc1] at e5 B10 S10 K10
  clear hc1
  go_upto_region 8 with fail
  go_wp2
  go_ret2
  exact ⟨rfl, f, _, by have := (HN.out).push e (by rw [← HC.out]; exact hl); rw [← HC.out, ← HQ.out] at this; exact this, by rw [show (e :: R).length = c1 by rw [HC1.out, HC.out]; rfl]; exact B10.out, S10.out, K10.out⟩
set_option maxRecDepth 100000 in
set_option maxHeartbeats 3200000 in
theorem push_full (t : Nat) (made held : Bool) (nv : Value) (s K f : Nat) (ro : Int) (cur : Array Value) (ea : Option Addr) (en' ek : Nat) (e : Value) (he : e = .slice ea en' ek) (R : List Value) (old : Value) (hl : R.length + 1 = K) (hK2 : K ≤ 4096) (w : World) (N : Rn K f cur (R ++ [old])) (B : Blk w t (tc made held nv s K f K ro) 54) (S : Blk w s cur 28) :
    Calls Tryd.prog 29 #[.pointer (some ⟨t, 3, none⟩), e] w fun en w' => en = .returned (.tuple #[old, .bool true]) ∧ RgOk t made held nv s K ro (e :: R) w w' := by
  have hts := blk_ne B S (by decide)
  have c3 : w.cell? ⟨t, 3, none⟩ = some (.slice (some ⟨s, 0, none⟩) K K) := B.cell 3
  have c5 : w.cell? ⟨t, 5, none⟩ = some (.int .i64 (K : Nat)) := B.cell 5
  have HB : Hid (Blk w t (tc made held nv s K f (R.length + 1) ro) 54) := by rw [hl]; exact B
  have HS : Hid (Blk w s cur 28) := S
  have HN0 : Hid (Rn K f cur (R ++ [old])) := N
  have i1 : ((K : Int) == 0) = false := by rw [beq_eq_false_iff_ne]; omega
  have i2 : ((K : Int) == (K : Int)) = true := beq_self_eq_true _
  have HE : Hid (e = .slice ea en' ek) := he
  have HL : Hid (R.length + 1 = K) := hl
  clear B S N he
  go_enter Tryd.func29, Tryd.ntmps29
  go_upto_region 4 with fail
  go_quiet (fail)
  have B7 : Hid (Blk (w.drewN nq) t (tc made held nv s K f (R.length + 1) ro) 54) := HB.out.draws nq
  have S7 : Hid (Blk (w.drewN nq) s cur 28) := HS.out.draws nq
  have K7 : Hid (Kp (S2 t s) w (w.drewN nq)) := (Kp.refl _ w).on (below_drawsX (Below.refl _ _) nq)
  go_upto_region 6 with fail
  generalize w.drewN nq = W5 at *
  clear c3 c5
  go_wp2_with fail
  refine (oldest_some t made held nv s K f ro cur old R hK2 W5 HN0.out B7.out S7.out).mono ?_
  rintro en W6 ⟨rfl, f1, cur1, N1, B1, S1, K1⟩
  obtain ⟨c, hc⟩ : ∃ c, c = R.length := ⟨_, rfl⟩
  have HC : Hid (c = R.length) := hc
  rw [← hc] at B1
  have hl2 : c < K := by omega
  have hf1 : f1 < K := N1.first (by omega)
  have HN : Hid (Rn K f1 cur1 R) := N1
  have B6 : Hid (Blk W6 t (tc made held nv s K f1 c ro) 54) := B1
  have S6 : Hid (Blk W6 s cur1 28) := S1
  have K6 : Hid (Kp (S2 t s) w W6) := K7.out.trans K1
  clear N1 B1 S1 K1 B7 S7 K7 HB HS HN0 hc hl
  go_upto_region 7 with fail
  obtain ⟨q, hq⟩ : ∃ q, q = (f1 + c) % K := ⟨_, rfl⟩
  have hqK : q < K := by rw [hq]; exact Nat.mod_lt _ (by omega)
  have HQ : Hid (q = (f1 + c) % K) := hq
  clear hq
  have S7 : (W6.setCell ⟨s, q, none⟩ e) = (W6.setCell ⟨s, q, none⟩ e) := rfl
  clear S7
  obtain ⟨SR, hSR⟩ : ∃ SR : World → Prop, SR = fun v => Blk v t (tc made held nv s K f1 c ro) 54 ∧ ∃ cs, Blk v s cs 28 := ⟨_, rfl⟩
  have HSR : Hid (∀ v, SR v ↔ (Blk v t (tc made held nv s K f1 c ro) 54 ∧ ∃ cs, Blk v s cs 28)) := fun v => by rw [hSR]
  have HP0 : Hid (∀ v, SR v → Blk v t (tc made held nv s K f1 c ro) 54) := fun v h => ((HSR.out v).1 h).1
  clear hSR
  have s0 : SR W6.drew := (HSR.out _).2 ⟨B6.out.draws 1, _, S6.out.draws 1⟩
  refine wp_region_held (S := SR) (by kernel_rfl) ?_
  refine takeH (i := 0) (v := .pointer (some ⟨t, 3, none⟩)) _ rfl (by kernel_rfl) (by kernel_rfl) (by kernel_rfl) (fun _ _ _ h => h) (.inl ⟨by kernel_rfl, fun _ _ => by kernel_rfl⟩) s0 rfl ?_
  refine takeH (i := 1) (v := .pointer (some ⟨t, 3, none⟩)) _ rfl (by kernel_rfl) (by kernel_rfl) (by kernel_rfl) (fun _ _ _ h => h) (.inl ⟨by kernel_rfl, fun _ _ => by kernel_rfl⟩) s0 rfl ?_
  refine takeH (i := 2) (v := .pointer (some ⟨t, 3, none⟩)) _ rfl (by kernel_rfl) (by kernel_rfl) (by kernel_rfl) (fun _ _ _ h => h) (.inl ⟨by kernel_rfl, fun _ _ => by kernel_rfl⟩) s0 rfl ?_
  refine takeH (i := 3) (v := .slice (some ⟨s, 0, none⟩) K K) _ rfl (by kernel_rfl) (by kernel_rfl) (by kernel_rfl) (fun _ _ _ h => h) (.inl ⟨by kernel_rfl, fun v hv => by have c : v.cell? ⟨t, 3, none⟩ = some (.slice (some ⟨s, 0, none⟩) K K) := (HP0.out v hv).cell 3; go_simp⟩) s0 rfl ?_
  refine takeH (i := 4) (v := .pointer (some ⟨t, 3, none⟩)) _ rfl (by kernel_rfl) (by kernel_rfl) (by kernel_rfl) (fun _ _ _ h => h) (.inl ⟨by kernel_rfl, fun _ _ => by kernel_rfl⟩) s0 rfl ?_
  refine takeH (i := 5) (v := .pointer (some ⟨t, 3, none⟩)) _ rfl (by kernel_rfl) (by kernel_rfl) (by kernel_rfl) (fun _ _ _ h => h) (.inl ⟨by kernel_rfl, fun _ _ => by kernel_rfl⟩) s0 rfl ?_
  refine takeH (i := 6) (v := .pointer (some ⟨t, 3, none⟩)) _ rfl (by kernel_rfl) (by kernel_rfl) (by kernel_rfl) (fun _ _ _ h => h) (.inl ⟨by kernel_rfl, fun _ _ => by kernel_rfl⟩) s0 rfl ?_
  refine takeH (i := 7) (v := .pointer (some ⟨t, 5, none⟩)) _ rfl (by kernel_rfl) (by kernel_rfl) (by kernel_rfl) (fun _ _ _ h => h) (.inl ⟨by kernel_rfl, fun _ _ => by kernel_rfl⟩) s0 rfl ?_
  refine takeH (i := 8) (v := .int .i64 (c : Nat)) _ rfl (by kernel_rfl) (by kernel_rfl) (by kernel_rfl) (fun _ _ _ h => h) (.inl ⟨by kernel_rfl, fun v hv => by have c : v.cell? ⟨t, 5, none⟩ = some (.int .i64 (c : Nat)) := (HP0.out v hv).cell 5; go_simp⟩) s0 rfl ?_
  refine takeH (i := 10) (v := e) _ rfl (by kernel_rfl) (by kernel_rfl) (by kernel_rfl) (fun _ _ _ h => h) (.inl ⟨by kernel_rfl, fun _ _ => by kernel_rfl⟩) s0 rfl ?_
  refine callH (i := 9) (f := 45) (args := #[.pointer (some ⟨t, 3, none⟩), .int .i64 (c : Nat)]) (v := .int .i64 (q : Nat)) (R := fun v => ∃ n, v = W6.drew.drewN n) _ (by kernel_rfl) rfl (by kernel_rfl) (by kernel_rfl) (by rw [HQ.out]; exact spot_any t made held nv s K f1 c ro c (by omega) hK2 (by omega) (by omega) W6.drew (B6.out.draws 1)) rfl ?_
  rintro W8 ⟨m, rfl⟩
  have B8 : Hid (Blk (W6.drew.drewN m) t (tc made held nv s K f1 c ro) 54) := Blk.draws (B6.out.draws 1) m
  have S8 : Hid (Blk (W6.drew.drewN m) s cur1 28) := Blk.draws (S6.out.draws 1) m
  have K8 : Hid (Kp (S2 t s) w (W6.drew.drewN m)) := (K6.out.on (below_drawsX (Below.refl W6.heap.size W6) 1)).on (below_drawsX (Below.refl _ _) m)
  generalize W6.drew.drewN m = W8 at *
  have s1 : SR W8 := (HSR.out _).2 ⟨B8.out, _, S8.out⟩
  refine ⟨s1, ?_⟩
  refine takeH (i := 11) (v := .pointer (some ⟨s, q, none⟩)) _ rfl (by kernel_rfl) (by kernel_rfl) (by kernel_rfl) (fun _ _ _ h => h) (.inl ⟨by kernel_rfl, fun v hv => by have i7 : (q : Int) < (K : Int) := (by omega); go_simp⟩) s1 rfl ?_
  refine wpAnyH_all (rs := [12]) (by kernel_rfl) (by simp) ?_
  intro i hi
  obtain rfl : i = 12 := by simpa using hi
  have HCE : e.cells = #[e] := by rw [HE.out]; rfl
  have HTH : W8.there s q (#[e] : Array Value).size := (S8.out).thereAt q 1 (by rw [HN.out.size]; omega)
  have HO1 : (#[e] : Array Value).all (·.oneCell') = true := by rw [HE.out]; simp [Value.oneCell']
  refine wpOp_store rfl (by kernel_rfl) 28 (.tmp 42) (.tmp 41) rfl s q e #[e] (by kernel_rfl) (by kernel_rfl) HCE HTH (by kernel_rfl) HO1 _ rfl ?_
  intro W9 hW9
  have B9 : Hid (Blk W9 t (tc made held nv s K f1 c ro) 54) := by rw [hW9]; exact (B8.out).other hts q e
  have S9 : Hid (Blk W9 s (cur1.setIfInBounds q e) 28) := by rw [hW9]; exact (S8.out).set q e
  have K9 : Hid (Kp (S2 t s) w W9) := by rw [hW9]; exact K8.out.trans (Kp.of_grown (grown_set W8 s q e) (.inr rfl))
  have HSR9 : SR W9 := (HSR.out _).2 ⟨B9.out, _, S9.out⟩
  clear hW9
  refine ⟨HSR9, ?_⟩
  refine wpAnyH_done (by kernel_rfl) ?_ _
  clear s0 s1 HSR HP0 B8 S8 K8 HSR9 HTH
  have c5 : W9.cell? ⟨t, 5, none⟩ = some (.int .i64 (c : Nat)) := B9.out.cell 5
  have f5 := B9.out.free 5
  have e5 : (c : Int) + 1 = ((c + 1 : Nat) : Int) := by omega
  have B10 : Hid (Blk (W9.setCell ⟨t, 5, none⟩ (.int .i64 ((c + 1 : Nat) : Int))) t (tc made held nv s K f1 (c + 1) ro) 54) := B9.out.set 5 (.int .i64 ((c + 1 : Nat) : Int))
  have S10 : Hid (Blk (W9.setCell ⟨t, 5, none⟩ (.int .i64 ((c + 1 : Nat) : Int))) s (cur1.setIfInBounds q e) 28) := S9.out.other hts.symm 5 _
  have K10 : Hid (Kp (S2 t s) w (W9.setCell ⟨t, 5, none⟩ (.int .i64 ((c + 1 : Nat) : Int)))) := K9.out.trans (Kp.of_grown (grown_set W9 t 5 _) (.inl rfl))
  obtain ⟨c1, hc1⟩ : ∃ c1, c1 = c + 1 := ⟨_, rfl⟩
  have HC1 : Hid (c1 = c + 1) := hc1
  rw [← hc1] at e5 B10 S10 K10
  clear hc1
  go_upto_region 8 with fail
  go_wp2
  go_ret2
  exact ⟨rfl, f1, _, by have := (HN.out).push e (by rw [← HC.out]; exact hl2); rw [← HC.out, ← HQ.out] at this; exact this, by rw [show (e :: R).length = c1 by rw [HC1.out, HC.out]; rfl]; exact B10.out, S10.out, K10.out⟩
end Go.Proofs.YtlckjbangdnejaaDoor
