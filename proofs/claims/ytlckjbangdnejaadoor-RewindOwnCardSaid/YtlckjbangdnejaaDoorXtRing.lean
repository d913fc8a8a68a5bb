/-
  The methods of the ring that lies within a tape.
-/
import Derived.Test.YtlckjbangdnejaaDoorXtRingS
import Derived.Lib.SliceRun
import Derived.BigQuiet
import Derived.Deep.QuietTactic
set_option linter.unusedSimpArgs false
set_option linter.unusedVariables false
namespace Go.Proofs.YtlckjbangdnejaaDoor
open Go.RowKit Classical
def S2 (t s : Nat) : Nat → Prop := fun k => k = t ∨ k = s
theorem none_nil (w : World) : Calls Tryd.prog 27 #[.pointer none] w fun e w' => e = .returned (.bool true) ∧ w' = w := by
  go_enter Tryd.func27, Tryd.ntmps27
  go_wp2
  go_ret
  exact ⟨rfl, rfl⟩
theorem none_any (t : Nat) (held : Bool) (nv : Value) (s K f c : Nat) (ro : Int) (w : World) (B : Blk w t (tc true held nv s K f c ro) 54) :
    Calls Tryd.prog 27 #[.pointer (some ⟨t, 0, none⟩)] w fun e w' => e = .returned (.bool false) ∧ w' = w := by
  have c0 : w.cell? ⟨t, 0, none⟩ = some (.bool true) := B.cell 0
  clear B
  go_enter Tryd.func27, Tryd.ntmps27
  go_wp2
  go_ret
  exact ⟨rfl, rfl⟩
theorem length_any (t : Nat) (made held : Bool) (nv : Value) (s K f c : Nat) (ro : Int) (w : World) (B : Blk w t (tc made held nv s K f c ro) 54) :
    Calls Tryd.prog 30 #[.pointer (some ⟨t, 3, none⟩)] w fun e w' => e = .returned (.int .i64 (c : Nat)) ∧ w' = w := by
  have c5 : w.cell? ⟨t, 5, none⟩ = some (.int .i64 (c : Nat)) := B.cell 5
  clear B
  go_enter Tryd.func30, Tryd.ntmps30
  go_wp2
  go_ret
  exact ⟨rfl, rfl⟩
set_option maxRecDepth 100000 in
set_option maxHeartbeats 800000 in
theorem spot_any (t : Nat) (made held : Bool) (nv : Value) (s K f c : Nat) (ro : Int) (i : Nat) (hK : 0 < K) (hK2 : K ≤ 4096) (hf : f < K) (hi : i ≤ 100000) (w : World) (B : Blk w t (tc made held nv s K f c ro) 54) :
    Calls Tryd.prog 45 #[.pointer (some ⟨t, 3, none⟩), .int .i64 i] w fun e w' => e = .returned (.int .i64 (((f + i) % K : Nat) : Int)) ∧ ∃ n, w' = w.drewN n := by
  have c3 : w.cell? ⟨t, 3, none⟩ = some (.slice (some ⟨s, 0, none⟩) K K) := B.cell 3
  have c4 : w.cell? ⟨t, 4, none⟩ = some (.int .i64 (f : Nat)) := B.cell 4
  obtain ⟨m, hm⟩ : ∃ m, m = (f + i) % K := ⟨_, rfl⟩
  have e1 : ((f : Int) + (i : Int)) % (K : Int) = (m : Int) := by subst hm; simp
  have e2 : ((f : Int) + (i : Int)).tmod (K : Int) = (m : Int) := by rw [Int.tmod_eq_emod_of_nonneg (by omega)]; exact e1
  have hk0 : ((K : Int) == 0) = false := by rw [beq_eq_false_iff_ne]; omega
  have hk1 : ¬ (K : Int) = 0 := by omega
  rw [← hm]
  clear B hm
  go_enter Tryd.func45, Tryd.ntmps45
  go_upto_region 1 with fail
  go_quiet (fail)
  go_wp2
  go_ret
  exact ⟨rfl, _, rfl⟩
set_option maxRecDepth 100000 in
set_option maxHeartbeats 800000 in
theorem empty_any (t : Nat) (made held : Bool) (nv : Value) (s K f c : Nat) (ro : Int) (j : Nat) (hj : j < K) (hK2 : K ≤ 4096) (cur : Array Value) (v : Value) (hc : cur.size = K) (hv : cur[j]? = some v) (w : World) (B : Blk w t (tc made held nv s K f c ro) 54) (S : Blk w s cur 28) :
    Calls Tryd.prog 52 #[.pointer (some ⟨t, 3, none⟩), .int .i64 j] w fun e w' => e = .returned v ∧ Blk w' s (cur.setIfInBounds j (.slice none 0 0)) 28 ∧ w.grownBy w' (some s) := by
  have c3 : w.cell? ⟨t, 3, none⟩ = some (.slice (some ⟨s, 0, none⟩) K K) := B.cell 3
  have d1 : w.cell? ⟨s, j, none⟩ = some v := (S.cell j).trans hv
  have CLR : ∀ ty k, (Builtin.clear_ #[22] ty #[.slice (some ⟨s, j, none⟩) 1 k]).run Tryd.prog w = .ok (.tuple #[]) (w.setCell ⟨s, j, none⟩ (.slice none 0 0)) := fun ty k => by
    have := Lib.run_clear_slice (P := Tryd.prog) w 22 28 ty (.slice none 0 0) (by kernel_rfl) (fun w => by kernel_rfl) rfl rfl s j 1 k (by decide) (fun q hq => by obtain rfl : q = 0 := (by omega); rw [Nat.add_zero, d1]; rfl) (fun q _ => S.free (j + q))
    exact this
  have HS : Hid (Blk (w.setCell ⟨s, j, none⟩ (.slice none 0 0)) s (cur.setIfInBounds j (.slice none 0 0)) 28) := S.set j _
  have HG : Hid (w.grownBy (w.setCell ⟨s, j, none⟩ (.slice none 0 0)) (some s)) := grown_set w s j _
  have i1 : (j : Int) < (K : Int) := by omega
  have i2 : (j : Int) + 1 ≤ (K : Int) := by omega
  have i3 : j + 1 ≤ K := by omega
  have i4 : j + 1 - j = 1 := by omega
  have i5 : j < K := hj
  clear B S hv hc hj
  go_enter Tryd.func52, Tryd.ntmps52
  go_wp2
  go_ret
  exact ⟨rfl, HS.out, HG.out⟩
theorem blk_ne {w : World} {a b : Nat} {x y : Array Value} {T T' : TypeId} (h : Blk w a x T) (k : Blk w b y T') (hT : T ≠ T') : a ≠ b := by
  rintro rfl
  unfold Blk at h k
  rw [h] at k
  cases k
  exact hT rfl
theorem Blk.draws {w : World} {b : Nat} {cs : Array Value} {t : TypeId} (h : Blk w b cs t) (n : Nat) : Blk (w.drewN n) b cs t := h.below h.lt (below_drawsX (Below.refl _ _) n)
theorem newest_none (t : Nat) (made held : Bool) (nv : Value) (s K f : Nat) (ro : Int) (w : World) (B : Blk w t (tc made held nv s K f 0 ro) 54) :
    Calls Tryd.prog 38 #[.pointer (some ⟨t, 3, none⟩)] w fun e w' => e = .returned (.tuple #[.slice none 0 0, .bool false]) ∧ w' = w := by
  have c5 : w.cell? ⟨t, 5, none⟩ = some (.int .i64 0) := B.cell 5
  clear B
  go_enter Tryd.func38, Tryd.ntmps38
  go_wp2
  go_ret2
  exact ⟨rfl, rfl⟩
theorem oldest_none (t : Nat) (made held : Bool) (nv : Value) (s K f : Nat) (ro : Int) (w : World) (B : Blk w t (tc made held nv s K f 0 ro) 54) :
    Calls Tryd.prog 44 #[.pointer (some ⟨t, 3, none⟩)] w fun e w' => e = .returned (.tuple #[.slice none 0 0, .bool false]) ∧ w' = w := by
  have c5 : w.cell? ⟨t, 5, none⟩ = some (.int .i64 0) := B.cell 5
  clear B
  go_enter Tryd.func44, Tryd.ntmps44
  go_wp2
  go_ret2
  exact ⟨rfl, rfl⟩
/-- A ring behind a call: its cells, its values, and that nothing else turned. -/
def RgOk (t : Nat) (made held : Bool) (nv : Value) (s K : Nat) (ro : Int) (R : List Value) (w w' : World) : Prop :=
  ∃ (f : Nat) (cur : Array Value), Rn K f cur R ∧ Blk w' t (tc made held nv s K f R.length ro) 54 ∧ Blk w' s cur 28 ∧ Kp (S2 t s) w w'
set_option maxRecDepth 100000 in
set_option maxHeartbeats 1600000 in
theorem newest_some (t : Nat) (made held : Bool) (nv : Value) (s K f : Nat) (ro : Int) (cur : Array Value) (e : Value) (R : List Value) (hK2 : K ≤ 4096) (w : World) (N : Rn K f cur (e :: R)) (B : Blk w t (tc made held nv s K f (R.length + 1) ro) 54) (S : Blk w s cur 28) :
    Calls Tryd.prog 38 #[.pointer (some ⟨t, 3, none⟩)] w fun en w' => en = .returned (.tuple #[e, .bool true]) ∧ RgOk t made held nv s K ro R w w' := by
  have hl := N.le
  rw [List.length_cons] at hl
  have hf := N.first (by omega)
  obtain ⟨n1, n2⟩ := N.newest (.slice none 0 0)
  have hts := blk_ne B S (by decide)
  obtain ⟨c, hc⟩ : ∃ c, c = R.length := ⟨_, rfl⟩
  rw [← hc] at B n1 n2 hl
  have c5 : w.cell? ⟨t, 5, none⟩ = some (.int .i64 ((c : Int) + 1)) := by have := B.cell 5; simpa [tc] using this
  have f5 := B.free 5
  have B1 : Hid (Blk (w.setCell ⟨t, 5, none⟩ (.int .i64 (c : Nat))) t (tc made held nv s K f c ro) 54) := B.set 5 (.int .i64 (c : Nat))
  have S1 : Hid (Blk (w.setCell ⟨t, 5, none⟩ (.int .i64 (c : Nat))) s cur 28) := S.other hts.symm 5 _
  have K1 : Hid (Kp (S2 t s) w (w.setCell ⟨t, 5, none⟩ (.int .i64 (c : Nat)))) := Kp.of_grown (grown_set w t 5 _) (.inl rfl)
  have HN : Hid (cur[(f + c) % K]? = some e ∧ Rn K f (cur.setIfInBounds ((f + c) % K) (.slice none 0 0)) R) := ⟨n1, n2⟩
  have HC : Hid (c = R.length) := hc
  have hsz := N.size
  have i1 : ((c : Int) + 1 == 0) = false := by rw [beq_eq_false_iff_ne]; omega
  have i2 : (c : Int) + 1 - 1 = (c : Int) := by omega
  clear B S n1 n2 N hc
  go_enter Tryd.func38, Tryd.ntmps38
  go_upto_region 5 with fail
  have c6 : (w.setCell ⟨t, 5, none⟩ (.int .i64 (c : Nat))).cell? ⟨t, 5, none⟩ = some (.int .i64 (c : Nat)) := B1.out.cell 5
  generalize w.setCell ⟨t, 5, none⟩ (.int .i64 (c : Nat)) = w1 at *
  clear c5 f5
  go_wp2_with fail
  refine (spot_any t made held nv s K f c ro c (by omega) hK2 hf (by omega) w1 B1.out).mono ?_
  rintro en w2 ⟨rfl, m, rfl⟩
  go_wp2_with fail
  refine (empty_any t made held nv s K f c ro ((f + c) % K) (Nat.mod_lt _ (by omega)) hK2 cur e hsz HN.out.1 _ (B1.out.draws m) (S1.out.draws m)).mono ?_
  rintro en w3 ⟨rfl, S3, G3⟩
  have B3 : Hid (Blk w3 t (tc made held nv s K f c ro) 54) := (G3.block t (B1.out.draws m).lt (fun e => hts (by cases e; rfl))).trans (B1.out.draws m)
  have S3' : Hid (Blk w3 s (cur.setIfInBounds ((f + c) % K) (.slice none 0 0)) 28) := S3
  have K3 : Hid (Kp (S2 t s) w w3) := (K1.out.on (below_drawsX (Below.refl _ _) m)).trans (Kp.of_grown G3 (.inr rfl))
  clear S3 G3
  go_wp2
  go_ret2
  exact ⟨rfl, f, _, HN.out.2, by rw [← HC.out]; exact B3.out, S3'.out, K3.out⟩
set_option maxRecDepth 100000 in
set_option maxHeartbeats 1600000 in
theorem oldest_some (t : Nat) (made held : Bool) (nv : Value) (s K f : Nat) (ro : Int) (cur : Array Value) (e : Value) (R : List Value) (hK2 : K ≤ 4096) (w : World) (N : Rn K f cur (R ++ [e])) (B : Blk w t (tc made held nv s K f (R.length + 1) ro) 54) (S : Blk w s cur 28) :
    Calls Tryd.prog 44 #[.pointer (some ⟨t, 3, none⟩)] w fun en w' => en = .returned (.tuple #[e, .bool true]) ∧ RgOk t made held nv s K ro R w w' := by
  have hl := N.le
  rw [List.length_append, List.length_singleton] at hl
  have hf := N.first (by omega)
  obtain ⟨n1, n2⟩ := N.oldest (.slice none 0 0)
  have hts := blk_ne B S (by decide)
  obtain ⟨c, hc⟩ : ∃ c, c = R.length := ⟨_, rfl⟩
  rw [← hc] at B hl
  have c4 : w.cell? ⟨t, 4, none⟩ = some (.int .i64 (f : Nat)) := B.cell 4
  have c5 : w.cell? ⟨t, 5, none⟩ = some (.int .i64 ((c : Int) + 1)) := by have := B.cell 5; simpa [tc] using this
  have HB : Hid (Blk w t (tc made held nv s K f (c + 1) ro) 54) := B
  have HS : Hid (Blk w s cur 28) := S
  have HN : Hid (cur[f]? = some e ∧ Rn K ((f + 1) % K) (cur.setIfInBounds f (.slice none 0 0)) R) := ⟨n1, n2⟩
  have HC : Hid (c = R.length) := hc
  have hsz := N.size
  have i1 : ((c : Int) + 1 == 0) = false := by rw [beq_eq_false_iff_ne]; omega
  have i2 : (c : Int) + 1 - 1 = (c : Int) := by omega
  clear B S n1 n2 N hc
  go_enter Tryd.func44, Tryd.ntmps44
  go_upto_region 4 with fail
  go_wp2_with fail
  refine (empty_any t made held nv s K f (c + 1) ro f hf hK2 cur e hsz HN.out.1 w HB.out HS.out).mono ?_
  rintro en w3 ⟨rfl, S3, G3⟩
  have B3 : Hid (Blk w3 t (tc made held nv s K f (c + 1) ro) 54) := (G3.block t HB.out.lt (fun e => hts (by cases e; rfl))).trans HB.out
  have S3' : Hid (Blk w3 s (cur.setIfInBounds f (.slice none 0 0)) 28) := S3
  have K3 : Hid (Kp (S2 t s) w w3) := Kp.of_grown G3 (.inr rfl)
  clear S3 G3 c4 c5
  go_upto_region 5 with fail
  go_wp2_with fail
  refine (spot_any t made held nv s K f (c + 1) ro 1 (by omega) hK2 hf (by omega) w3 B3.out).mono ?_
  rintro en w4 ⟨rfl, m, rfl⟩
  have B4 := B3.out.draws m
  have S4 := S3'.out.draws m
  have K4 := K3.out.on (below_drawsX (Below.refl w3.heap.size w3) m)
  generalize w3.drewN m = w4 at *
  obtain ⟨q, hq⟩ : ∃ q, q = (f + 1) % K := ⟨_, rfl⟩
  rw [← hq] at HN ⊢
  clear hq
  have c4 : w4.cell? ⟨t, 4, none⟩ = some (.int .i64 (f : Nat)) := B4.cell 4
  have f4 := B4.free 4
  have B5 : Hid (Blk (w4.setCell ⟨t, 4, none⟩ (.int .i64 (q : Nat))) t (tc made held nv s K q (c + 1) ro) 54) := B4.set 4 (.int .i64 (q : Nat))
  have S5 : Hid (Blk (w4.setCell ⟨t, 4, none⟩ (.int .i64 (q : Nat))) s (cur.setIfInBounds f (.slice none 0 0)) 28) := S4.other hts.symm 4 _
  have K5 : Hid (Kp (S2 t s) w (w4.setCell ⟨t, 4, none⟩ (.int .i64 (q : Nat)))) := K4.trans (Kp.of_grown (grown_set w4 t 4 _) (.inl rfl))
  clear B4 S4 K4
  go_upto_region 6 with fail
  generalize w4.setCell ⟨t, 4, none⟩ (.int .i64 (q : Nat)) = w5 at *
  have c5 : w5.cell? ⟨t, 5, none⟩ = some (.int .i64 ((c : Int) + 1)) := by have := B5.out.cell 5; simpa [tc] using this
  have f5 := B5.out.free 5
  have B6 : Hid (Blk (w5.setCell ⟨t, 5, none⟩ (.int .i64 (c : Nat))) t (tc made held nv s K q c ro) 54) := B5.out.set 5 (.int .i64 (c : Nat))
  have S6 : Hid (Blk (w5.setCell ⟨t, 5, none⟩ (.int .i64 (c : Nat))) s (cur.setIfInBounds f (.slice none 0 0)) 28) := S5.out.other hts.symm 5 _
  have K6 : Hid (Kp (S2 t s) w (w5.setCell ⟨t, 5, none⟩ (.int .i64 (c : Nat)))) := K5.out.trans (Kp.of_grown (grown_set w5 t 5 _) (.inl rfl))
  clear c4 f4
  go_wp2
  go_ret2
  exact ⟨rfl, q, _, HN.out.2, by rw [← HC.out]; exact B6.out, S6.out, K6.out⟩
set_option maxRecDepth 100000 in
set_option maxHeartbeats 1600000 in
theorem at_any (t : Nat) (made held : Bool) (nv : Value) (s K f : Nat) (ro : Int) (cur : Array Value) (R : List Value) (i : Nat) (v : Value) (hi : R[i]? = some v) (hK2 : K ≤ 4096) (w : World) (N : Rn K f cur R) (B : Blk w t (tc made held nv s K f R.length ro) 54) (S : Blk w s cur 28) :
    Calls Tryd.prog 32 #[.pointer (some ⟨t, 3, none⟩), .int .i64 i] w fun en w' => en = .returned v ∧ ∃ n, w' = w.drewN n := by
  have hil := (List.getElem?_eq_some_iff.1 hi).1
  have hl := N.le
  have hf := N.first (by omega)
  have ha := (N.at' i hil).trans hi
  have hsz := N.size
  obtain ⟨c, hc⟩ : ∃ c, c = R.length := ⟨_, rfl⟩
  rw [← hc] at B hl ha hil
  obtain ⟨j, hj⟩ : ∃ j, j = c - 1 - i := ⟨_, rfl⟩
  obtain ⟨q, hq⟩ : ∃ q, q = (f + j) % K := ⟨_, rfl⟩
  have hqK : q < K := by rw [hq]; exact Nat.mod_lt _ (by omega)
  rw [← hj, ← hq] at ha
  have c3 : w.cell? ⟨t, 3, none⟩ = some (.slice (some ⟨s, 0, none⟩) K K) := B.cell 3
  have c5 : w.cell? ⟨t, 5, none⟩ = some (.int .i64 (c : Nat)) := B.cell 5
  have d1 : w.cell? ⟨s, q, none⟩ = some v := (S.cell q).trans ha
  have HB : Hid (Blk w t (tc made held nv s K f c ro) 54) := B
  have HQ : Hid (q = (f + j) % K) := hq
  have e1 : (c : Int) - 1 - (i : Int) = (j : Int) := by omega
  have i1 : (q : Int) < (K : Int) := by omega
  have SP : ∀ m, Calls Tryd.prog 45 #[.pointer (some ⟨t, 3, none⟩), .int .i64 j] (w.drewN m) fun e w' => e = .returned (.int .i64 (q : Int)) ∧ ∃ n, w' = (w.drewN m).drewN n := fun m => by
    rw [HQ.out]
    exact spot_any t made held nv s K f c ro j (by omega) hK2 hf (by omega) _ (HB.out.draws m)
  have HSP : Hid (∀ m, Calls Tryd.prog 45 #[.pointer (some ⟨t, 3, none⟩), .int .i64 j] (w.drewN m) fun e w' => e = .returned (.int .i64 (q : Int)) ∧ ∃ n, w' = (w.drewN m).drewN n) := SP
  clear B S N hc hi ha hq hj SP
  go_enter Tryd.func32, Tryd.ntmps32
  go_upto_region 1 with fail
  go_quiet ((go_at_call 45; exact Calls.quiet_of (HSP.out _)))
  go_wp2
  go_ret
  exact ⟨rfl, _, rfl⟩
end Go.Proofs.YtlckjbangdnejaaDoor
