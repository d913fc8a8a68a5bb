/-
  What the document's format, power, ram, size and marks answer; conditions: the header's bytes lie in the slice.
-/
import Derived.Test.YtilhlbnicmmaoaaDoorPcuSw
import Derived.BigQuiet
set_option linter.unusedSimpArgs false
set_option linter.unusedVariables false
namespace Go.Proofs.YtilhlbnicmmaoaaDoor
open Go.RowKit
/-- The header's bytes lie where the slice begins. -/
def HdAt (W : World) (b off : Nat) (h : Hq) : Prop := ∀ i, i < 16 → W.cell? ⟨b, off + i, none⟩ = some (.int .u8 (h.l.getD i 0 : Nat))
theorem HdAt.below {W W' : World} {b off : Nat} {h : Hq} (H : HdAt W b off h) (hb : Below W.heap.size W W') : HdAt W' b off h := fun i hi => (hb.cell (p := ⟨b, off + i, none⟩) (cell_lt (p := ⟨b, off + i, none⟩) (H i hi))).trans (H i hi)
theorem HdAt.drewN {W : World} {b off : Nat} {h : Hq} (H : HdAt W b off h) (n : Nat) : HdAt (W.drewN n) b off h := H.below (below_draws (Below.refl _ _) n)
set_option maxHeartbeats 1000000 in
theorem rformat_g (h : Hq) (B : h.Ok) (b off n k : Nat) (hn : 16 ≤ n) (W : World) (HA : HdAt W b off h) :
    Calls Tryd.prog 47 #[.slice (some ⟨b, off, none⟩) n k] W fun e w' => e = .returned (.int .i64 ((h.f : Nat) : Int)) ∧ w' = W := by
  have i7 : (7 : Int) < (n : Int) := by omega
  have j7 : 7 < n := by omega
  have c7 : W.cell? ⟨b, off + 7, none⟩ = some (.int .u8 ((h.b7 : Nat) : Int)) := HA 7 (by decide)
  have i12 : (12 : Int) < (n : Int) := by omega
  have j12 : 12 < n := by omega
  have c12 : W.cell? ⟨b, off + 12, none⟩ = some (.int .u8 ((h.b12 : Nat) : Int)) := HA 12 (by decide)
  have i13 : (13 : Int) < (n : Int) := by omega
  have j13 : 13 < n := by omega
  have c13 : W.cell? ⟨b, off + 13, none⟩ = some (.int .u8 ((h.b13 : Nat) : Int)) := HA 13 (by decide)
  have i14 : (14 : Int) < (n : Int) := by omega
  have j14 : 14 < n := by omega
  have c14 : W.cell? ⟨b, off + 14, none⟩ = some (.int .u8 ((h.b14 : Nat) : Int)) := HA 14 (by decide)
  have i15 : (15 : Int) < (n : Int) := by omega
  have j15 : 15 < n := by omega
  have c15 : W.cell? ⟨b, off + 15, none⟩ = some (.int .u8 ((h.b15 : Nat) : Int)) := HA 15 (by decide)
  have a12 := (by_and h.b7 B.k7).1
  have HF : Hid (h.f = if h.b7 / 4 % 4 = 2 then 2 else if h.b7 / 4 % 4 = 0 ∧ h.b12 = 0 ∧ h.b13 = 0 ∧ h.b14 = 0 ∧ h.b15 = 0 then 1 else 0) := rfl
  obtain ⟨ff, hff⟩ : ∃ ff, h.f = ff := ⟨_, rfl⟩
  rw [hff] at HF ⊢
  clear hff HA B
  generalize h.b7 / 4 % 4 = t at *
  generalize h.b7 = y7 at *
  generalize h.b12 = y12 at *
  generalize h.b13 = y13 at *
  generalize h.b14 = y14 at *
  generalize h.b15 = y15 at *
  by_cases h2 : t = 2
  · subst h2
    have e : bits BinOp.and IntKind.u8 (y7 : Int) 12 = 8 := a12
    have e2 : ff = 2 := HF.out
    subst e2
    clear a12
    go_enter Tryd.func47, Tryd.ntmps47
    go_wp2
    go_ret
    exact ⟨rfl, rfl⟩
  have e : (bits BinOp.and IntKind.u8 (y7 : Int) 12 == 8) = false := by rw [a12, beq_eq_false_iff_ne]; omega
  by_cases h0 : t = 0
  · subst h0
    have e0 : bits BinOp.and IntKind.u8 (y7 : Int) 12 = 0 := a12
    clear a12 e
    by_cases z12 : y12 = 0
    · by_cases z13 : y13 = 0
      · by_cases z14 : y14 = 0
        · by_cases z15 : y15 = 0
          · have e2 : ff = 1 := by rw [HF.out, if_neg h2, if_pos ⟨rfl, z12, z13, z14, z15⟩]
            subst e2 z12 z13 z14 z15
            clear h2
            go_enter Tryd.func47, Tryd.ntmps47
            go_wp2
            go_ret
            exact ⟨rfl, rfl⟩
          · have e2 : ff = 0 := by rw [HF.out, if_neg h2, if_neg (fun x => z15 x.2.2.2.2)]
            have q : ((y15 : Int) == 0) = false := by rw [beq_eq_false_iff_ne]; omega
            subst e2 z12 z13 z14
            clear h2 z15
            go_enter Tryd.func47, Tryd.ntmps47
            go_wp2
            go_ret
            exact ⟨rfl, rfl⟩
        · have e2 : ff = 0 := by rw [HF.out, if_neg h2, if_neg (fun x => z14 x.2.2.2.1)]
          have q : ((y14 : Int) == 0) = false := by rw [beq_eq_false_iff_ne]; omega
          subst e2 z12 z13
          clear h2 z14
          go_enter Tryd.func47, Tryd.ntmps47
          go_wp2
          go_ret
          exact ⟨rfl, rfl⟩
      · have e2 : ff = 0 := by rw [HF.out, if_neg h2, if_neg (fun x => z13 x.2.2.1)]
        have q : ((y13 : Int) == 0) = false := by rw [beq_eq_false_iff_ne]; omega
        subst e2 z12
        clear h2 z13
        go_enter Tryd.func47, Tryd.ntmps47
        go_wp2
        go_ret
        exact ⟨rfl, rfl⟩
    · have e2 : ff = 0 := by rw [HF.out, if_neg h2, if_neg (fun x => z12 x.2.1)]
      have q : ((y12 : Int) == 0) = false := by rw [beq_eq_false_iff_ne]; omega
      subst e2
      clear h2 z12
      go_enter Tryd.func47, Tryd.ntmps47
      go_wp2
      go_ret
      exact ⟨rfl, rfl⟩
  · have e0 : (bits BinOp.and IntKind.u8 (y7 : Int) 12 == 0) = false := by rw [a12, beq_eq_false_iff_ne]; omega
    have e2 : ff = 0 := by rw [HF.out, if_neg h2, if_neg (fun x => h0 x.1)]
    subst e2
    clear a12 h0 h2
    go_enter Tryd.func47, Tryd.ntmps47
    go_wp2
    go_ret
    exact ⟨rfl, rfl⟩
/-- A power of two, times m; -1 above the bound. -/
def pwV (e m bound : Nat) : Int := if m * 2 ^ e ≤ bound then ((m * 2 ^ e : Nat) : Int) else -1
set_option maxHeartbeats 1000000 in
theorem rpower_g (e m bound : Nat) (hm : 1 ≤ m) (hmb : m ≤ bound) (hb : bound ≤ 1073741824) (he : e ≤ 63) (W : World) :
    Calls Tryd.prog 82 #[.int .i64 (e : Nat), .int .i64 (m : Nat), .int .i64 (bound : Nat)] W fun x w' => x = .returned (.int .i64 (pwV e m bound)) ∧ w' = W := by
  have HV : Hid ((m * 2 ^ e ≤ bound → pwV e m bound = ((m * 2 ^ e : Nat) : Int)) ∧ (¬ m * 2 ^ e ≤ bound → pwV e m bound = -1)) := ⟨fun h => if_pos h, fun h => if_neg h⟩
  have HS : Hid (∀ i j, i ≤ j → m * 2 ^ i ≤ m * 2 ^ j) := fun i j h => Nat.mul_le_mul_left m (Nat.pow_le_pow_right (by decide) h)
  have HD : Hid (∀ i, m * 2 ^ (i + 1) = m * 2 ^ i * 2) := fun i => by rw [Nat.pow_succ, Nat.mul_assoc]
  have H0 : Hid (m * 2 ^ 0 = m) := by unfold Hid; simp
  generalize pwV e m bound = pv at *
  go_enter Tryd.func82, Tryd.ntmps82
  go_upto_region 3 with fail
  go_loop [7, 8] (fun z x => ∃ i v : Nat, i ≤ e ∧ v = m * 2 ^ i ∧ v ≤ bound ∧ z = .int .i64 (v : Nat) ∧ x = .int .i64 (i : Nat)) (fun _ x => e - (intOf x).toNat)
  case atStart => exact ⟨0, m, Nat.zero_le _, H0.out.symm, hmb, rfl, rfl⟩
  case round =>
    obtain ⟨i, v, hi, hv, hvb, rfl, rfl⟩ := hrel
    have HVI : Hid (v = m * 2 ^ i) := hv
    clear hv
    by_cases h : i < e
    · by_cases h2 : v * 2 ≤ bound
      · have h2' : ¬ (bound : Int) < (v : Int) * 2 := by omega
        go_wp2
        go_round
        case rel => exact ⟨i + 1, v * 2, by omega, by rw [HD.out, ← HVI.out], h2, by go_num, by go_num⟩
        case measure => simp [intOf]; omega
      · have h2' : (bound : Int) < (v : Int) * 2 := by omega
        have HP : Hid (pv = -1) := HV.out.2 (fun hh => h2 (by have := HS.out (i + 1) e h; rw [HD.out, ← HVI.out] at this; omega))
        go_wp2
        go_ret
        exact ⟨by rw [HP.out]; rfl, rfl⟩
    · obtain rfl : i = e := by omega
      have HP : Hid (pv = ((v : Nat) : Int)) := by unfold Hid; rw [HV.out.1 (by rw [← HVI.out]; exact hvb), ← HVI.out]
      go_wp2
      go_ret
      exact ⟨by rw [HP.out]; rfl, rfl⟩
theorem rz_pw : ∀ k : Nat, k ≤ 15 → k ≠ 0 → pwV k 64 1073741824 = ((rz k : Nat) : Int) := by decide +kernel
theorem rram_g (k : Nat) (hk : k ≤ 15) (W : World) : Calls Tryd.prog 67 #[.int .i64 (k : Nat)] W fun x w' => x = .returned (.int .i64 ((rz k : Nat) : Int)) ∧ w' = W := by
  by_cases h0 : k = 0
  · subst h0
    go_enter Tryd.func67, Tryd.ntmps67
    go_wp2
    go_ret
    exact ⟨rfl, rfl⟩
  · have q : ((k : Int) == 0) = false := by rw [beq_eq_false_iff_ne]; omega
    have PC : Hid (Calls _ _ _ _ _) := rpower_g k 64 1073741824 (by decide) (by decide) (by decide) (by omega) W
    rw [rz_pw k hk h0] at PC
    generalize rz k = v at *
    clear h0
    go_enter Tryd.func67, Tryd.ntmps67
    go_wp2_with fail
    refine PC.out.mono ?_
    rintro e w ⟨rfl, rfl⟩
    go_wp2
    go_ret
    exact ⟨rfl, rfl⟩
/-- A number of bytes as the document's answer has it. -/
def rsV (low high unit bound : Nat) : Int := if high = 15 then pwV (low / 4) (low % 4 * 2 + 1) bound else (((high * 256 + low) * unit : Nat) : Int)
theorem rsize_g (low high unit bound : Nat) (h1 : low < 256) (h2 : high < 16) (hu : unit ≤ 16384) (hb : 7 ≤ bound) (hb2 : bound ≤ 1073741824) (W : World) :
    Calls Tryd.prog 68 #[.int .u8 (low : Nat), .int .i64 (high : Nat), .int .i64 (unit : Nat), .int .i64 (bound : Nat)] W fun x w' => x = .returned (.int .i64 (rsV low high unit bound)) ∧ w' = W := by
  by_cases h15 : high = 15
  · subst h15
    have e : rsV low 15 unit bound = pwV (low / 4) (low % 4 * 2 + 1) bound := if_pos rfl
    have PC : Hid (Calls _ _ _ _ _) := rpower_g (low / 4) (low % 4 * 2 + 1) bound (by omega) (by omega) hb2 (by omega) W
    rw [e]
    generalize pwV (low / 4) (low % 4 * 2 + 1) bound = pv at *
    have q1 : (low : Int).tdiv 4 = ((low / 4 : Nat) : Int) := by go_num
    have q2 : (low : Int).tmod 4 = ((low % 4 : Nat) : Int) := by go_num
    have hq1 : low / 4 < 64 := by omega
    have hq2 : low % 4 < 4 := by omega
    have PC2 : Hid (Calls Tryd.prog 82 #[.int .i64 ((low / 4 : Nat) : Int), .int .i64 (((low % 4 : Nat) : Int) * 2 + 1), .int .i64 (bound : Nat)] W fun x w' => x = .returned (.int .i64 pv) ∧ w' = W) := by
      have := PC.out
      rwa [show ((low % 4 * 2 + 1 : Nat) : Int) = ((low % 4 : Nat) : Int) * 2 + 1 by omega] at this
    clear PC e
    generalize low / 4 = y1 at *
    generalize low % 4 = y2 at *
    go_enter Tryd.func68, Tryd.ntmps68
    go_wp2_with fail
    refine PC2.out.mono ?_
    rintro e w ⟨rfl, rfl⟩
    go_wp2
    go_ret
    exact ⟨rfl, rfl⟩
  · have e : rsV low high unit bound = (((high * 256 + low) * unit : Nat) : Int) := if_neg h15
    rw [e]
    have q : ((high : Int) == 15) = false := by rw [beq_eq_false_iff_ne]; omega
    have hbb : (high * 256 + low) * unit ≤ 4096 * 16384 := Nat.mul_le_mul (by omega) hu
    have g3 : ((high : Int) * 256 + (low : Int)) * (unit : Int) = (((high * 256 + low) * unit : Nat) : Int) := by simp
    generalize (high * 256 + low) * unit = m at *
    clear e h15
    go_enter Tryd.func68, Tryd.ntmps68
    go_wp2
    go_ret
    exact ⟨by go_num, rfl⟩
/-- The first place, from i on, with a marked bit; 0: none. -/
def fbM (l M : List Nat) : Nat → Nat → Nat
  | 0, _ => 0
  | k + 1, i => if bits BinOp.and IntKind.u8 ((l.getD i 0 : Nat) : Int) ((M.getD i 0 : Nat) : Int) = 0 then fbM l M k (i + 1) else i
theorem fb_fbM (h : Hq) : ∀ k i, h.fb k i = fbM h.l h.rs k i
  | 0, _ => rfl
  | k + 1, i => by
    show (if _ then h.fb k (i + 1) else i) = (if _ then fbM h.l h.rs k (i + 1) else i)
    rw [fb_fbM h k (i + 1)]
theorem fbM_at (l M : List Nat) : ∀ (k i : Nat), i + k = 16 → (∀ j, j < i → bits BinOp.and IntKind.u8 ((l.getD j 0 : Nat) : Int) ((M.getD j 0 : Nat) : Int) = 0) → fbM l M 16 0 = fbM l M k i
  | k, 0, e, _ => by obtain rfl : k = 16 := by omega
                     rfl
  | k, i + 1, e, hj => by
    rw [fbM_at l M (k + 1) i (by omega) (fun j hj' => hj j (by omega))]
    show (if bits BinOp.and IntKind.u8 ((l.getD i 0 : Nat) : Int) ((M.getD i 0 : Nat) : Int) = 0 then fbM l M k (i + 1) else i) = _
    rw [if_pos (hj i (by omega))]
set_option maxHeartbeats 1000000 in
theorem rmarks_g (h : Hq) (M : List Nat) (hM : M.length = 16) (ms : Array Value) (hms : ms = (vals M).toArray) (b off n k : Nat) (hn : 16 ≤ n) (W : World) (HA0 : HdAt W b off h) :
    Calls Tryd.prog 66 #[.agg ms, .slice (some ⟨b, off, none⟩) n k] W fun e w' => e = .returned (.int .i64 ((fbM h.l M 16 0 : Nat) : Int)) ∧ Below W.heap.size W w' := by
  have HMS : Hid (ms = (vals M).toArray) := hms
  have hsz : ms.size = 16 := by rw [hms]; simp [vals, hM]
  have HM : Hid (M.length = 16) := hM
  clear hms hM
  obtain ⟨rv, hrv⟩ : ∃ rv, fbM h.l M 16 0 = rv := ⟨_, rfl⟩
  have HRV : Hid (fbM h.l M 16 0 = rv) := hrv
  rw [hrv]
  clear hrv
  go_enter Tryd.func66, Tryd.ntmps66
  go_upto_region 1 with fail
  have b0 : Blk (W.alloc (.cells ms 32)) W.heap.size ms 32 := Blk.new W ms _
  have hb0 : Below W.heap.size W (W.alloc (.cells ms 32)) := (Below.refl _ _).alloc (Nat.le_refl _) _
  have HA := HA0.below hb0
  generalize W.alloc (.cells ms 32) = W0 at *
  clear hsz HA0
  go_upto_region 2 with fail
  go_loopw [5] (fun z wr => ∃ i : Nat, i ≤ 16 ∧ z = .int .i64 (i : Nat) ∧ (∀ j, j < i → bits BinOp.and IntKind.u8 ((h.l.getD j 0 : Nat) : Int) ((M.getD j 0 : Nat) : Int) = 0) ∧ Blk wr W.heap.size ms 32 ∧ HdAt wr b off h ∧ Below W.heap.size W wr) (fun z _ => 16 - (intOf z).toNat)
  case atStart => exact ⟨0, Nat.zero_le _, rfl, (fun _ hh => absurd hh (Nat.not_lt_zero _)), b0, HA, hb0⟩
  case round =>
    clear b0 HA hb0
    obtain ⟨i, hi16, rfl, hj, b0, HA, hb0⟩ := hrel
    have HJ : Hid _ := hj
    clear hj
    by_cases h16 : i < 16
    · have c1 : wr.cell? ⟨b, off + i, none⟩ = some (.int .u8 (h.l.getD i 0 : Nat)) := HA i h16
      have c2 : wr.cell? ⟨W.heap.size, i, none⟩ = some (.int .u8 (M.getD i 0 : Nat)) := by
        have hj' : i < M.length := by rw [HM.out]; exact h16
        rw [b0.cell i, HMS.out]
        simp [vals, hj']
      have iN : (i : Int) < (n : Int) := by omega
      have jN : i < n := by omega
      have i6 : (i : Int) < 16 := by omega
      obtain ⟨u, hu⟩ : ∃ u, h.l.getD i 0 = u := ⟨_, rfl⟩
      obtain ⟨q, hq⟩ : ∃ q, M.getD i 0 = q := ⟨_, rfl⟩
      have HU : Hid (h.l.getD i 0 = u ∧ M.getD i 0 = q) := ⟨hu, hq⟩
      rw [hu] at c1
      rw [hq] at c2
      clear hu hq
      by_cases hz : bits BinOp.and IntKind.u8 (u : Int) (q : Int) = 0
      · have HZ : Hid (bits BinOp.and IntKind.u8 (u : Int) (q : Int) = 0) := hz
        go_upto_region 4 with fail
        go_quiet (fail)
        go_wp2
        go_roundw
        case rel => exact ⟨i + 1, by omega, by go_num, (fun j hj => by
          rcases (show j < i ∨ j = i by omega) with hh | rfl
          · exact HJ.out j hh
          · rw [HU.out.1, HU.out.2]; exact HZ.out), b0.below b0.lt (below_draws (Below.refl _ _) _), HA.drewN _, below_draws hb0 _⟩
        case measure => simp [intOf]; omega
      · have HBD : Hid (rv = i) := by
          unfold Hid
          rw [← HRV.out, fbM_at h.l M (15 - i + 1) i (by omega) HJ.out]
          show (if bits BinOp.and IntKind.u8 ((h.l.getD i 0 : Nat) : Int) ((M.getD i 0 : Nat) : Int) = 0 then fbM h.l M (15 - i) (i + 1) else i) = _
          rw [HU.out.1, HU.out.2, if_neg hz]
        have hz' : (bits BinOp.and IntKind.u8 (u : Int) (q : Int) != 0) = true := by rw [bne_iff_ne]; exact hz
        clear hz
        go_upto_region 4 with fail
        go_quiet (fail)
        go_wp2
        go_ret
        exact ⟨by rw [HBD.out]; rfl, below_draws hb0 _⟩
    · obtain rfl : i = 16 := by omega
      have HBD : Hid (rv = 0) := by unfold Hid; rw [← HRV.out]; exact fbM_at h.l M 0 16 rfl HJ.out
      go_wp2
      go_ret
      exact ⟨by rw [HBD.out]; rfl, hb0⟩
end Go.Proofs.YtilhlbnicmmaoaaDoor
