/-
  The document's numbers, what differs, and where a run ends; the law's comparison.
-/
import Derived.Test.YtlckjbangdnejaaDoorXwDiff
import Derived.BigQuiet
import Derived.Deep.QuietTactic
set_option linter.unusedSimpArgs false
set_option linter.unusedVariables false
namespace Go.Proofs.YtlckjbangdnejaaDoor
open Go.RowKit Classical
set_option maxRecDepth 100000 in
set_option maxHeartbeats 1600000 in
theorem rnumber_any (n : Nat) (hn : n < 2097152) (w : World) :
    Calls Tryd.prog 54 #[.int .i64 n] w (DfOk w (RwM.num n)) := by
  go_enter Tryd.func54, Tryd.ntmps54
  go_upto_region 2 with fail
  go_loopw [0, 3] (fun q p wr => ∃ (z : Nat) (pre : List Nat), q = .int .i64 z ∧ z < 2097152 ∧ Hid (pre ++ RwM.num z = RwM.num n) ∧ Hid (Tx wr w.heap.size p pre) ∧ Hid (Gr w (.slice none 0 0) wr p) ∧ w.heap.size ≤ wr.heap.size) (fun q _ _ => (intOf q).toNat)
  case atStart => exact ⟨n, [], rfl, hn, rfl, ⟨rfl, .inl ⟨rfl, rfl⟩⟩, Gr.refl _ _, Nat.le_refl _⟩
  case round =>
    obtain ⟨z, pre, rfl, hz, hE, hT, hG, hsz⟩ := hrel
    have HL : Hid (pre.length ≤ 17592186044416) := by
      have a := congrArg List.length hE.out
      have b := (RwM.num_len n hn).2.1
      simp only [List.length_append] at a
      unfold Hid; omega
    by_cases hz2 : z < 128
    · have HZ : Hid (RwM.num z = [z]) := RwM.num_lt hz2
      have i1 : ¬ (127 : Int) < (z : Int) := by omega
      go_wp2_with (refine wpList_ap1 rfl _ _ rfl z hT.out hG.out hsz rfl rfl rfl HL.out ?_; intro v' w' hT' hG' hs')
      go_ret
      exact ⟨_, rfl, by rw [← hE.out, HZ.out]; exact hT', hG'.below (Nat.le_refl _) (fun k hk => by cases hk)⟩
    · have HZ : Hid (RwM.num z = (z % 128 + 128) :: RwM.num (z / 128)) := RwM.num_ge hz2
      have i1 : (127 : Int) < (z : Int) := by omega
      have e1 : ((z : Int) % 128 + 128) % 256 = ((z % 128 + 128 : Nat) : Int) := by omega
      go_wp2_with (refine wpList_ap1 rfl _ _ rfl (z % 128 + 128) hT.out hG.out hsz rfl rfl rfl HL.out ?_; intro v' w' hT' hG' hs')
      go_roundw
      case rel => exact ⟨z / 128, _, by go_num, by omega, by unfold Hid; rw [← hE.out, HZ.out, List.append_assoc]; rfl, hT', hG', hs'⟩
      case measure => simp [intOf]; omega
theorem xr_step (F T : List Nat) (k : Nat) (h : k < T.length) : (RwM.xr F T).take (k + 1) = (RwM.xr F T).take k ++ [T.getD k 0 ^^^ F.getD k 0] := by
  rw [List.take_succ_eq_append_getElem (by rw [RwM.xr_len]; exact h)]
  congr 2
  rw [← RwM.xr_at F T k h, getD_elem _ k (by rw [RwM.xr_len]; exact h)]
set_option maxRecDepth 100000 in
set_option maxHeartbeats 1600000 in
theorem apart_any (F T : List Nat) (nf nt : Nat) (hF : Bytes F) (hT : Bytes T) (hnf : F.length = nf) (hnt : T.length = nt) (lf : nf ≤ 65536) (lt : nt ≤ 65536) (a b : Option Addr) (kf kt : Nat) (w : World)
    (RF : Row w a F) (RT : Row w b T) :
    Calls Tryd.prog 55 #[.slice a nf kf, .slice b nt kt] w (DfOk w (RwM.xr F T)) := by
  have HN : Hid (F.length = nf ∧ T.length = nt) := ⟨hnf, hnt⟩
  have HB : Hid (Bytes F ∧ Bytes T) := ⟨hF, hT⟩
  have HR : Hid (∀ W, Below w.heap.size w W → Row W a F ∧ Row W b T) := fun W h => ⟨RF.below h, RT.below h⟩
  clear hF hT hnf hnt RF RT
  go_enter Tryd.func55, Tryd.ntmps55
  go_upto_region 3 with fail
  go_loopw [5, 6] (fun p i wr => ∃ k : Nat, k ≤ nt ∧ i = .int .i64 k ∧ Hid (Tx wr w.heap.size p ((RwM.xr F T).take k)) ∧ Hid (Gr w (.slice none 0 0) wr p) ∧ w.heap.size ≤ wr.heap.size) (fun _ i _ => nt - (intOf i).toNat)
  case atStart => exact ⟨0, by omega, rfl, ⟨rfl, .inl ⟨rfl, rfl⟩⟩, Gr.refl _ _, Nat.le_refl _⟩
  case round =>
    obtain ⟨k, hk, rfl, hT, hG, hsz⟩ := hrel
    by_cases h : k < nt
    · have kt' : k < T.length := by rw [HN.out.2]; exact h
      obtain ⟨rF, rT⟩ := HR.out wr (hG.out.below (Nat.le_refl _) (fun k hk => by cases hk))
      have HS : Hid ((RwM.xr F T).take (k + 1) = _) := xr_step F T k kt'
      have HL : Hid (((RwM.xr F T).take k).length ≤ 17592186044416) := by unfold Hid; rw [List.length_take]; omega
      rcases rT with e | ⟨bt, ot, rfl, ct⟩
      · rw [e] at kt'; exact absurd kt' (Nat.not_lt_zero _)
      have c1 := ct k kt'
      have b1 := bytes_at HB.out.2 k
      have b2 := bytes_at HB.out.1 k
      have i1 : (k : Int) < (nt : Int) := by omega
      clear ct
      by_cases hf : k < nf
      · have kf' : k < F.length := by rw [HN.out.1]; exact hf
        rcases rF with e | ⟨bf, of', rfl, cf⟩
        · rw [e] at kf'; exact absurd kf' (Nat.not_lt_zero _)
        have c2 := cf k kf'
        have i2 : (k : Int) < (nf : Int) := by omega
        clear cf
        generalize T.getD k 0 = p at *
        generalize F.getD k 0 = q at *
        have e1 := xor_u8 p q b1 b2
        go_wp2_with (refine wpList_ap1 rfl _ _ rfl (p ^^^ q) hT.out hG.out hsz rfl rfl rfl HL.out ?_; intro v' w' hT' hG' hs')
        go_roundw
        case rel => exact ⟨k + 1, by omega, by go_num, by rw [HS.out]; exact hT', hG', hs'⟩
        case measure => simp [intOf]; omega
      · have e0 : F.getD k 0 = 0 := RwM.getD_of_le (by have := HN.out.1; omega)
        rw [e0, Nat.xor_zero] at HS
        have i2 : ¬ (k : Int) < (nf : Int) := by omega
        clear e0 b2 rF
        generalize T.getD k 0 = p at *
        go_wp2_with (refine wpList_ap1 rfl _ _ rfl p hT.out hG.out hsz rfl rfl rfl HL.out ?_; intro v' w' hT' hG' hs')
        go_roundw
        case rel => exact ⟨k + 1, by omega, by go_num, by rw [HS.out]; exact hT', hG', hs'⟩
        case measure => simp [intOf]; omega
    · obtain rfl : k = nt := by omega
      have HX : Hid ((RwM.xr F T).take k = RwM.xr F T) := List.take_of_length_le (by rw [RwM.xr_len, HN.out.2]; exact Nat.le_refl _)
      go_wp2
      go_ret
      exact ⟨_, rfl, by rw [← HX.out]; exact hT.out, hG.out.below (Nat.le_refl _) (fun k hk => by cases hk)⟩
set_option maxRecDepth 100000 in
set_option maxHeartbeats 1600000 in
theorem quiet_any (X : List Nat) (nx : Nat) (hX : Bytes X) (hn : X.length = nx) (hlen : nx ≤ 1000000) (i : Nat) (hi : i ≤ nx) (a : Option Addr) (cap : Nat) (w : World) (hrow : Row w a X) :
    Calls Tryd.prog 56 #[.slice a nx cap, .int .i64 i] w fun e w' => e = .returned (.bool (RwM.quiet (X.drop i))) ∧ w' = w := by
  have HN : Hid (X.length = nx) := hn
  have HR : Hid (Row w a X) := hrow
  have HX : Hid (Bytes X) := hX
  clear hn hrow hX
  go_enter Tryd.func56, Tryd.ntmps56
  go_upto_region 2 with fail
  go_loop [5] (fun x => ∃ k : Nat, i ≤ k ∧ k ≤ nx ∧ k ≤ i + 4 ∧ x = .int .i64 k ∧ Hid (∀ j, i ≤ j → j < k → X.getD j 0 = 0)) (fun x => nx - (intOf x).toNat)
  case atStart => exact ⟨i, by omega, by omega, by omega, rfl, fun j h1 h2 => by omega⟩
  case round =>
    obtain ⟨k, hik, hk, hk4, rfl, hZ⟩ := hrel
    by_cases h : k < nx ∧ k < i + 4
    · obtain ⟨h, h4⟩ := h
      have kx : k < X.length := by rw [HN.out]; exact h
      rcases HR.out with e' | ⟨b, off, rfl, hc⟩
      · rw [e'] at kx; exact absurd kx (Nat.not_lt_zero _)
      have hcell := hc k kx
      have hy := bytes_at HX.out k
      have HQ : Hid (X.getD k 0 ≠ 0 → RwM.quiet (X.drop i) = false) := fun hn => RwM.quiet_not X i k hik h4 kx hn
      have HZ2 : Hid (X.getD k 0 = 0 → ∀ j, i ≤ j → j < k + 1 → X.getD j 0 = 0) := fun hz j h1 h2 => by
        by_cases hj : j = k
        · rw [hj]; exact hz
        · exact hZ.out j h1 (by omega)
      have ki : (k : Int) < (nx : Int) := by omega
      have k4 : (k : Int) < (i : Int) + 4 := by omega
      clear hc kx hZ
      generalize X.getD k 0 = y at *
      by_cases hy0 : y = 0
      · have HZ3 : Hid (∀ j, i ≤ j → j < k + 1 → X.getD j 0 = 0) := HZ2.out hy0
        clear HZ2 HQ
        subst hy0
        go_wp2
        go_round
        case rel => exact ⟨k + 1, by omega, by omega, by omega, by go_num, HZ3⟩
        case measure => simp [intOf]; omega
      · have HQ2 : Hid (RwM.quiet (X.drop i) = false) := HQ.out hy0
        have hyb : ((y : Int) == 0) = false := by rw [beq_eq_false_iff_ne]; omega
        clear HZ2 HQ
        go_wp2
        go_ret
        exact ⟨by rw [HQ2.out]; rfl, rfl⟩
    · have HQ : Hid (RwM.quiet (X.drop i) = true) := RwM.quiet_of X i fun j h1 h2 h3 => hZ.out j h1 (by have := HN.out; omega)
      by_cases h1 : k < nx
      · have ki : (k : Int) < (nx : Int) := by omega
        have k4 : ¬ (k : Int) < (i : Int) + 4 := by omega
        go_wp2
        go_ret
        exact ⟨by rw [HQ.out]; rfl, rfl⟩
      · have ki : ¬ (k : Int) < (nx : Int) := by omega
        go_wp2
        go_ret
        exact ⟨by rw [HQ.out]; rfl, rfl⟩
/-- Are two lists one? -/
def sameB (A B : List Nat) : Bool := A == B
theorem sameB_iff (A B : List Nat) : sameB A B = true ↔ A = B := by simp [sameB]
theorem list_ne {A B : List Nat} (h : A ≠ B) (hl : A.length = B.length) : ∃ k, k < A.length ∧ A.getD k 0 ≠ B.getD k 0 := by
  apply Classical.byContradiction
  intro hn
  apply h
  apply List.ext_getElem hl
  intro i h1 h2
  rw [← getD_elem A i h1, ← getD_elem B i h2]
  apply Classical.byContradiction
  intro hc
  exact hn ⟨i, h1, hc⟩
set_option maxRecDepth 100000 in
set_option maxHeartbeats 1600000 in
theorem same_any (A B : List Nat) (na nb : Nat) (hA : Bytes A) (hB : Bytes B) (hna : A.length = na) (hnb : B.length = nb) (hlen : na ≤ 140737488351232) (a b : Option Addr) (ka kb : Nat) (w : World) (RA : Row w a A) (RB : Row w b B) :
    Calls Tryd.prog 14 #[.slice a na ka, .slice b nb kb] w fun e w' => e = .returned (.bool (sameB A B)) ∧ Below w.heap.size w w' := by
  have HN : Hid (A.length = na ∧ B.length = nb) := ⟨hna, hnb⟩
  have HB : Hid (Bytes A ∧ Bytes B) := ⟨hA, hB⟩
  have HR : Hid (Row w a A ∧ Row w b B) := ⟨RA, RB⟩
  have HBW : Hid (Below w.heap.size w w) := Below.refl _ _
  clear hA hB hna hnb RA RB
  by_cases hne : na = nb
  · have HS : Hid (∀ k, k < na → A.getD k 0 ≠ B.getD k 0 → sameB A B = false) := fun k hk hn => by
      rw [Bool.eq_false_iff]; intro h; rw [sameB_iff] at h; exact hn (by rw [h])
    have HS2 : Hid ((∀ k, k < na → A.getD k 0 = B.getD k 0) → sameB A B = true) := fun h => by
      rw [sameB_iff]
      apply Classical.byContradiction
      intro hn
      obtain ⟨k, hk, h2⟩ := list_ne hn (by rw [HN.out.1, HN.out.2]; exact hne)
      exact h2 (h k (by rw [← HN.out.1]; exact hk))
    subst hne
    go_enter Tryd.func14, Tryd.ntmps14
    go_upto_region 4 with fail
    go_loopw [5] (fun i wr => ∃ k : Nat, k ≤ na ∧ i = .int .i64 k ∧ Hid (Below w.heap.size w wr) ∧ Hid (∀ j, j < k → A.getD j 0 = B.getD j 0)) (fun i _ => na - (intOf i).toNat)
    case atStart => exact ⟨0, by omega, rfl, HBW, fun j h => by omega⟩
    case round =>
      obtain ⟨k, hk, rfl, hbw, hE⟩ := hrel
      have hbN : ∀ n, Hid (Below w.heap.size w (wr.drewN n)) := fun n => below_drawsX hbw.out n
      by_cases h : k < na
      · have ka' : k < A.length := by rw [HN.out.1]; exact h
        have kb' : k < B.length := by rw [HN.out.2]; exact h
        have rA := HR.out.1.below hbw.out
        have rB := HR.out.2.below hbw.out
        rcases rA with e | ⟨ba, oa, rfl, ca⟩
        · rw [e] at ka'; exact absurd ka' (Nat.not_lt_zero _)
        rcases rB with e | ⟨bb, ob, rfl, cb⟩
        · rw [e] at kb'; exact absurd kb' (Nat.not_lt_zero _)
        have c1 := ca k ka'
        have c2 := cb k kb'
        have b1 := bytes_at HB.out.1 k
        have b2 := bytes_at HB.out.2 k
        have HS1 : Hid (A.getD k 0 ≠ B.getD k 0 → sameB A B = false) := HS.out k h
        have HE1 : Hid (A.getD k 0 = B.getD k 0 → ∀ j, j < k + 1 → A.getD j 0 = B.getD j 0) := fun he j hj => by
          by_cases hjk : j = k
          · rw [hjk]; exact he
          · exact hE.out j (by omega)
        have i1 : (k : Int) < (na : Int) := by omega
        clear ca cb ka' kb' hE
        generalize A.getD k 0 = p at *
        generalize B.getD k 0 = q at *
        by_cases hpq : p = q
        · have HE2 := HE1.out hpq
          have HE3 : Hid (∀ j, j < k + 1 → A.getD j 0 = B.getD j 0) := HE2
          clear HE2 HE1 HS1
          subst hpq
          go_upto_region 6 with fail
          go_quiet (skip)
          go_wp2
          go_roundw
          case rel => exact ⟨k + 1, by omega, by go_num, hbN _, HE3⟩
          case measure => simp [intOf]; omega
        · have HS3 : Hid (sameB A B = false) := HS1.out hpq
          have hyb : ((p : Int) == (q : Int)) = false := by rw [beq_eq_false_iff_ne]; omega
          clear HE1 HS1
          go_upto_region 6 with fail
          go_quiet (skip)
          go_wp2
          go_ret
          exact ⟨by rw [HS3.out]; rfl, (hbN _).out⟩
      · obtain rfl : k = na := by omega
        have HS3 : Hid (sameB A B = true) := HS2.out hE.out
        have i1 : ¬ (k : Int) < (k : Int) := by omega
        go_wp2
        go_ret
        exact ⟨by rw [HS3.out]; rfl, hbw.out⟩
  · have HS3 : Hid (sameB A B = false) := by
      unfold Hid
      rw [Bool.eq_false_iff]; intro h; rw [sameB_iff] at h; exact hne (by rw [← HN.out.1, ← HN.out.2, h])
    have hyb : ((na : Int) == (nb : Int)) = false := by rw [beq_eq_false_iff_ne]; omega
    go_enter Tryd.func14, Tryd.ntmps14
    go_wp2
    go_ret
    exact ⟨by rw [HS3.out]; rfl, HBW.out⟩
end Go.Proofs.YtlckjbangdnejaaDoor
