/-
  The runs of a list of bytes, found and laid down.
-/
import Derived.Test.YtlckjbangdnejaaDoorXwNum
set_option linter.unusedSimpArgs false
set_option linter.unusedVariables false
namespace Go.Proofs.YtlckjbangdnejaaDoor
open Go.RowKit Classical
namespace RwM
theorem drop_cons (X : List Nat) (i : Nat) (h : i < X.length) : X.drop i = X.getD i 0 :: X.drop (i + 1) := by
  rw [List.drop_eq_getElem_cons h]
  simp [List.getD, h]
theorem zs_drop (X : List Nat) (i : Nat) (h : i < X.length) : zs (X.drop i) = if X.getD i 0 = 0 then 1 + zs (X.drop (i + 1)) else 0 := by
  rw [drop_cons X i h, zs]
theorem rl_drop (X : List Nat) (i : Nat) (h : i < X.length) : rl (X.drop i) = if quiet (X.drop i) then 0 else 1 + rl (X.drop (i + 1)) := by
  rw [drop_cons X i h, rl]
theorem zs_nil (X : List Nat) (i : Nat) (h : X.length ≤ i) : zs (X.drop i) = 0 := by rw [List.drop_eq_nil_of_le h]; rfl
theorem rl_nil (X : List Nat) (i : Nat) (h : X.length ≤ i) : rl (X.drop i) = 0 := by rw [List.drop_eq_nil_of_le h]; rfl
theorem quiet_of (X : List Nat) (e : Nat) (h : ∀ j, e ≤ j → j < e + 4 → j < X.length → X.getD j 0 = 0) : quiet (X.drop e) = true := by
  unfold quiet
  rw [List.all_eq_true]
  intro x hx
  obtain ⟨k, hk, rfl⟩ := List.getElem_of_mem hx
  simp only [List.length_take, List.length_drop] at hk
  rw [List.getElem_take, List.getElem_drop]
  have := h (e + k) (by omega) (by omega) (by omega)
  rw [List.getD, List.getElem?_eq_getElem (by omega)] at this
  simpa using this
theorem quiet_not (X : List Nat) (e j : Nat) (h1 : e ≤ j) (h2 : j < e + 4) (h3 : j < X.length) (h : X.getD j 0 ≠ 0) : quiet (X.drop e) = false := by
  unfold quiet
  rw [List.all_eq_false]
  refine ⟨X.getD j 0, ?_, by simpa using h⟩
  have h4 : (List.take 4 (X.drop e))[j - e]? = some (X.getD j 0) := by
    rw [List.getElem?_take, if_pos (by omega), List.getElem?_drop, show e + (j - e) = j by omega]
    simp [List.getD, h3]
  exact List.mem_of_getElem? h4
theorem rl_quiet (X : List Nat) (e : Nat) (h : ∀ j, e ≤ j → j < e + 4 → j < X.length → X.getD j 0 = 0) : rl (X.drop e) = 0 := by
  by_cases he : e < X.length
  · rw [rl_drop X e he, if_pos (quiet_of X e h)]
  · exact rl_nil X e (by omega)
theorem rl_skip (X : List Nat) (j : Nat) (hj : j < X.length) (h : X.getD j 0 ≠ 0) : ∀ (d e : Nat), e + d = j → d < 4 → e + rl (X.drop e) = j + 1 + rl (X.drop (j + 1)) := by
  intro d
  induction d with
  | zero => intro e he _; rw [rl_drop X e (by omega), if_neg (by rw [quiet_not X e j (by omega) (by omega) hj h]; decide), show e = j by omega]; omega
  | succ d ih =>
    intro e he hd
    rw [rl_drop X e (by omega), if_neg (by rw [quiet_not X e j (by omega) (by omega) hj h]; decide), ← ih (e + 1) (by omega) (by omega)]
    omega
theorem rn_drop (X : List Nat) (at' : Nat) : rn (X.drop at') = 1 + rl (X.drop (at' + zs (X.drop at') + 1)) := by
  unfold rn; rw [List.drop_drop]; rfl
end RwM
set_option maxRecDepth 100000 in
set_option maxHeartbeats 800000 in
theorem first_any (X : List Nat) (nx : Nat) (hX : Bytes X) (hn : X.length = nx) (hlen : nx ≤ 1000000) (at' : Nat) (hat : at' ≤ nx) (a : Option Addr) (cap : Nat) (w : World) (hrow : Row w a X) :
    Calls Tryd.prog 49 #[.slice a nx cap, .int .i64 at'] w fun e w' => e = .returned (.int .i64 ((at' + RwM.zs (X.drop at') : Nat) : Int)) ∧ w' = w := by
  have HN : Hid (X.length = nx) := hn
  have HR : Hid (Row w a X) := hrow
  have HX : Hid (Bytes X) := hX
  obtain ⟨F, hF⟩ : ∃ F, F = at' + RwM.zs (X.drop at') := ⟨_, rfl⟩
  have HF : Hid (at' + RwM.zs (X.drop at') = F) := hF.symm
  rw [← hF]
  clear hn hrow hX hF
  go_enter Tryd.func49, Tryd.ntmps49
  go_upto_region 1 with fail
  go_loop [1] (fun i => ∃ k : Nat, k ≤ nx ∧ i = .int .i64 k ∧ Hid (k + RwM.zs (X.drop k) = F)) (fun i => nx - (intOf i).toNat)
  case atStart => exact ⟨at', hat, rfl, HF⟩
  case round =>
    obtain ⟨k, hk, rfl, hE⟩ := hrel
    by_cases h : k < nx
    · have kx : k < X.length := by rw [HN.out]; exact h
      rcases HR.out with e | ⟨b, off, rfl, hc⟩
      · rw [e] at kx; exact absurd kx (Nat.not_lt_zero _)
      have hcell := hc k kx
      have hy := bytes_at HX.out k
      have HZ : Hid (RwM.zs (X.drop k) = _) := RwM.zs_drop X k kx
      have ki : (k : Int) < (nx : Int) := by omega
      clear hc kx
      generalize X.getD k 0 = y at *
      by_cases hy0 : y = 0
      · have HE2 : Hid (k + 1 + RwM.zs (X.drop (k + 1)) = F) := by
          have a := HZ.out
          rw [if_pos hy0] at a
          have b := hE.out
          unfold Hid; omega
        subst hy0
        go_wp2
        go_round
        case rel => exact ⟨k + 1, by omega, by go_num, HE2⟩
        case measure => simp [intOf]; omega
      · have HE2 : Hid (k = F) := by
          have a := HZ.out
          rw [if_neg hy0] at a
          have b := hE.out
          unfold Hid; omega
        have hyb : ((y : Int) == 0) = false := by rw [beq_eq_false_iff_ne]; omega
        go_wp2
        go_ret
        exact ⟨by rw [HE2.out]; rfl, rfl⟩
    · have HE2 : Hid (k = F) := by
        have a := RwM.zs_nil X k (by rw [HN.out]; omega)
        have b := hE.out
        unfold Hid; omega
      have ki : ¬ (k : Int) < (nx : Int) := by omega
      go_wp2
      go_ret
      exact ⟨by rw [HE2.out]; rfl, rfl⟩
set_option maxRecDepth 100000 in
set_option maxHeartbeats 800000 in
theorem end_any (X : List Nat) (nx : Nat) (hX : Bytes X) (hn : X.length = nx) (hlen : nx ≤ 1000000) (f : Nat) (hf : f < nx) (a : Option Addr) (cap : Nat) (w : World) (hrow : Row w a X) :
    Calls Tryd.prog 50 #[.slice a nx cap, .int .i64 f] w fun e w' => e = .returned (.int .i64 ((f + 1 + RwM.rl (X.drop (f + 1)) : Nat) : Int)) ∧ w' = w := by
  have HN : Hid (X.length = nx) := hn
  have HR : Hid (Row w a X) := hrow
  have HX : Hid (Bytes X) := hX
  obtain ⟨F, hF⟩ : ∃ F, F = f + 1 + RwM.rl (X.drop (f + 1)) := ⟨_, rfl⟩
  have HF : Hid (f + 1 + RwM.rl (X.drop (f + 1)) = F) := hF.symm
  rw [← hF]
  clear hn hrow hX hF
  go_enter Tryd.func50, Tryd.ntmps50
  go_upto_region 3 with fail
  go_loop [5, 6] (fun x i => ∃ e k : Nat, e ≤ k ∧ k ≤ nx ∧ k ≤ e + 4 ∧ x = .int .i64 e ∧ i = .int .i64 k ∧ Hid (e + RwM.rl (X.drop e) = F) ∧ Hid (∀ j, e ≤ j → j < k → X.getD j 0 = 0)) (fun _ i => nx - (intOf i).toNat)
  case atStart => exact ⟨f + 1, f + 1, by omega, by omega, by omega, by go_num, by go_num, HF, fun j h1 h2 => by omega⟩
  case round =>
    obtain ⟨e, k, hek, hk, hk4, rfl, rfl, hE, hZ⟩ := hrel
    by_cases h : k < nx ∧ k < e + 4
    · obtain ⟨h, h4⟩ := h
      have kx : k < X.length := by rw [HN.out]; exact h
      rcases HR.out with e' | ⟨b, off, rfl, hc⟩
      · rw [e'] at kx; exact absurd kx (Nat.not_lt_zero _)
      have hcell := hc k kx
      have hy := bytes_at HX.out k
      have HS : Hid (X.getD k 0 ≠ 0 → e + RwM.rl (X.drop e) = k + 1 + RwM.rl (X.drop (k + 1))) := fun hn => RwM.rl_skip X k kx hn (k - e) e (by omega) (by omega)
      have HZ2 : Hid (X.getD k 0 = 0 → ∀ j, e ≤ j → j < k + 1 → X.getD j 0 = 0) := fun hz j h1 h2 => by
        by_cases hj : j = k
        · rw [hj]; exact hz
        · exact hZ.out j h1 (by omega)
      have ki : (k : Int) < (nx : Int) := by omega
      have k4 : (k : Int) < (e : Int) + 4 := by omega
      clear hc kx hZ
      generalize X.getD k 0 = y at *
      by_cases hy0 : y = 0
      · have HZ3 : Hid (∀ j, e ≤ j → j < k + 1 → X.getD j 0 = 0) := HZ2.out hy0
        clear HZ2 HS
        subst hy0
        go_wp2
        go_round
        case rel => exact ⟨e, k + 1, by omega, by omega, by omega, rfl, by go_num, hE, HZ3⟩
        case measure => simp [intOf]; omega
      · have HE2 : Hid (k + 1 + RwM.rl (X.drop (k + 1)) = F) := (HS.out hy0).symm.trans hE.out
        have hyb : ((y : Int) == 0) = false := by rw [beq_eq_false_iff_ne]; omega
        clear HZ2 HS
        go_wp2
        go_round
        case rel => exact ⟨k + 1, k + 1, by omega, by omega, by omega, by go_num, by go_num, HE2, fun j h1 h2 => by omega⟩
        case measure => simp [intOf]; omega
    · have HE2 : Hid (e = F) := by
        have a := RwM.rl_quiet X e fun j h1 h2 h3 => hZ.out j h1 (by have := HN.out; omega)
        have b := hE.out
        unfold Hid; omega
      by_cases h1 : k < nx
      · have ki : (k : Int) < (nx : Int) := by omega
        have k4 : ¬ (k : Int) < (e : Int) + 4 := by omega
        go_wp2
        go_ret
        exact ⟨by rw [HE2.out]; rfl, rfl⟩
      · have ki : ¬ (k : Int) < (nx : Int) := by omega
        go_wp2
        go_ret
        exact ⟨by rw [HE2.out]; rfl, rfl⟩
end Go.Proofs.YtlckjbangdnejaaDoor
