/-
  What Encode of package isa answers; conditions: the names lie in their variable.
-/
import Derived.Test.YtebnapgnnflnhaaDoorIRowL
import Derived.Test.YtebnapgnnflnhaaDoorINm
import Derived.Test.YtebnapgnnflnhaaDoorIEncP
import Derived.Test.YtebnapgnnflnhaaDoorIEq
set_option linter.unusedSimpArgs false
set_option linter.unusedVariables false
namespace Go.Proofs.YtebnapgnnflnhaaDoor
open Go.RowKit
theorem Hid.mk' {p : Prop} (h : p) : Hid p := h
theorem nm_ne_nil : ∀ k : Nat, k < 70 → (⟨(nmL.getD k []).toArray⟩ : ByteArray).toList.isEmpty = false := by decide +kernel
theorem nmS_in (op : Int) (h : 0 ≤ op ∧ op < 70) : (nmS op).toList.isEmpty = false := by
  obtain ⟨k, rfl⟩ := Int.eq_ofNat_of_zero_le h.1
  unfold nmS
  rw [if_pos h]
  exact nm_ne_nil k (by omega)
theorem ret2 {a c : Nat} {b d : Int} (h : (a, b) = (c, d)) : Ending.returned (.tuple #[.int .u8 (a : Nat), .int .i64 b]) = .returned (.tuple #[.int .u8 (c : Nat), .int .i64 d]) := by
  cases h; rfl
theorem clN_lt : ∀ k, k < 256 → clN k < 4 := by decide +kernel
theorem rowOf_agg (k : Nat) (hk : k < 256) (w : World) :
    Calls Tryd.prog 10 #[.int .u8 (k : Nat)] w fun e w' => e = .returned (.agg #[.int .i64 (opN k : Nat), .int .i64 (mdN k : Nat), .int .i64 (clN k : Nat)]) ∧ Below w.heap.size w w' := rowOf_any k hk w
theorem u8_conv (k : Nat) (h : k < 256) : IntKind.u8.wrap (k : Int) = (k : Int) := by revert k; decide +kernel
set_option maxRecDepth 100000 in
set_option maxHeartbeats 4000000 in
theorem encode_any (op mode : Int) (w : World) (T : NTab w) :
    Calls Tryd.prog 11 #[.int .i64 op, .int .i64 mode] w fun e w' => e = .returned (.tuple #[.int .u8 ((encS op mode).1 : Nat), .int .i64 (encS op mode).2]) ∧ Below w.heap.size w w' := by
  have TT : Hid (NTab w) := T
  by_cases hr : 0 ≤ op ∧ op < 70
  · have hn := nmS_in op hr
    have C := Hid.mk' (name_any op w T)
    generalize nmS op = z at hn C
    go_enter Tryd.func11, Tryd.ntmps11
    go_upto_region 4 with (go_at_call 24; go_must (refine C.out.mono ?_; rintro e w1 ⟨rfl, hw1⟩; obtain rfl := hw1.symm))
    clear T hn
    go_wp2
    go_loopw [6, 7, 14] (fun f e i wr => ∃ k : Nat, k ≤ 256 ∧ i = .int .i64 k ∧ Hid (en0 op mode 0 k = none) ∧ ((Hid (en12 op mode k = none) ∧ f = .int .u8 0 ∧ e = .int .i64 41) ∨ (∃ j : Nat, Hid (en12 op mode k = some j) ∧ f = .int .u8 j ∧ e = .int .i64 0)) ∧ Below w.heap.size w wr) (fun _ _ i _ => 256 - (intOf i).toNat)
    case atStart => exact ⟨0, by omega, rfl, rfl, Or.inl ⟨rfl, rfl, rfl⟩, Below.refl _ _⟩
    case round =>
      obtain ⟨k, hk, rfl, H0, hc, hb⟩ := hrel
      by_cases hk8 : k = 256
      · subst hk8
        rcases hc with ⟨H1, rfl, rfl⟩ | ⟨j, H1, rfl, rfl⟩
        · have E : Hid (encS op mode = (0, 41)) := by unfold Hid encS; rw [if_pos hr, H0.out, H1.out]
          go_wp2
          go_ret2
          exact ⟨ret2 E.out.symm, hb⟩
        · have E : Hid (encS op mode = (j, 0)) := by unfold Hid encS; rw [if_pos hr, H0.out, H1.out]
          go_wp2
          go_ret2
          exact ⟨ret2 E.out.symm, hb⟩
      · have hk' : k < 256 := by omega
        have hlt : (k : Int) < 256 := by omega
        have hcv := u8_conv k hk'
        by_cases hm : ((mdN k : Int) == mode) = true
        · obtain rfl : (mdN k : Int) = mode := eq_of_beq hm
          clear hm
          go_upto_region 9 with (go_at_call 9; refine (modeOf_any k hk' _).mono ?_; rintro e w1 ⟨rfl, hw1⟩; obtain rfl := hw1.symm)
          go_upto_region 10 with (go_at_call 10; refine (rowOf_agg k hk' _).mono ?_; rintro e w1 ⟨rfl, hb1⟩)
          have hz : wr.heap.size < w1.heap.size + 1 := by have := hb1.size; omega
          have hbz := hb.trans (hb1.mono (Nat.le_of_lt_succ (by have := hb.size; omega)))
          have heq := eqRow
          have hbw : ∀ o, Below w.heap.size w (w1.alloc o) := fun o => hbz.alloc (by have := hbz.size; omega) o
          by_cases ho : ((opN k : Int) == op) = true
          · obtain rfl : (opN k : Int) = op := eq_of_beq ho
            clear ho
            have hc4 : clN k = 0 ∨ clN k = 1 ∨ clN k = 2 ∨ clN k = 3 := by have := clN_lt k hk'; omega
            rcases hc4 with hcl | hcl | hcl | hcl
            · have E : Hid (encS (opN k : Nat) (mdN k : Nat) = (k, 0)) := by
                have e0 : en0 (opN k : Nat) (mdN k : Nat) 0 256 = some k := find_at H0.out (mt_yes hcl) hk'
                unfold Hid encS; rw [if_pos hr, e0]
              go_wp2
              go_ret2
              exact ⟨ret2 E.out.symm, hbw _⟩
            · have n0 : Hid (en0 (opN k : Nat) (mdN k : Nat) 0 (k + 1) = none) := find_skip H0.out (mt_cl (by rw [hcl]; rfl))
              have hp : (mt (opN k : Nat) (mdN k : Nat) 1 k || mt (opN k : Nat) (mdN k : Nat) 2 k) = true := by rw [mt_yes hcl]; rfl
              rcases hc with ⟨H1, rfl, rfl⟩ | ⟨j, H1, rfl, rfl⟩
              · have n1 : Hid (en12 (opN k : Nat) (mdN k : Nat) (k + 1) = some k) := find_new H1.out hp
                clear hp
                go_wp2
                go_roundw
                case rel => exact ⟨k + 1, by omega, by go_num, n0, Or.inr ⟨k, n1, rfl, rfl⟩, hbw _⟩
                case measure => simp [intOf]; omega
              · have n1 : Hid (en12 (opN k : Nat) (mdN k : Nat) (k + 1) = some j) := find_old H1.out
                clear hp
                go_wp2
                go_roundw
                case rel => exact ⟨k + 1, by omega, by go_num, n0, Or.inr ⟨j, n1, rfl, rfl⟩, hbw _⟩
                case measure => simp [intOf]; omega
            · have n0 : Hid (en0 (opN k : Nat) (mdN k : Nat) 0 (k + 1) = none) := find_skip H0.out (mt_cl (by rw [hcl]; rfl))
              have hp : (mt (opN k : Nat) (mdN k : Nat) 1 k || mt (opN k : Nat) (mdN k : Nat) 2 k) = true := by rw [mt_yes hcl, Bool.or_true]
              rcases hc with ⟨H1, rfl, rfl⟩ | ⟨j, H1, rfl, rfl⟩
              · have n1 : Hid (en12 (opN k : Nat) (mdN k : Nat) (k + 1) = some k) := find_new H1.out hp
                clear hp
                go_wp2
                go_roundw
                case rel => exact ⟨k + 1, by omega, by go_num, n0, Or.inr ⟨k, n1, rfl, rfl⟩, hbw _⟩
                case measure => simp [intOf]; omega
              · have n1 : Hid (en12 (opN k : Nat) (mdN k : Nat) (k + 1) = some j) := find_old H1.out
                clear hp
                go_wp2
                go_roundw
                case rel => exact ⟨k + 1, by omega, by go_num, n0, Or.inr ⟨j, n1, rfl, rfl⟩, hbw _⟩
                case measure => simp [intOf]; omega
            · have n0 : Hid (en0 (opN k : Nat) (mdN k : Nat) 0 (k + 1) = none) := find_skip H0.out (mt_cl (by rw [hcl]; rfl))
              have n1 : Hid (en12 (opN k : Nat) (mdN k : Nat) (k + 1) = en12 (opN k : Nat) (mdN k : Nat) k) := find_skip rfl (by rw [mt_cl (by rw [hcl]; rfl), mt_cl (by rw [hcl]; rfl)]; rfl)
              rcases hc with ⟨H1, rfl, rfl⟩ | ⟨j, H1, rfl, rfl⟩
              · go_wp2
                go_roundw
                case rel => exact ⟨k + 1, by omega, by go_num, n0, by rw [n1.out]; exact Or.inl ⟨H1, rfl, rfl⟩, hbw _⟩
                case measure => simp [intOf]; omega
              · go_wp2
                go_roundw
                case rel => exact ⟨k + 1, by omega, by go_num, n0, by rw [n1.out]; exact Or.inr ⟨j, H1, rfl, rfl⟩, hbw _⟩
                case measure => simp [intOf]; omega
          · have ho' : ((opN k : Int) == op) = false := by simpa using ho
            clear ho
            have n0 : Hid (en0 op (mdN k : Nat) 0 (k + 1) = none) := find_skip H0.out (mt_op ho')
            have n1 : Hid (en12 op (mdN k : Nat) (k + 1) = en12 op (mdN k : Nat) k) := find_skip rfl (by rw [mt_op ho', mt_op ho']; rfl)
            rcases hc with ⟨H1, rfl, rfl⟩ | ⟨j, H1, rfl, rfl⟩
            · go_wp2
              go_roundw
              case rel => exact ⟨k + 1, by omega, by go_num, n0, by rw [n1.out]; exact Or.inl ⟨H1, rfl, rfl⟩, hbw _⟩
              case measure => simp [intOf]; omega
            · go_wp2
              go_roundw
              case rel => exact ⟨k + 1, by omega, by go_num, n0, by rw [n1.out]; exact Or.inr ⟨j, H1, rfl, rfl⟩, hbw _⟩
              case measure => simp [intOf]; omega
        · have hm' : ((mdN k : Int) != mode) = true := by simpa using hm
          have n0 : Hid (en0 op mode 0 (k + 1) = none) := find_skip H0.out (mt_mode (by simpa using hm))
          have n1 : Hid (en12 op mode (k + 1) = en12 op mode k) := find_skip rfl (by rw [mt_mode (by simpa using hm), mt_mode (by simpa using hm)]; rfl)
          go_wp2_with (go_at_call 9; refine (modeOf_any k hk' _).mono ?_; rintro e w1 ⟨rfl, hw1⟩; obtain rfl := hw1.symm)
          go_roundw
          case rel => exact ⟨k + 1, by omega, by go_num, n0, by rw [n1.out]; exact hc, hb⟩
          case measure => simp [intOf]; omega
  · have E : Hid (encS op mode = (0, 40)) := by unfold Hid encS; rw [if_neg hr]
    have hn : nmS op = ⟨#[]⟩ := by unfold nmS; rw [if_neg hr]
    have c := name_any op w T
    rw [hn] at c
    have C := Hid.mk' c
    clear T c hn
    go_enter Tryd.func11, Tryd.ntmps11
    go_wp2_with (go_at_call 24; go_must (refine C.out.mono ?_; rintro e w1 ⟨rfl, hw1⟩; obtain rfl := hw1.symm))
    go_ret2
    exact ⟨by rw [E.out]; rfl, Below.refl _ _⟩
end Go.Proofs.YtebnapgnnflnhaaDoor
