/-
  The contract of isa.fill.
-/
import Derived.Test.YtebnapgnnflnhaaDoorILRow
set_option linter.unusedSimpArgs false
set_option linter.unusedVariables false
namespace Go.Proofs.YtebnapgnnflnhaaDoor
open Go.RowKit
theorem and15w (v : Nat) (h : v < 65536) : bits .and .u16 (v : Int) 15 = ((v % 16 : Nat) : Int) := by
  have := u16_and_nat v 15 h (by decide)
  rw [show v &&& 15 = v % 16 from Nat.and_two_pow_sub_one_eq_mod v 4] at this
  exact this
theorem dig_ix (m : Nat) (h : m < (ByteArray.mk #[48, 49, 50, 51, 52, 53, 54, 55, 56, 57, 65, 66, 67, 68, 69, 70]).size) : (ByteArray.mk #[48, 49, 50, 51, 52, 53, 54, 55, 56, 57, 65, 66, 67, 68, 69, 70])[m] = dig m := by
  have h' : m < 16 := h
  have : m = 0 ∨ m = 1 ∨ m = 2 ∨ m = 3 ∨ m = 4 ∨ m = 5 ∨ m = 6 ∨ m = 7 ∨ m = 8 ∨ m = 9 ∨ m = 10 ∨ m = 11 ∨ m = 12 ∨ m = 13 ∨ m = 14 ∨ m = 15 := by omega
  rcases this with rfl | rfl | rfl | rfl | rfl | rfl | rfl | rfl | rfl | rfl | rfl | rfl | rfl | rfl | rfl | rfl <;> rfl
set_option maxRecDepth 100000 in
set_option maxHeartbeats 1000000 in
theorem fill_any (l : List UInt8) (hl : l.length ≤ 100) (v : Nat) (hv : v < 65536) (w : World) :
    Calls Tryd.prog 12 #[.string ⟨l.toArray⟩, .int .u16 (v : Nat)] w fun e w' => e = .returned (.string ⟨(fillP l v).1.toArray⟩) ∧ Below w.heap.size w w' := by
  obtain ⟨cap, w1, hcv, hR, hB⟩ := to_bytes w l
  go_enter Tryd.func12, Tryd.ntmps12
  go_upto_region 3 with fail
  clear hcv
  go_loopw [1, 6] (fun x i wr => ∃ j : Nat, j ≤ l.length ∧ i = .int .i64 ((j : Int) - 1) ∧ x = .int .u16 (((fillP (l.drop j) v).2 : Nat) : Int) ∧ RowB wr w.heap.size (fillA l v j) ∧ Below w.heap.size w wr) (fun _ i _ => (intOf i + 1).toNat)
  case atStart => exact ⟨l.length, Nat.le_refl _, by go_num, by simp [fillP], by rw [fillA_end]; exact hR, hB⟩
  case round =>
    obtain ⟨j, hj, rfl, rfl, hr, hb⟩ := hrel
    have hx := fillP_le (l.drop j) v
    by_cases h0 : j = 0
    · subst h0
      rw [fillA_zero] at hr
      have hs := hr.str cap
      rw [fillP_len] at hs
      clear hr
      go_wp2
      go_ret
      exact ⟨rfl, hb⟩
    · obtain ⟨t, rfl⟩ : ∃ t, j = t + 1 := ⟨j - 1, by omega⟩
      have ht : t < l.length := by omega
      have hc := hr t (by rw [fillA_len]; exact ht)
      rw [fillA_at l v t ht] at hc
      obtain ⟨hc1, hc2⟩ := hc
      have HR : Hid (RowB wr w.heap.size (fillA l v (t + 1))) := hr
      clear hr
      have e1 : ((t + 1 : Nat) : Int) - 1 = (t : Int) := by omega
      rw [e1]
      by_cases hh : l.getD t 0 = 104
      · obtain ⟨q1, q2⟩ := fillA_yes l v t ht hh
        have Q1 : Hid _ := q1
        have Q2 : Hid _ := q2
        clear q1 q2
        rw [hh] at hc1
        replace hc1 : wr.cell? ⟨w.heap.size, t, none⟩ = some (.int .u8 104) := hc1
        generalize (fillP (l.drop (t + 1)) v).2 = x at *
        have ha := and15w x (by omega)
        have HS := HR.out.set t (dig (x % 16))
        have hm : x % 16 < 16 := Nat.mod_lt _ (by decide)
        generalize x % 16 = m at *
        go_wp2
        go_roundw
        case rel => exact ⟨t, by omega, by go_num, by rw [Q2.out]; go_num, by rw [Q1.out, dig_ix]; exact HS, hb.setCell (Nat.le_refl _) _⟩
        case measure => simp [intOf]
      · obtain ⟨q1, q2⟩ := fillA_no l v t ht hh
        have Q1 : Hid _ := q1
        have Q2 : Hid _ := q2
        clear q1 q2
        have hn : (((l.getD t 0).toNat : Int) == 104) = false := by
          rw [beq_eq_false_iff_ne]
          intro h
          apply hh
          have : (l.getD t 0).toNat = 104 := by omega
          exact UInt8.toNat_inj.1 this
        generalize (fillP (l.drop (t + 1)) v).2 = x at *
        generalize l.getD t 0 = c at *
        go_wp2
        go_roundw
        case rel => exact ⟨t, by omega, by go_num, by rw [Q2.out], by rw [Q1.out]; exact HR.out, hb⟩
        case measure => simp [intOf]
end Go.Proofs.YtebnapgnnflnhaaDoor
