/-
  What Do makes of an Alu: the stack, and what is none of these.
-/
import Derived.Test.YtgnhaicogdnebaaDoorATold
namespace Go.Proofs.YtgnhaicogdnebaaDoor
open Go.RowKit
theorem or_16 (F : Fl) : F.val ||| 16 = ({ F with b := true } : Fl).val := by
  obtain ⟨n, v, u, b, d, i, z, c⟩ := F
  revert n v u b d i z c
  decide +kernel
theorem or_32 (F : Fl) : F.val ||| 32 = ({ F with u := true } : Fl).val := by
  obtain ⟨n, v, u, b, d, i, z, c⟩ := F
  revert n v u b d i z c
  decide +kernel
theorem or_48 (F : Fl) : F.val ||| 48 = ({ F with b := true, u := true } : Fl).val := by
  obtain ⟨n, v, u, b, d, i, z, c⟩ := F
  revert n v u b d i z c
  decide +kernel
/-- P as it is pushed. -/
def Fl.push (F : Fl) : Fl := { F with b := true, u := true }
theorem pushed_any (F : Fl) (w : World) : Calls Tryd.prog 35 #[.int .u8 (F.val : Nat)] w fun e w' => e = .returned (.int .u8 (F.push.val : Nat)) ∧ w' = w := by
  have h1 : bits .or .u8 (F.val : Nat) 16 = (({ F with b := true } : Fl).val : Nat) := by rw [← or_16]; exact bits_or F.val 16 F.lt (by decide)
  have h2 : bits .or .u8 (({ F with b := true } : Fl).val : Nat) 32 = (F.push.val : Nat) := by rw [show F.push = ({ ({ F with b := true } : Fl) with u := true } : Fl) from rfl, ← or_32]; exact bits_or _ 32 (Fl.lt _) (by decide)
  have h3 : bits .or .u8 (F.val : Nat) 48 = (F.push.val : Nat) := by rw [show F.push = ({ F with b := true, u := true } : Fl) from rfl, ← or_48]; exact bits_or F.val 48 F.lt (by decide)
  go_enter Tryd.func35, Tryd.ntmps35
  go_wp2
  go_ret
  exact ⟨rfl, rfl⟩
set_option maxHeartbeats 1000000 in
theorem do_36 (a x y s m : Int) (F : Fl) (w : World) :
    Calls Tryd.prog 16 #[.int .i64 36, .agg #[.int .u8 a, .int .u8 x, .int .u8 y, .int .u8 s, .int .u8 (F.val : Nat), .int .u8 m]] w fun e w' => e = .returned (.agg #[.int .u8 (a), .int .u8 (x), .int .u8 (y), .int .u8 (s), .int .u8 ((F).val : Nat), .int .u8 ((F.push.val : Nat))]) ∧ Below w.heap.size w w' := by
  go_enter Tryd.func16, Tryd.ntmps16
  go_wp2_with (go_at_call 35; refine (pushed_any _ _).mono ?_; rintro e w' ⟨rfl, rfl⟩)
  exact bodyPost_ret (v := .agg #[.int .u8 (a), .int .u8 (x), .int .u8 (y), .int .u8 (s), .int .u8 ((F).val : Nat), .int .u8 ((F.push.val : Nat))]) (by simp [results, Tryd.results16, go_sem]) rfl ⟨rfl, by repeat (first | exact Below.refl _ _ | refine Below.alloc ?_ (by simp <;> omega) _ | refine Below.drew ?_ | refine Below.setCell ?_ (by simp <;> omega) _)⟩
set_option maxHeartbeats 1000000 in
theorem do_10 (a x y s m : Int) (F : Fl) (w : World) :
    Calls Tryd.prog 16 #[.int .i64 10, .agg #[.int .u8 a, .int .u8 x, .int .u8 y, .int .u8 s, .int .u8 (F.val : Nat), .int .u8 m]] w fun e w' => e = .returned (.agg #[.int .u8 (a), .int .u8 (x), .int .u8 (y), .int .u8 (s), .int .u8 ((F.put 4 true).val : Nat), .int .u8 ((F.push.val : Nat))]) ∧ Below w.heap.size w w' := by
  have h1 : bits .or .u8 (F.val : Nat) 4 = ((F.put 4 true).val : Nat) := by
    rw [← F.put_val 4 true (by decide)]; exact bits_or F.val 4 F.lt (by decide)
  go_enter Tryd.func16, Tryd.ntmps16
  go_wp2_with (go_at_call 35; refine (pushed_any _ _).mono ?_; rintro e w' ⟨rfl, rfl⟩)
  exact bodyPost_ret (v := .agg #[.int .u8 (a), .int .u8 (x), .int .u8 (y), .int .u8 (s), .int .u8 ((F.put 4 true).val : Nat), .int .u8 ((F.push.val : Nat))]) (by simp [results, Tryd.results16, go_sem]) rfl ⟨rfl, by repeat (first | exact Below.refl _ _ | refine Below.alloc ?_ (by simp <;> omega) _ | refine Below.drew ?_ | refine Below.setCell ?_ (by simp <;> omega) _)⟩
set_option maxHeartbeats 1000000 in
theorem do_38 (a x y s : Int) (F M : Fl) (w : World) :
    Calls Tryd.prog 16 #[.int .i64 38, .agg #[.int .u8 a, .int .u8 x, .int .u8 y, .int .u8 s, .int .u8 (F.val : Nat), .int .u8 (M.val : Nat)]] w fun e w' => e = .returned (.agg #[.int .u8 (a), .int .u8 (x), .int .u8 (y), .int .u8 (s), .int .u8 (((M.put 16 false).put 32 true).val : Nat), .int .u8 ((M.val : Nat))]) ∧ Below w.heap.size w w' := by
  have h1 : bits .andNot .u8 (M.val : Nat) 16 = ((M.put 16 false).val : Nat) := by
    rw [← M.put_val 16 false (by decide)]; exact bits_andNot M.val 16 M.lt (by decide)
  have h2 : bits .or .u8 ((M.put 16 false).val : Nat) 32 = (((M.put 16 false).put 32 true).val : Nat) := by
    rw [← (M.put 16 false).put_val 32 true (by decide)]; exact bits_or (M.put 16 false).val 32 (Fl.lt _) (by decide)
  go_enter Tryd.func16, Tryd.ntmps16
  go_wp2
  exact bodyPost_ret (v := .agg #[.int .u8 (a), .int .u8 (x), .int .u8 (y), .int .u8 (s), .int .u8 (((M.put 16 false).put 32 true).val : Nat), .int .u8 ((M.val : Nat))]) (by simp [results, Tryd.results16, go_sem]) rfl ⟨rfl, by repeat (first | exact Below.refl _ _ | refine Below.alloc ?_ (by simp <;> omega) _ | refine Below.drew ?_ | refine Below.setCell ?_ (by simp <;> omega) _)⟩
set_option maxHeartbeats 1000000 in
theorem do_41 (a x y s : Int) (F M : Fl) (w : World) :
    Calls Tryd.prog 16 #[.int .i64 41, .agg #[.int .u8 a, .int .u8 x, .int .u8 y, .int .u8 s, .int .u8 (F.val : Nat), .int .u8 (M.val : Nat)]] w fun e w' => e = .returned (.agg #[.int .u8 (a), .int .u8 (x), .int .u8 (y), .int .u8 (s), .int .u8 (((M.put 16 false).put 32 true).val : Nat), .int .u8 ((M.val : Nat))]) ∧ Below w.heap.size w w' := by
  have h1 : bits .andNot .u8 (M.val : Nat) 16 = ((M.put 16 false).val : Nat) := by
    rw [← M.put_val 16 false (by decide)]; exact bits_andNot M.val 16 M.lt (by decide)
  have h2 : bits .or .u8 ((M.put 16 false).val : Nat) 32 = (((M.put 16 false).put 32 true).val : Nat) := by
    rw [← (M.put 16 false).put_val 32 true (by decide)]; exact bits_or (M.put 16 false).val 32 (Fl.lt _) (by decide)
  go_enter Tryd.func16, Tryd.ntmps16
  go_wp2
  exact bodyPost_ret (v := .agg #[.int .u8 (a), .int .u8 (x), .int .u8 (y), .int .u8 (s), .int .u8 (((M.put 16 false).put 32 true).val : Nat), .int .u8 ((M.val : Nat))]) (by simp [results, Tryd.results16, go_sem]) rfl ⟨rfl, by repeat (first | exact Below.refl _ _ | refine Below.alloc ?_ (by simp <;> omega) _ | refine Below.drew ?_ | refine Below.setCell ?_ (by simp <;> omega) _)⟩
set_option maxHeartbeats 1000000 in
theorem do_other (op a x y s m : Int) (F : Fl) (w : World) (d29 : (op == 29) = false) (d37 : (op == 37) = false) (d30 : (op == 30) = false) (d31 : (op == 31) = false) (d62 : (op == 62) = false) (d61 : (op == 61) = false) (d50 : (op == 50) = false) (d51 : (op == 51) = false) (d53 : (op == 53) = false) (d55 : (op == 55) = false) (d52 : (op == 52) = false) (d54 : (op == 54) = false) (d47 : (op == 47) = false) (d35 : (op == 35) = false) (d48 : (op == 48) = false) (d49 : (op == 49) = false) (d65 : (op == 65) = false) (d24 : (op == 24) = false) (d25 : (op == 25) = false) (d26 : (op == 26) = false) (d20 : (op == 20) = false) (d21 : (op == 21) = false) (d22 : (op == 22) = false) (d1 : (op == 1) = false) (d34 : (op == 34) = false) (d23 : (op == 23) = false) (d0 : (op == 0) = false) (d43 : (op == 43) = false) (d58 : (op == 58) = false) (d2 : (op == 2) = false) (d32 : (op == 32) = false) (d39 : (op == 39) = false) (d40 : (op == 40) = false) (d67 : (op == 67) = false) (d63 : (op == 63) = false) (d68 : (op == 68) = false) (d64 : (op == 64) = false) (d59 : (op == 59) = false) (d60 : (op == 60) = false) (d17 : (op == 17) = false) (d18 : (op == 18) = false) (d19 : (op == 19) = false) (d6 : (op == 6) = false) (d57 : (op == 57) = false) (d56 : (op == 56) = false) (d66 : (op == 66) = false) (d13 : (op == 13) = false) (d14 : (op == 14) = false) (d15 : (op == 15) = false) (d16 : (op == 16) = false) (d44 : (op == 44) = false) (d45 : (op == 45) = false) (d46 : (op == 46) = false) (d36 : (op == 36) = false) (d38 : (op == 38) = false) (d41 : (op == 41) = false) (d10 : (op == 10) = false) :
    Calls Tryd.prog 16 #[.int .i64 op, .agg #[.int .u8 a, .int .u8 x, .int .u8 y, .int .u8 s, .int .u8 (F.val : Nat), .int .u8 m]] w fun e w' => e = .returned (.agg #[.int .u8 a, .int .u8 x, .int .u8 y, .int .u8 s, .int .u8 (F.val : Nat), .int .u8 m]) ∧ Below w.heap.size w w' := by
  go_enter Tryd.func16, Tryd.ntmps16
  go_wp2
  exact bodyPost_ret (v := .agg #[.int .u8 a, .int .u8 x, .int .u8 y, .int .u8 s, .int .u8 (F.val : Nat), .int .u8 m]) (by simp [results, Tryd.results16, go_sem]) rfl ⟨rfl, by repeat (first | exact Below.refl _ _ | refine Below.alloc ?_ (by simp <;> omega) _ | refine Below.drew ?_ | refine Below.setCell ?_ (by simp <;> omega) _)⟩
end Go.Proofs.YtgnhaicogdnebaaDoor
