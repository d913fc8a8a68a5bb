/-
  What Do makes of an Alu: flags.
-/
import Derived.Test.YtgnhaicogdnebaaDoorATold
import Derived.Test.YtgnhaicogdnebaaDoorATab
namespace Go.Proofs.YtgnhaicogdnebaaDoor
open Go.RowKit
set_option maxHeartbeats 1000000 in
theorem do_13 (a x y s m : Int) (F : Fl) (w : World) (T : STab w) :
    Calls Tryd.prog 16 #[.int .i64 13, .agg #[.int .u8 a, .int .u8 x, .int .u8 y, .int .u8 s, .int .u8 (F.val : Nat), .int .u8 m]] w fun e w' => e = .returned (.agg #[.int .u8 (a), .int .u8 (x), .int .u8 (y), .int .u8 (s), .int .u8 ((F.put 1 false).val : Nat), .int .u8 (m)]) ∧ Below w.heap.size w w' := by
  have hst : st 13 = 1 := by decide
  have hF : bits .andNot .u8 (F.val : Nat) 1 = ((F.put 1 false).val : Nat) := by
    rw [← F.put_val 1 false (by decide)]; exact bits_andNot F.val 1 F.lt (by decide)
  have T' := T.on ((((Below.refl w.heap.size w).alloc (Nat.le_refl _) (.cells #[.int .u8 a, .int .u8 x, .int .u8 y, .int .u8 s, .int .u8 (F.val : Nat), .int .u8 m] 23)).alloc (by simp) (.cells #[.int .u8 0, .int .u8 0, .int .u8 0, .int .u8 0, .int .u8 0, .int .u8 0] 23)).drew)
  have HT : Hid _ := T'
  clear T T'
  go_enter Tryd.func16, Tryd.ntmps16
  go_wp2
  go_region_with (go_at_call 14; refine (sets_any _ _ HT.out).mono ?_; rintro e w1 ⟨rfl, rfl⟩; rw [hst])
  all_goals
    go_wp2
    exact bodyPost_ret (v := .agg #[.int .u8 (a), .int .u8 (x), .int .u8 (y), .int .u8 (s), .int .u8 ((F.put 1 false).val : Nat), .int .u8 (m)]) (by simp [results, Tryd.results16, go_sem]) rfl ⟨rfl, by repeat (first | exact Below.refl _ _ | refine Below.alloc ?_ (by simp <;> omega) _ | refine Below.drew ?_ | refine Below.setCell ?_ (by simp <;> omega) _)⟩
set_option maxHeartbeats 1000000 in
theorem do_14 (a x y s m : Int) (F : Fl) (w : World) (T : STab w) :
    Calls Tryd.prog 16 #[.int .i64 14, .agg #[.int .u8 a, .int .u8 x, .int .u8 y, .int .u8 s, .int .u8 (F.val : Nat), .int .u8 m]] w fun e w' => e = .returned (.agg #[.int .u8 (a), .int .u8 (x), .int .u8 (y), .int .u8 (s), .int .u8 ((F.put 8 false).val : Nat), .int .u8 (m)]) ∧ Below w.heap.size w w' := by
  have hst : st 14 = 8 := by decide
  have hF : bits .andNot .u8 (F.val : Nat) 8 = ((F.put 8 false).val : Nat) := by
    rw [← F.put_val 8 false (by decide)]; exact bits_andNot F.val 8 F.lt (by decide)
  have T' := T.on ((((Below.refl w.heap.size w).alloc (Nat.le_refl _) (.cells #[.int .u8 a, .int .u8 x, .int .u8 y, .int .u8 s, .int .u8 (F.val : Nat), .int .u8 m] 23)).alloc (by simp) (.cells #[.int .u8 0, .int .u8 0, .int .u8 0, .int .u8 0, .int .u8 0, .int .u8 0] 23)).drew)
  have HT : Hid _ := T'
  clear T T'
  go_enter Tryd.func16, Tryd.ntmps16
  go_wp2
  go_region_with (go_at_call 14; refine (sets_any _ _ HT.out).mono ?_; rintro e w1 ⟨rfl, rfl⟩; rw [hst])
  all_goals
    go_wp2
    exact bodyPost_ret (v := .agg #[.int .u8 (a), .int .u8 (x), .int .u8 (y), .int .u8 (s), .int .u8 ((F.put 8 false).val : Nat), .int .u8 (m)]) (by simp [results, Tryd.results16, go_sem]) rfl ⟨rfl, by repeat (first | exact Below.refl _ _ | refine Below.alloc ?_ (by simp <;> omega) _ | refine Below.drew ?_ | refine Below.setCell ?_ (by simp <;> omega) _)⟩
set_option maxHeartbeats 1000000 in
theorem do_45 (a x y s m : Int) (F : Fl) (w : World) (T : STab w) :
    Calls Tryd.prog 16 #[.int .i64 45, .agg #[.int .u8 a, .int .u8 x, .int .u8 y, .int .u8 s, .int .u8 (F.val : Nat), .int .u8 m]] w fun e w' => e = .returned (.agg #[.int .u8 (a), .int .u8 (x), .int .u8 (y), .int .u8 (s), .int .u8 ((F.put 8 true).val : Nat), .int .u8 (m)]) ∧ Below w.heap.size w w' := by
  have hst : st 45 = 8 := by decide
  have hF : bits .or .u8 (F.val : Nat) 8 = ((F.put 8 true).val : Nat) := by
    rw [← F.put_val 8 true (by decide)]; exact bits_or F.val 8 F.lt (by decide)
  have T' := T.on ((((Below.refl w.heap.size w).alloc (Nat.le_refl _) (.cells #[.int .u8 a, .int .u8 x, .int .u8 y, .int .u8 s, .int .u8 (F.val : Nat), .int .u8 m] 23)).alloc (by simp) (.cells #[.int .u8 0, .int .u8 0, .int .u8 0, .int .u8 0, .int .u8 0, .int .u8 0] 23)).drew)
  have HT : Hid _ := T'
  clear T T'
  go_enter Tryd.func16, Tryd.ntmps16
  go_wp2
  go_region_with (go_at_call 14; refine (sets_any _ _ HT.out).mono ?_; rintro e w1 ⟨rfl, rfl⟩; rw [hst])
  all_goals
    go_wp2
    exact bodyPost_ret (v := .agg #[.int .u8 (a), .int .u8 (x), .int .u8 (y), .int .u8 (s), .int .u8 ((F.put 8 true).val : Nat), .int .u8 (m)]) (by simp [results, Tryd.results16, go_sem]) rfl ⟨rfl, by repeat (first | exact Below.refl _ _ | refine Below.alloc ?_ (by simp <;> omega) _ | refine Below.drew ?_ | refine Below.setCell ?_ (by simp <;> omega) _)⟩
end Go.Proofs.YtgnhaicogdnebaaDoor
