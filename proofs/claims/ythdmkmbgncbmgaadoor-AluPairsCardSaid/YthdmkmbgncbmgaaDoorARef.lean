/-
  The contracts of the document's own put, Nz, rest, carry, Shift: the same answers as the program's.
-/
import Derived.Test.YthdmkmbgncbmgaaDoorASum
namespace Go.Proofs.YthdmkmbgncbmgaaDoor
open Go.RowKit
theorem rput_any (p f : Nat) (on : Bool) (w : World) (hp : p < 256) (hf : f < 256) :
    Calls Tryd.prog 75 #[.int .u8 p, .int .u8 f, .bool on] w fun e w' => e = .returned (.int .u8 (putN p f on : Nat)) ∧ w' = w := by
  have h1 := bits_or p f hp hf
  have h2 := bits_andNot p f hp hf
  cases on
  all_goals
    go_enter Tryd.func75, Tryd.ntmps75
    go_wp2
    go_ret
    exact ⟨rfl, rfl⟩
theorem rputF_any (F : Fl) (f : Int) (on : Bool) (w : World) (hf : f ∈ [(1 : Int), 2, 4, 8, 16, 32, 64, 128]) :
    Calls Tryd.prog 75 #[.int .u8 (F.val : Nat), .int .u8 f, .bool on] w fun e w' => e = .returned (.int .u8 ((F.put f on).val : Nat)) ∧ w' = w := by
  rw [← F.put_val f on hf]
  have hf' : 0 ≤ f ∧ f.toNat < 256 := by
    simp only [List.mem_cons, List.not_mem_nil, or_false] at hf
    omega
  have e : f = ((f.toNat : Nat) : Int) := by omega
  have h := rput_any F.val f.toNat on w F.lt hf'.2
  rw [← e] at h
  exact h
theorem rnz_any (r : Int) (F : Fl) (w : World) :
    Calls Tryd.prog 73 #[.int .u8 r, .int .u8 (F.val : Nat)] w fun e w' => e = .returned (.int .u8 ((nzF r F).val : Nat)) ∧ w' = w := by
  go_enter Tryd.func73, Tryd.ntmps73
  go_wp2_with (go_at_call 75; refine (rputF_any _ _ _ _ (by decide)).mono ?_; rintro e w' ⟨rfl, rfl⟩)
  go_ret
  exact ⟨rfl, rfl⟩
theorem rest_any (v n : Int) (w : World) (hn : n = 256 ∨ n = 16) (v0 : -10000 ≤ v) (v1 : v ≤ 10000) :
    Calls Tryd.prog 82 #[.int .i64 v, .int .i64 n] w fun e w' => e = .returned (.int .i64 (v % n)) ∧ w' = w := by
  by_cases h : 0 ≤ v
  · rcases hn with rfl | rfl
    all_goals
      go_enter Tryd.func82, Tryd.ntmps82
      go_wp2
      go_ret
      exact ⟨rfl, rfl⟩
  · have ht : ∀ k : Int, v.tmod k = -((-v) % k) := fun k => by rw [tmod_eq_if]; simp [h]
    rcases hn with rfl | rfl
    · have t := ht 256
      by_cases g : (-v) % 256 = 0
      · have t' : v.tmod 256 = 0 := by omega
        have E : Hid (v % 256 = 0) := by unfold Hid; omega
        clear t ht
        go_enter Tryd.func82, Tryd.ntmps82
        go_wp2
        go_ret
        exact ⟨congrArg (fun x => Ending.returned (.int .i64 x)) E.out.symm, rfl⟩
      · have E : Hid (v % 256 = -(-v % 256) + 256) := by unfold Hid; omega
        have n0 : -(-v % 256) < 0 := by omega
        have n1 : -256 < -(-v % 256) := by omega
        generalize -(-v % 256) = z at *
        clear ht g
        go_enter Tryd.func82, Tryd.ntmps82
        go_wp2
        go_ret
        exact ⟨congrArg (fun x => Ending.returned (.int .i64 x)) E.out.symm, rfl⟩
    · have t := ht 16
      by_cases g : (-v) % 16 = 0
      · have t' : v.tmod 16 = 0 := by omega
        have E : Hid (v % 16 = 0) := by unfold Hid; omega
        clear t ht
        go_enter Tryd.func82, Tryd.ntmps82
        go_wp2
        go_ret
        exact ⟨congrArg (fun x => Ending.returned (.int .i64 x)) E.out.symm, rfl⟩
      · have E : Hid (v % 16 = -(-v % 16) + 16) := by unfold Hid; omega
        have n0 : -(-v % 16) < 0 := by omega
        have n1 : -16 < -(-v % 16) := by omega
        generalize -(-v % 16) = z at *
        clear ht g
        go_enter Tryd.func82, Tryd.ntmps82
        go_wp2
        go_ret
        exact ⟨congrArg (fun x => Ending.returned (.int .i64 x)) E.out.symm, rfl⟩
theorem carry_any (F : Fl) (w : World) :
    Calls Tryd.prog 90 #[.int .u8 (F.val : Nat)] w fun e w' => e = .returned (.int .i64 (ci F.c)) ∧ w' = w := by
  have h := bit_c F
  have hb := ci_bd F.c
  go_enter Tryd.func90, Tryd.ntmps90
  go_wp2
  go_ret
  exact ⟨rfl, rfl⟩
theorem rshift_any (op m : Int) (F : Fl) (w : World) (h0 : 0 ≤ m) (h1 : m ≤ 255) :
    Calls Tryd.prog 76 #[.int .i64 op, .int .u8 m, .int .u8 (F.val : Nat)] w fun e w' => e = .returned (.tuple #[.int .u8 (shV op m F.c), .int .u8 ((shF op m F).val : Nat)]) ∧ w' = w := by
  have hb := ci_bd F.c
  by_cases k2 : op = 2
  · subst k2
    have E1 : Hid (shV 2 m F.c = m * 2 % 256) := rfl
    have E2 : Hid (shF 2 m F = nzF (m * 2 % 256) (F.put 1 (decide (128 ≤ m)))) := rfl
    go_enter Tryd.func76, Tryd.ntmps76
    go_wp2_with (first | (go_at_call 75; refine (rputF_any _ _ _ _ (by decide)).mono ?_; rintro e w' ⟨rfl, rfl⟩) | (go_at_call 73; refine (rnz_any _ _ _).mono ?_; rintro e w' ⟨rfl, rfl⟩) | (go_at_call 90; refine (carry_any _ _).mono ?_; rintro e w' ⟨rfl, rfl⟩) | (go_at_call 82; refine (rest_any _ _ _ (by decide) (by omega) (by omega)).mono ?_; rintro e w' ⟨rfl, rfl⟩))
    go_ret2
    exact ⟨two8 (by rw [E1.out]; omega) (flv (by rw [E2.out]; congr 1; omega)), rfl⟩
  have d2 : (op == 2) = false := by simp [k2]
  by_cases k39 : op = 39
  · subst k39
    have E1 : Hid (shV 39 m F.c = m * 2 % 256 + ci F.c) := rfl
    have E2 : Hid (shF 39 m F = nzF (m * 2 % 256 + ci F.c) (F.put 1 (decide (128 ≤ m)))) := rfl
    go_enter Tryd.func76, Tryd.ntmps76
    go_wp2_with (first | (go_at_call 75; refine (rputF_any _ _ _ _ (by decide)).mono ?_; rintro e w' ⟨rfl, rfl⟩) | (go_at_call 73; refine (rnz_any _ _ _).mono ?_; rintro e w' ⟨rfl, rfl⟩) | (go_at_call 90; refine (carry_any _ _).mono ?_; rintro e w' ⟨rfl, rfl⟩) | (go_at_call 82; refine (rest_any _ _ _ (by decide) (by omega) (by omega)).mono ?_; rintro e w' ⟨rfl, rfl⟩))
    go_ret2
    exact ⟨two8 (by rw [E1.out]; omega) (flv (by rw [E2.out]; congr 1; omega)), rfl⟩
  have d39 : (op == 39) = false := by simp [k39]
  by_cases k32 : op = 32
  · subst k32
    have E1 : Hid (shV 32 m F.c = m / 2) := rfl
    have E2 : Hid (shF 32 m F = nzF (m / 2) (F.put 1 (m % 2 == 1))) := rfl
    go_enter Tryd.func76, Tryd.ntmps76
    go_wp2_with (first | (go_at_call 75; refine (rputF_any _ _ _ _ (by decide)).mono ?_; rintro e w' ⟨rfl, rfl⟩) | (go_at_call 73; refine (rnz_any _ _ _).mono ?_; rintro e w' ⟨rfl, rfl⟩) | (go_at_call 90; refine (carry_any _ _).mono ?_; rintro e w' ⟨rfl, rfl⟩) | (go_at_call 82; refine (rest_any _ _ _ (by decide) (by omega) (by omega)).mono ?_; rintro e w' ⟨rfl, rfl⟩))
    go_ret2
    exact ⟨two8 (by rw [E1.out]; omega) (flv (by rw [E2.out]; congr 1; omega)), rfl⟩
  have d32 : (op == 32) = false := by simp [k32]
  by_cases k40 : op = 40
  · subst k40
    have E1 : Hid (shV 40 m F.c = m / 2 + 128 * ci F.c) := rfl
    have E2 : Hid (shF 40 m F = nzF (m / 2 + 128 * ci F.c) (F.put 1 (m % 2 == 1))) := rfl
    go_enter Tryd.func76, Tryd.ntmps76
    go_wp2_with (first | (go_at_call 75; refine (rputF_any _ _ _ _ (by decide)).mono ?_; rintro e w' ⟨rfl, rfl⟩) | (go_at_call 73; refine (rnz_any _ _ _).mono ?_; rintro e w' ⟨rfl, rfl⟩) | (go_at_call 90; refine (carry_any _ _).mono ?_; rintro e w' ⟨rfl, rfl⟩) | (go_at_call 82; refine (rest_any _ _ _ (by decide) (by omega) (by omega)).mono ?_; rintro e w' ⟨rfl, rfl⟩))
    go_ret2
    exact ⟨two8 (by rw [E1.out]; omega) (flv (by rw [E2.out]; congr 1; omega)), rfl⟩
  have d40 : (op == 40) = false := by simp [k40]
  have E1 : shV op m F.c = m := by simp [shV, k2, k32, k39, k40]
  have E2 : shF op m F = F := by simp [shF, k2, k32, k39, k40]
  rw [E1, E2]
  clear E1 E2 k2 k32 k39 k40
  go_enter Tryd.func76, Tryd.ntmps76
  go_wp2
  go_ret2
  exact ⟨rfl, rfl⟩
end Go.Proofs.YthdmkmbgncbmgaaDoor
