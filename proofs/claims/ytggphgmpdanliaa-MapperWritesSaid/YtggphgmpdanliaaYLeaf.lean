/-
  What the methods that all boards share answer; conditions: the cells that they read hold the board's numbers.
-/
import Derived.Test.YtggphgmpdanliaaYDef
set_option linter.unusedSimpArgs false
set_option linter.unusedVariables false
namespace Go.Proofs.Ytggphgmpdanliaa
open Go.RowKit
theorem mod_in (n m : Int) (h0 : 0 ≤ n) (hm : 0 < m) : n.tmod m = n % m ∧ 0 ≤ n % m ∧ n % m < m := ⟨Int.tmod_eq_emod_of_nonneg h0, Int.emod_nonneg _ (by omega), Int.emod_lt_of_pos _ hm⟩
theorem inPrg_any (w : World) (m : Nat) (b : Bd) (n : Int) (S : Sh w m b) (p0 : 2 ≤ b.prg) (p1 : b.prg ≤ 128) (n0 : 0 ≤ n) (n1 : n ≤ 9223372036854775807) :
    Calls Try.prog 94 #[.pointer (some ⟨m, 0, none⟩), .int .i64 n] w fun e w' => e = .returned (.int .i64 (n % b.prg)) ∧ w' = w := by
  obtain ⟨-, -, -, -, c4, -, -⟩ := S
  obtain ⟨e, q0, q1⟩ := mod_in n b.prg n0 (by omega)
  have hz : ¬ b.prg = 0 := by omega
  generalize b.prg = p at *
  generalize hr : n % p = r at *
  have HR : Hid _ := hr
  clear hr
  have q2 : r ≤ 128 := by omega
  clear p0 p1 q1 n0 n1
  go_enter Try.func94, Try.ntmps94
  go_wp2
  go_ret
  exact ⟨rfl, rfl⟩
theorem inChr_any (w : World) (m : Nat) (b : Bd) (n : Int) (S : Sh w m b) (p0 : 8 ≤ b.chr) (p1 : b.chr ≤ 512) (n0 : 0 ≤ n) (n1 : n ≤ 9223372036854775807) :
    Calls Try.prog 95 #[.pointer (some ⟨m, 0, none⟩), .int .i64 n] w fun e w' => e = .returned (.int .i64 (n % b.chr)) ∧ w' = w := by
  obtain ⟨-, -, -, -, -, c5, -⟩ := S
  obtain ⟨e, q0, q1⟩ := mod_in n b.chr n0 (by omega)
  have hz : ¬ b.chr = 0 := by omega
  generalize b.chr = p at *
  generalize hr : n % p = r at *
  have HR : Hid _ := hr
  clear hr
  have q2 : r ≤ 512 := by omega
  clear p0 p1 q1 n0 n1
  go_enter Try.func95, Try.ntmps95
  go_wp2
  go_ret
  exact ⟨rfl, rfl⟩
theorem hasWork_any (w : World) (m : Nat) (b : Bd) (S : Sh w m b) :
    Calls Try.prog 85 #[.pointer (some ⟨m, 0, none⟩)] w fun e w' => e = .returned (.bool b.work) ∧ w' = w := by
  obtain ⟨-, -, c2, -, -, -, -⟩ := S
  go_enter Try.func85, Try.ntmps85
  go_wp2
  go_ret
  exact ⟨rfl, rfl⟩
/-- A mirroring that the board chooses. -/
def wiredV (b : Bd) (x : Int) : Int := if b.hard = 4 then 4 else x
theorem wired_if (w : World) (m : Nat) (b : Bd) (x : Int) (S : Sh w m b) :
    Calls Try.prog 104 #[.pointer (some ⟨m, 0, none⟩), .int .u8 x] w fun e w' => e = .returned (.int .u8 (wiredV b x)) ∧ w' = w := by
  obtain ⟨-, c1, -, -, -, -, -⟩ := S
  unfold wiredV
  by_cases h : b.hard = 4
  · rw [if_pos h]
    rw [h] at c1
    clear h
    go_enter Try.func104, Try.ntmps104
    go_wp2
    go_ret
    exact ⟨rfl, rfl⟩
  · rw [if_neg h]
    have hb : (b.hard == 4) = false := by simpa using h
    clear h
    go_enter Try.func104, Try.ntmps104
    go_wp2
    go_ret
    exact ⟨rfl, rfl⟩
theorem mirror0_any (w : World) (m : Nat) (b : Bd) (S : Sh w m b) :
    Calls Try.prog 86 #[.pointer (some ⟨m, 0, none⟩)] w fun e w' => e = .returned (.int .u8 b.hard) ∧ w' = w := by
  obtain ⟨-, c1, -, -, -, -, -⟩ := S
  go_enter Try.func86, Try.ntmps86
  go_wp2
  go_ret
  exact ⟨rfl, rfl⟩
theorem mode0_any (w : World) (m : Nat) :
    Calls Try.prog 92 #[.pointer (some ⟨m, 0, none⟩)] w fun e w' => e = .returned (.int .i64 2) ∧ w' = w := by
  go_enter Try.func92, Try.ntmps92
  go_wp2
  go_ret
  exact ⟨rfl, rfl⟩
theorem write0_any (w : World) (m : Nat) (a v u c : Int) :
    Calls Try.prog 93 #[.pointer (some ⟨m, 0, none⟩), .int .u16 a, .int .u8 v, .int .u8 u, .int .i64 c] w fun e w' => e = .returned (.tuple #[]) ∧ w' = w := by
  go_enter Try.func93, Try.ntmps93
  go_wp2
  go_end0
  exact ⟨rfl, rfl⟩
theorem bank0_any (w : World) (m : Nat) (b : Bd) (x : Int) (S : Sh w m b) (p0 : 2 ≤ b.prg) (p1 : b.prg ≤ 128) (n0 : 0 ≤ x) (n1 : x ≤ 3) :
    Calls Try.prog 82 #[.pointer (some ⟨m, 0, none⟩), .int .i64 x] w fun e w' => e = .returned (.int .i64 (x % b.prg)) ∧ w' = w := by
  have H : Hid _ := inPrg_any w m b x S p0 p1 n0 (by omega)
  clear S p0 p1 n0 n1
  go_enter Try.func82, Try.ntmps82
  go_wp2_with fail
  refine Calls.mono H.out ?_
  rintro e W ⟨rfl, rfl⟩
  go_wp2
  go_ret
  exact ⟨rfl, rfl⟩
theorem chrBank0_any (w : World) (m : Nat) (b : Bd) (x : Int) (S : Sh w m b) (p0 : 8 ≤ b.chr) (p1 : b.chr ≤ 512) (n0 : 0 ≤ x) (n1 : x ≤ 7) :
    Calls Try.prog 83 #[.pointer (some ⟨m, 0, none⟩), .int .i64 x] w fun e w' => e = .returned (.int .i64 (x % b.chr)) ∧ w' = w := by
  have H : Hid _ := inChr_any w m b x S p0 p1 n0 (by omega)
  clear S p0 p1 n0 n1
  go_enter Try.func83, Try.ntmps83
  go_wp2_with fail
  refine Calls.mono H.out ?_
  rintro e W ⟨rfl, rfl⟩
  go_wp2
  go_ret
  exact ⟨rfl, rfl⟩
end Go.Proofs.Ytggphgmpdanliaa
