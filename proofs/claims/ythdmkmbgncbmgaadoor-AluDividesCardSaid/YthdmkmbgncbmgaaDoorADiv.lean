/-
  The law AluDivides returns true for every four bytes: the division that gives back; condition: the two tables lie in their variables.
-/
import Derived.Test.YthdmkmbgncbmgaaDoorAWrap
import Derived.Deep.CutBlock
import Derived.Deep.DeepCutAuto
namespace Go.Proofs.YthdmkmbgncbmgaaDoor
open Go.RowKit
theorem wf8 {n : Int} (h : (Lit.int .u8 n).wf = true) : 0 ≤ n ∧ n ≤ 255 := by
  simp [Lit.wf, IntKind.min, IntKind.max, IntKind.signed, IntKind.bits] at h
  omega
/-- What stands in A and in the two bytes behind k rounds. -/
def DI (n d : Int) (k : Nat) (A H : Int) : Prop := ∃ q : Int, n / 2 ^ (16 - k) = d * q + A ∧ 0 ≤ A ∧ A < d ∧ H = n % 2 ^ (16 - k) * 2 ^ k + q ∧ 0 ≤ q ∧ q < 2 ^ k
theorem DI.start (n d : Int) (n0 : 0 ≤ n) (n1 : n ≤ 65535) (d0 : 0 < d) : DI n d 0 0 n :=
  ⟨0, by rw [show (2 : Int) ^ (16 - 0) = 65536 from rfl, Int.mul_zero]; omega, by omega, d0, by rw [show (2 : Int) ^ (16 - 0) = 65536 from rfl, show (2 : Int) ^ 0 = 1 from rfl]; omega, by omega, by decide⟩
theorem DI.last {n d A H : Int} (h : DI n d 16 A H) : A = n % d ∧ H = n / d := by
  obtain ⟨q, h1, h2, h3, h4, -, -⟩ := h
  rw [show (2 : Int) ^ (16 - 16) = 1 from rfl, Int.ediv_one] at h1
  rw [show (2 : Int) ^ (16 - 16) = 1 from rfl, Int.emod_one, Int.zero_mul, Int.zero_add] at h4
  subst h4
  have e1 : n % d = A := by rw [h1, Int.mul_add_emod_self_left, Int.emod_eq_of_lt h2 h3]
  have e2 : n / d = H := by
    rw [h1, Int.mul_add_ediv_left _ _ (by omega), Int.ediv_eq_zero_of_lt h2 h3, Int.add_zero]
  exact ⟨e1.symm, e2.symm⟩
theorem div_raw (d A q N N2 r : Int) (hN : N = d * q + A) (h2 : N2 = 2 * N + r) (a1 : A < d) (r0 : 0 ≤ r) (r1 : r ≤ 1) :
    (d ≤ 2 * A + r → N2 = d * (2 * q + 1) + (2 * A + r - d) ∧ 0 ≤ 2 * A + r - d ∧ 2 * A + r - d < d) ∧ (¬ d ≤ 2 * A + r → N2 = d * (2 * q) + (2 * A + r)) := by
  have e : d * (2 * q) = 2 * (d * q) := by rw [← Int.mul_assoc, Int.mul_comm d 2, Int.mul_assoc]
  have e' : d * (2 * q + 1) = 2 * (d * q) + d := by rw [Int.mul_add, e, Int.mul_one]
  rw [e, e']
  generalize d * q = p at *
  omega
theorem DI.step {n d A H : Int} {k : Nat} (hk : k < 16) (n0 : 0 ≤ n) (n1 : n ≤ 65535) (h : DI n d k A H) :
    0 ≤ A ∧ A < d ∧ 0 ≤ H ∧ H ≤ 65535 ∧ (d ≤ 2 * A + H / 32768 → DI n d (k + 1) (2 * A + H / 32768 - d) (H * 2 % 65536 + 1)) ∧ (¬ d ≤ 2 * A + H / 32768 → DI n d (k + 1) (2 * A + H / 32768) (H * 2 % 65536)) := by
  obtain ⟨q, h1, h2, h3, h4, h5, h6⟩ := h
  have hk' : k = 0 ∨ k = 1 ∨ k = 2 ∨ k = 3 ∨ k = 4 ∨ k = 5 ∨ k = 6 ∨ k = 7 ∨ k = 8 ∨ k = 9 ∨ k = 10 ∨ k = 11 ∨ k = 12 ∨ k = 13 ∨ k = 14 ∨ k = 15 := by omega
  rcases hk' with rfl | rfl | rfl | rfl | rfl | rfl | rfl | rfl | rfl | rfl | rfl | rfl | rfl | rfl | rfl | rfl
  · replace h1 : n / 65536 = d * q + A := h1
    replace h4 : H = n % 65536 * 1 + q := h4
    replace h6 : q < 1 := h6
    have hb : H / 32768 = n / 32768 % 2 := by omega
    have hN : n / 32768 = 2 * (n / 65536) + n / 32768 % 2 := by omega
    have hr := div_raw d A q (n / 65536) (n / 32768) (n / 32768 % 2) h1 hN h3 (by omega) (by omega)
    refine ⟨h2, h3, by omega, by omega, fun hd => ?_, fun hd => ?_⟩
    · rw [hb] at hd ⊢
      obtain ⟨r1, r2, r3⟩ := hr.1 hd
      exact ⟨2 * q + 1, r1, r2, r3, by show _ = n % 32768 * 2 + _; omega, by omega, by rw [show (2 : Int) ^ (0 + 1) = 2 from rfl]; omega⟩
    · rw [hb] at hd ⊢
      exact ⟨2 * q, hr.2 hd, by omega, by omega, by show _ = n % 32768 * 2 + _; omega, by omega, by rw [show (2 : Int) ^ (0 + 1) = 2 from rfl]; omega⟩
  · replace h1 : n / 32768 = d * q + A := h1
    replace h4 : H = n % 32768 * 2 + q := h4
    replace h6 : q < 2 := h6
    have hb : H / 32768 = n / 16384 % 2 := by omega
    have hN : n / 16384 = 2 * (n / 32768) + n / 16384 % 2 := by omega
    have hr := div_raw d A q (n / 32768) (n / 16384) (n / 16384 % 2) h1 hN h3 (by omega) (by omega)
    refine ⟨h2, h3, by omega, by omega, fun hd => ?_, fun hd => ?_⟩
    · rw [hb] at hd ⊢
      obtain ⟨r1, r2, r3⟩ := hr.1 hd
      exact ⟨2 * q + 1, r1, r2, r3, by show _ = n % 16384 * 4 + _; omega, by omega, by rw [show (2 : Int) ^ (1 + 1) = 4 from rfl]; omega⟩
    · rw [hb] at hd ⊢
      exact ⟨2 * q, hr.2 hd, by omega, by omega, by show _ = n % 16384 * 4 + _; omega, by omega, by rw [show (2 : Int) ^ (1 + 1) = 4 from rfl]; omega⟩
  · replace h1 : n / 16384 = d * q + A := h1
    replace h4 : H = n % 16384 * 4 + q := h4
    replace h6 : q < 4 := h6
    have hb : H / 32768 = n / 8192 % 2 := by omega
    have hN : n / 8192 = 2 * (n / 16384) + n / 8192 % 2 := by omega
    have hr := div_raw d A q (n / 16384) (n / 8192) (n / 8192 % 2) h1 hN h3 (by omega) (by omega)
    refine ⟨h2, h3, by omega, by omega, fun hd => ?_, fun hd => ?_⟩
    · rw [hb] at hd ⊢
      obtain ⟨r1, r2, r3⟩ := hr.1 hd
      exact ⟨2 * q + 1, r1, r2, r3, by show _ = n % 8192 * 8 + _; omega, by omega, by rw [show (2 : Int) ^ (2 + 1) = 8 from rfl]; omega⟩
    · rw [hb] at hd ⊢
      exact ⟨2 * q, hr.2 hd, by omega, by omega, by show _ = n % 8192 * 8 + _; omega, by omega, by rw [show (2 : Int) ^ (2 + 1) = 8 from rfl]; omega⟩
  · replace h1 : n / 8192 = d * q + A := h1
    replace h4 : H = n % 8192 * 8 + q := h4
    replace h6 : q < 8 := h6
    have hb : H / 32768 = n / 4096 % 2 := by omega
    have hN : n / 4096 = 2 * (n / 8192) + n / 4096 % 2 := by omega
    have hr := div_raw d A q (n / 8192) (n / 4096) (n / 4096 % 2) h1 hN h3 (by omega) (by omega)
    refine ⟨h2, h3, by omega, by omega, fun hd => ?_, fun hd => ?_⟩
    · rw [hb] at hd ⊢
      obtain ⟨r1, r2, r3⟩ := hr.1 hd
      exact ⟨2 * q + 1, r1, r2, r3, by show _ = n % 4096 * 16 + _; omega, by omega, by rw [show (2 : Int) ^ (3 + 1) = 16 from rfl]; omega⟩
    · rw [hb] at hd ⊢
      exact ⟨2 * q, hr.2 hd, by omega, by omega, by show _ = n % 4096 * 16 + _; omega, by omega, by rw [show (2 : Int) ^ (3 + 1) = 16 from rfl]; omega⟩
  · replace h1 : n / 4096 = d * q + A := h1
    replace h4 : H = n % 4096 * 16 + q := h4
    replace h6 : q < 16 := h6
    have hb : H / 32768 = n / 2048 % 2 := by omega
    have hN : n / 2048 = 2 * (n / 4096) + n / 2048 % 2 := by omega
    have hr := div_raw d A q (n / 4096) (n / 2048) (n / 2048 % 2) h1 hN h3 (by omega) (by omega)
    refine ⟨h2, h3, by omega, by omega, fun hd => ?_, fun hd => ?_⟩
    · rw [hb] at hd ⊢
      obtain ⟨r1, r2, r3⟩ := hr.1 hd
      exact ⟨2 * q + 1, r1, r2, r3, by show _ = n % 2048 * 32 + _; omega, by omega, by rw [show (2 : Int) ^ (4 + 1) = 32 from rfl]; omega⟩
    · rw [hb] at hd ⊢
      exact ⟨2 * q, hr.2 hd, by omega, by omega, by show _ = n % 2048 * 32 + _; omega, by omega, by rw [show (2 : Int) ^ (4 + 1) = 32 from rfl]; omega⟩
  · replace h1 : n / 2048 = d * q + A := h1
    replace h4 : H = n % 2048 * 32 + q := h4
    replace h6 : q < 32 := h6
    have hb : H / 32768 = n / 1024 % 2 := by omega
    have hN : n / 1024 = 2 * (n / 2048) + n / 1024 % 2 := by omega
    have hr := div_raw d A q (n / 2048) (n / 1024) (n / 1024 % 2) h1 hN h3 (by omega) (by omega)
    refine ⟨h2, h3, by omega, by omega, fun hd => ?_, fun hd => ?_⟩
    · rw [hb] at hd ⊢
      obtain ⟨r1, r2, r3⟩ := hr.1 hd
      exact ⟨2 * q + 1, r1, r2, r3, by show _ = n % 1024 * 64 + _; omega, by omega, by rw [show (2 : Int) ^ (5 + 1) = 64 from rfl]; omega⟩
    · rw [hb] at hd ⊢
      exact ⟨2 * q, hr.2 hd, by omega, by omega, by show _ = n % 1024 * 64 + _; omega, by omega, by rw [show (2 : Int) ^ (5 + 1) = 64 from rfl]; omega⟩
  · replace h1 : n / 1024 = d * q + A := h1
    replace h4 : H = n % 1024 * 64 + q := h4
    replace h6 : q < 64 := h6
    have hb : H / 32768 = n / 512 % 2 := by omega
    have hN : n / 512 = 2 * (n / 1024) + n / 512 % 2 := by omega
    have hr := div_raw d A q (n / 1024) (n / 512) (n / 512 % 2) h1 hN h3 (by omega) (by omega)
    refine ⟨h2, h3, by omega, by omega, fun hd => ?_, fun hd => ?_⟩
    · rw [hb] at hd ⊢
      obtain ⟨r1, r2, r3⟩ := hr.1 hd
      exact ⟨2 * q + 1, r1, r2, r3, by show _ = n % 512 * 128 + _; omega, by omega, by rw [show (2 : Int) ^ (6 + 1) = 128 from rfl]; omega⟩
    · rw [hb] at hd ⊢
      exact ⟨2 * q, hr.2 hd, by omega, by omega, by show _ = n % 512 * 128 + _; omega, by omega, by rw [show (2 : Int) ^ (6 + 1) = 128 from rfl]; omega⟩
  · replace h1 : n / 512 = d * q + A := h1
    replace h4 : H = n % 512 * 128 + q := h4
    replace h6 : q < 128 := h6
    have hb : H / 32768 = n / 256 % 2 := by omega
    have hN : n / 256 = 2 * (n / 512) + n / 256 % 2 := by omega
    have hr := div_raw d A q (n / 512) (n / 256) (n / 256 % 2) h1 hN h3 (by omega) (by omega)
    refine ⟨h2, h3, by omega, by omega, fun hd => ?_, fun hd => ?_⟩
    · rw [hb] at hd ⊢
      obtain ⟨r1, r2, r3⟩ := hr.1 hd
      exact ⟨2 * q + 1, r1, r2, r3, by show _ = n % 256 * 256 + _; omega, by omega, by rw [show (2 : Int) ^ (7 + 1) = 256 from rfl]; omega⟩
    · rw [hb] at hd ⊢
      exact ⟨2 * q, hr.2 hd, by omega, by omega, by show _ = n % 256 * 256 + _; omega, by omega, by rw [show (2 : Int) ^ (7 + 1) = 256 from rfl]; omega⟩
  · replace h1 : n / 256 = d * q + A := h1
    replace h4 : H = n % 256 * 256 + q := h4
    replace h6 : q < 256 := h6
    have hb : H / 32768 = n / 128 % 2 := by omega
    have hN : n / 128 = 2 * (n / 256) + n / 128 % 2 := by omega
    have hr := div_raw d A q (n / 256) (n / 128) (n / 128 % 2) h1 hN h3 (by omega) (by omega)
    refine ⟨h2, h3, by omega, by omega, fun hd => ?_, fun hd => ?_⟩
    · rw [hb] at hd ⊢
      obtain ⟨r1, r2, r3⟩ := hr.1 hd
      exact ⟨2 * q + 1, r1, r2, r3, by show _ = n % 128 * 512 + _; omega, by omega, by rw [show (2 : Int) ^ (8 + 1) = 512 from rfl]; omega⟩
    · rw [hb] at hd ⊢
      exact ⟨2 * q, hr.2 hd, by omega, by omega, by show _ = n % 128 * 512 + _; omega, by omega, by rw [show (2 : Int) ^ (8 + 1) = 512 from rfl]; omega⟩
  · replace h1 : n / 128 = d * q + A := h1
    replace h4 : H = n % 128 * 512 + q := h4
    replace h6 : q < 512 := h6
    have hb : H / 32768 = n / 64 % 2 := by omega
    have hN : n / 64 = 2 * (n / 128) + n / 64 % 2 := by omega
    have hr := div_raw d A q (n / 128) (n / 64) (n / 64 % 2) h1 hN h3 (by omega) (by omega)
    refine ⟨h2, h3, by omega, by omega, fun hd => ?_, fun hd => ?_⟩
    · rw [hb] at hd ⊢
      obtain ⟨r1, r2, r3⟩ := hr.1 hd
      exact ⟨2 * q + 1, r1, r2, r3, by show _ = n % 64 * 1024 + _; omega, by omega, by rw [show (2 : Int) ^ (9 + 1) = 1024 from rfl]; omega⟩
    · rw [hb] at hd ⊢
      exact ⟨2 * q, hr.2 hd, by omega, by omega, by show _ = n % 64 * 1024 + _; omega, by omega, by rw [show (2 : Int) ^ (9 + 1) = 1024 from rfl]; omega⟩
  · replace h1 : n / 64 = d * q + A := h1
    replace h4 : H = n % 64 * 1024 + q := h4
    replace h6 : q < 1024 := h6
    have hb : H / 32768 = n / 32 % 2 := by omega
    have hN : n / 32 = 2 * (n / 64) + n / 32 % 2 := by omega
    have hr := div_raw d A q (n / 64) (n / 32) (n / 32 % 2) h1 hN h3 (by omega) (by omega)
    refine ⟨h2, h3, by omega, by omega, fun hd => ?_, fun hd => ?_⟩
    · rw [hb] at hd ⊢
      obtain ⟨r1, r2, r3⟩ := hr.1 hd
      exact ⟨2 * q + 1, r1, r2, r3, by show _ = n % 32 * 2048 + _; omega, by omega, by rw [show (2 : Int) ^ (10 + 1) = 2048 from rfl]; omega⟩
    · rw [hb] at hd ⊢
      exact ⟨2 * q, hr.2 hd, by omega, by omega, by show _ = n % 32 * 2048 + _; omega, by omega, by rw [show (2 : Int) ^ (10 + 1) = 2048 from rfl]; omega⟩
  · replace h1 : n / 32 = d * q + A := h1
    replace h4 : H = n % 32 * 2048 + q := h4
    replace h6 : q < 2048 := h6
    have hb : H / 32768 = n / 16 % 2 := by omega
    have hN : n / 16 = 2 * (n / 32) + n / 16 % 2 := by omega
    have hr := div_raw d A q (n / 32) (n / 16) (n / 16 % 2) h1 hN h3 (by omega) (by omega)
    refine ⟨h2, h3, by omega, by omega, fun hd => ?_, fun hd => ?_⟩
    · rw [hb] at hd ⊢
      obtain ⟨r1, r2, r3⟩ := hr.1 hd
      exact ⟨2 * q + 1, r1, r2, r3, by show _ = n % 16 * 4096 + _; omega, by omega, by rw [show (2 : Int) ^ (11 + 1) = 4096 from rfl]; omega⟩
    · rw [hb] at hd ⊢
      exact ⟨2 * q, hr.2 hd, by omega, by omega, by show _ = n % 16 * 4096 + _; omega, by omega, by rw [show (2 : Int) ^ (11 + 1) = 4096 from rfl]; omega⟩
  · replace h1 : n / 16 = d * q + A := h1
    replace h4 : H = n % 16 * 4096 + q := h4
    replace h6 : q < 4096 := h6
    have hb : H / 32768 = n / 8 % 2 := by omega
    have hN : n / 8 = 2 * (n / 16) + n / 8 % 2 := by omega
    have hr := div_raw d A q (n / 16) (n / 8) (n / 8 % 2) h1 hN h3 (by omega) (by omega)
    refine ⟨h2, h3, by omega, by omega, fun hd => ?_, fun hd => ?_⟩
    · rw [hb] at hd ⊢
      obtain ⟨r1, r2, r3⟩ := hr.1 hd
      exact ⟨2 * q + 1, r1, r2, r3, by show _ = n % 8 * 8192 + _; omega, by omega, by rw [show (2 : Int) ^ (12 + 1) = 8192 from rfl]; omega⟩
    · rw [hb] at hd ⊢
      exact ⟨2 * q, hr.2 hd, by omega, by omega, by show _ = n % 8 * 8192 + _; omega, by omega, by rw [show (2 : Int) ^ (12 + 1) = 8192 from rfl]; omega⟩
  · replace h1 : n / 8 = d * q + A := h1
    replace h4 : H = n % 8 * 8192 + q := h4
    replace h6 : q < 8192 := h6
    have hb : H / 32768 = n / 4 % 2 := by omega
    have hN : n / 4 = 2 * (n / 8) + n / 4 % 2 := by omega
    have hr := div_raw d A q (n / 8) (n / 4) (n / 4 % 2) h1 hN h3 (by omega) (by omega)
    refine ⟨h2, h3, by omega, by omega, fun hd => ?_, fun hd => ?_⟩
    · rw [hb] at hd ⊢
      obtain ⟨r1, r2, r3⟩ := hr.1 hd
      exact ⟨2 * q + 1, r1, r2, r3, by show _ = n % 4 * 16384 + _; omega, by omega, by rw [show (2 : Int) ^ (13 + 1) = 16384 from rfl]; omega⟩
    · rw [hb] at hd ⊢
      exact ⟨2 * q, hr.2 hd, by omega, by omega, by show _ = n % 4 * 16384 + _; omega, by omega, by rw [show (2 : Int) ^ (13 + 1) = 16384 from rfl]; omega⟩
  · replace h1 : n / 4 = d * q + A := h1
    replace h4 : H = n % 4 * 16384 + q := h4
    replace h6 : q < 16384 := h6
    have hb : H / 32768 = n / 2 % 2 := by omega
    have hN : n / 2 = 2 * (n / 4) + n / 2 % 2 := by omega
    have hr := div_raw d A q (n / 4) (n / 2) (n / 2 % 2) h1 hN h3 (by omega) (by omega)
    refine ⟨h2, h3, by omega, by omega, fun hd => ?_, fun hd => ?_⟩
    · rw [hb] at hd ⊢
      obtain ⟨r1, r2, r3⟩ := hr.1 hd
      exact ⟨2 * q + 1, r1, r2, r3, by show _ = n % 2 * 32768 + _; omega, by omega, by rw [show (2 : Int) ^ (14 + 1) = 32768 from rfl]; omega⟩
    · rw [hb] at hd ⊢
      exact ⟨2 * q, hr.2 hd, by omega, by omega, by show _ = n % 2 * 32768 + _; omega, by omega, by rw [show (2 : Int) ^ (14 + 1) = 32768 from rfl]; omega⟩
  · replace h1 : n / 2 = d * q + A := h1
    replace h4 : H = n % 2 * 32768 + q := h4
    replace h6 : q < 32768 := h6
    have hb : H / 32768 = n / 1 % 2 := by omega
    have hN : n / 1 = 2 * (n / 2) + n / 1 % 2 := by omega
    have hr := div_raw d A q (n / 2) (n / 1) (n / 1 % 2) h1 hN h3 (by omega) (by omega)
    refine ⟨h2, h3, by omega, by omega, fun hd => ?_, fun hd => ?_⟩
    · rw [hb] at hd ⊢
      obtain ⟨r1, r2, r3⟩ := hr.1 hd
      exact ⟨2 * q + 1, r1, r2, r3, by show _ = n % 1 * 65536 + _; omega, by omega, by rw [show (2 : Int) ^ (15 + 1) = 65536 from rfl]; omega⟩
    · rw [hb] at hd ⊢
      exact ⟨2 * q, hr.2 hd, by omega, by omega, by show _ = n % 1 * 65536 + _; omega, by omega, by rw [show (2 : Int) ^ (15 + 1) = 65536 from rfl]; omega⟩
theorem wSBC1 (a x y s m v : Int) (F : Fl) (w : World) (a0 : 0 ≤ a) (a1 : a ≤ 255) (v0 : 0 ≤ v) (v1 : v ≤ 255) (hd : F.d = false) (hc : F.c = true) :
    Calls Tryd.prog 9 #[.int .i64 43, .agg #[.int .u8 a, .int .u8 x, .int .u8 y, .int .u8 s, .int .u8 (F.val : Nat), .int .u8 m], .int .u8 v] w fun e w' => ∃ G' : Fl, G'.c = decide (0 ≤ a - v) ∧ G'.d = false ∧ e = .returned (.agg #[.int .u8 ((a - v) % 256), .int .u8 (x), .int .u8 y, .int .u8 s, .int .u8 (G'.val : Nat), .int .u8 (v)]) ∧ Below w.heap.size w w' := by
  have h := wSBC a x y s m v F w a0 a1 v0 v1 hd
  rw [hc, show a - v - (1 - ci true) = a - v by rw [show ci true = 1 from rfl]; omega] at h
  exact h
theorem di_bits {h l : Int} (l0 : 0 ≤ l) (l1 : l ≤ 255) : (256 * h + l) / 32768 = h / 128 ∧ (256 * h + l) * 2 % 65536 = 256 * (h * 2 % 256 + l / 128) + l * 2 % 256 := by omega
theorem ci_ge (x : Int) (x0 : 0 ≤ x) (x1 : x ≤ 255) : ci (decide (128 ≤ x)) = x / 128 := by
  by_cases h : 128 ≤ x
  · rw [decide_eq_true h, show ci true = 1 from rfl]; omega
  · rw [decide_eq_false h, show ci false = 0 from rfl]; omega
set_option maxHeartbeats 8000000 in
theorem law_aluDivides (a0 a1 a2 : Int) (F : Fl) (w : World) (w0 : (Lit.int .u8 a0).wf = true) (w1 : (Lit.int .u8 a1).wf = true) (w2 : (Lit.int .u8 a2).wf = true) (T : Tabs w) :
    Calls Tryd.prog 7 #[.int .u8 a0, .int .u8 a1, .int .u8 a2, .int .u8 (F.val : Nat)] w fun e w' => e = .returned (.bool true) ∧ Below w.heap.size w w' := by
  obtain ⟨n0, n1⟩ := wf8 w0
  obtain ⟨m0, m1⟩ := wf8 w1
  obtain ⟨d0, d1⟩ := wf8 w2
  clear w0 w1 w2
  by_cases hz : a2 = 0
  · subst hz
    go_enter Tryd.func7, Tryd.ntmps7
    go_wp2
    go_ret
    exact ⟨rfl, Below.refl _ _⟩
  have hz' : (a2 == 0) = false := by simp [hz]
  have HT : Hid _ := T
  have HS : Hid _ := DI.start (256 * a0 + a1) a2 (by omega) (by omega) (by omega)
  go_enter Tryd.func7, Tryd.ntmps7
  go_upto_region 4 with fail
  go_cut [10] (fun q wx => ∃ (b : Nat) (G' : Fl), q = .pointer (some ⟨b, 0, none⟩) ∧ w.heap.size ≤ b ∧ G'.d = false ∧ Blk wx b #[.int .u8 (0), .int .u8 (0), .int .u8 0, .int .u8 0, .int .u8 (G'.val : Nat), .int .u8 (0)] ∧ Below w.heap.size w wx)
  case first =>
    go_wp2_with (go_at_call 9; refine (wCLD _ _ _ _ _ _ _ _ T.s).mono ?_; rintro e w1 ⟨G', e1, e2, rfl, hb1⟩)
    go_meet
    exact ⟨_, G', rfl, hb1.size, e2, by first | exact Blk.new _ _ | exact (Blk.new _ _).set6 _ _ _ _ _ _, by first | exact hb1.alloc hb1.size _ | exact below_set6 (hb1.alloc hb1.size _) hb1.size _ _ _ _ _ _⟩
  case rest =>
    clear T
    obtain ⟨b, G, rfl, hbB, hd, hB, hw⟩ := hcut
    have hcell := hB.cell
    have hfree := hB.free
    have hlt := hB.lt
    go_upto_region 5 with fail
    go_cut [] (fun wx => ∃ G' : Fl, G'.c = G.c ∧ G'.d = false ∧ Blk wx b #[.int .u8 (0), .int .u8 (0), .int .u8 0, .int .u8 0, .int .u8 (G'.val : Nat), .int .u8 (0)] ∧ Below w.heap.size w wx)
    case first =>
      go_wp2_with (go_at_call 9; refine (wLDA _ _ _ _ _ _ _ _).mono ?_; rintro e w1 ⟨G', e1, e2, rfl, hb1⟩; have hk1 := hB.below hlt hb1; have hcell1 := hk1.cell; have hfree1 := hk1.free)
      go_meet
      exact ⟨G', e1, e2.trans hd, hk1.set6 _ _ _ _ _ _, below_set6 (hw.trans (hb1.mono hw.size)) hbB _ _ _ _ _ _⟩
    case rest =>
    clear hB hw hcell hfree hlt
    obtain ⟨G1, c_G1, d_G1, hB, hw⟩ := hcut
    have K_G1 : Hid _ := c_G1
    clear c_G1
    have hcell := hB.cell
    have hfree := hB.free
    have hlt := hB.lt
    go_wp2
    clear hcell hfree hlt
    go_loopw [0, 1, 11] (fun h l i wr => ∃ (k : Nat) (A M h' l' : Int) (G : Fl), k ≤ 16 ∧ i = .int .i64 k ∧ h = .int .u8 h' ∧ l = .int .u8 l' ∧ 0 ≤ h' ∧ h' ≤ 255 ∧ 0 ≤ l' ∧ l' ≤ 255 ∧ G.d = false ∧ Hid (DI (256 * a0 + a1) a2 k A (256 * h' + l')) ∧ Blk wr b #[.int .u8 (A), .int .u8 (0), .int .u8 0, .int .u8 0, .int .u8 (G.val : Nat), .int .u8 (M)] ∧ Below w.heap.size w wr) (fun _ _ i _ => 16 - (intOf i).toNat)
    case atStart => exact ⟨0, 0, 0, a0, a1, G1, by omega, rfl, rfl, rfl, n0, n1, m0, m1, d_G1, HS.out, hB, hw⟩
    case round =>
      clear hB hw d_G1 K_G1 hd HS
      obtain ⟨k, A, M, h, l, G, hk, rfl, rfl, rfl, h0, h1, l0, l1, hd, HI, hB, hw⟩ := hrel
      have hcell := hB.cell
      have hfree := hB.free
      have hlt := hB.lt
      by_cases hk16 : k = 16
      · subst hk16
        obtain ⟨f1, f2⟩ := DI.last HI.out
        clear HI
        have fd : 0 < a2 := by omega
        have hg : (256 * h + l == (256 * a0 + a1) / a2) = true := by rw [beq_iff_eq]; exact f2
        have hg2 : (A == (256 * a0 + a1) % a2) = true := by rw [beq_iff_eq]; exact f1
        have A0 : 0 ≤ A := by rw [f1]; exact Int.emod_nonneg _ (by omega)
        have A1 : A < a2 := by rw [f1]; exact Int.emod_lt_of_pos _ fd
        clear f1 f2
        go_wp2
        go_region
        all_goals
          go_wp2
          go_ret
          exact ⟨rfl, hw.drew⟩
      · have h16 : (k : Int) < 16 := by omega
        obtain ⟨A0, A1, -, -, S1, S2⟩ := DI.step (k := k) (by omega) (by omega) (by omega) HI.out
        obtain ⟨e1, e2⟩ := di_bits (h := h) l0 l1
        rw [e1, e2] at S1 S2
        have HS1 : Hid _ := S1
        have HS2 : Hid _ := S2
        clear S1 S2 e1 e2 HI
        go_upto_region 9 with fail
        go_cut [] (fun wx => ∃ G' : Fl, G'.c = decide (128 ≤ l) ∧ G'.d = false ∧ Blk wx b #[.int .u8 (A), .int .u8 (0), .int .u8 0, .int .u8 0, .int .u8 (G'.val : Nat), .int .u8 (l * 2 % 256)] ∧ Below w.heap.size w wx)
        case first =>
          go_wp2_with (go_at_call 9; refine (wASL _ _ _ _ _ _ _ _ (by omega) (by omega)).mono ?_; rintro e w1 ⟨G', e1, e2, rfl, hb1⟩; have hk1 := hB.below hlt hb1; have hcell1 := hk1.cell; have hfree1 := hk1.free)
          go_meet
          exact ⟨G', e1, e2.trans hd, hk1.set6 _ _ _ _ _ _, below_set6 (hw.trans (hb1.mono hw.size)) hbB _ _ _ _ _ _⟩
        case rest =>
        clear hB hw hcell hfree hlt
        obtain ⟨G2, c_G2, d_G2, hB, hw⟩ := hcut
        have K_G2 : Hid _ := c_G2
        clear c_G2
        have hcell := hB.cell
        have hfree := hB.free
        have hlt := hB.lt
        go_upto_region 11 with fail
        go_cut [] (fun wx => ∃ G' : Fl, G'.c = decide (128 ≤ h) ∧ G'.d = false ∧ Blk wx b #[.int .u8 (A), .int .u8 (0), .int .u8 0, .int .u8 0, .int .u8 (G'.val : Nat), .int .u8 (h * 2 % 256 + ci G2.c)] ∧ Below w.heap.size w wx)
        case first =>
          go_wp2_with (go_at_call 9; refine (wROL _ _ _ _ _ _ _ _ (by omega) (by omega)).mono ?_; rintro e w1 ⟨G', e1, e2, rfl, hb1⟩; have hk1 := hB.below hlt hb1; have hcell1 := hk1.cell; have hfree1 := hk1.free)
          go_meet
          exact ⟨G', e1, e2.trans d_G2, hk1.set6 _ _ _ _ _ _, below_set6 (hw.trans (hb1.mono hw.size)) hbB _ _ _ _ _ _⟩
        case rest =>
        clear hB hw hcell hfree hlt
        obtain ⟨G3, c_G3, d_G3, hB, hw⟩ := hcut
        have K_G3 : Hid _ := c_G3
        clear c_G3
        have hcell := hB.cell
        have hfree := hB.free
        have hlt := hB.lt
        have b2 := ci_bd G2.c
        have b3 := ci_bd G3.c
        go_upto_region 13 with fail
        go_cut [] (fun wx => ∃ G' : Fl, G'.c = decide (128 ≤ A) ∧ G'.d = false ∧ Blk wx b #[.int .u8 (A * 2 % 256 + ci G3.c), .int .u8 (0), .int .u8 0, .int .u8 0, .int .u8 (G'.val : Nat), .int .u8 (h * 2 % 256 + ci G2.c)] ∧ Below w.heap.size w wx)
        case first =>
          go_wp2_with (go_at_call 12; refine (wAccROL _ _ _ _ _ _ _ (by omega) (by omega)).mono ?_; rintro e w1 ⟨G', e1, e2, rfl, hb1⟩; have hk1 := hB.below hlt hb1; have hcell1 := hk1.cell; have hfree1 := hk1.free)
          go_meet
          exact ⟨G', e1, e2.trans d_G3, hk1.set6 _ _ _ _ _ _, below_set6 (hw.trans (hb1.mono hw.size)) hbB _ _ _ _ _ _⟩
        case rest =>
        clear hB hw hcell hfree hlt
        obtain ⟨G4, c_G4, d_G4, hB, hw⟩ := hcut
        have K_G4 : Hid _ := c_G4
        clear c_G4
        have hcell := hB.cell
        have hfree := hB.free
        have hlt := hB.lt
        have q2 : ci G2.c = l / 128 := by rw [K_G2.out]; exact ci_ge l l0 l1
        have q3 : ci G3.c = h / 128 := by rw [K_G3.out]; exact ci_ge h h0 h1
        have HQ : Hid _ := And.intro q2 q3
        clear q2 q3
        by_cases g1 : 128 ≤ A
        · have HC : Hid (G4.c = true) := by unfold Hid; rw [K_G4.out]; exact decide_eq_true g1
          go_upto_region 17 with (go_at_call 14; refine (taken_any _ _ _ (HT.out.on hw)).mono ?_; rintro e w9 ⟨rfl, rfl⟩; rw [tk_bcs, HC.out])
          go_cut [] (fun wx => ∃ G' : Fl, G'.c = decide (0 ≤ A * 2 % 256 + ci G3.c - a2) ∧ G'.d = false ∧ Blk wx b #[.int .u8 ((A * 2 % 256 + ci G3.c - a2) % 256), .int .u8 (0), .int .u8 0, .int .u8 0, .int .u8 (G'.val : Nat), .int .u8 (a2)] ∧ Below w.heap.size w wx)
          case first =>
            go_wp2_with (go_at_call 9; refine (wSBC1 _ _ _ _ _ _ _ _ (by omega) (by omega) (by omega) (by omega) d_G4 HC.out).mono ?_; rintro e w1 ⟨G', e1, e2, rfl, hb1⟩; have hk1 := hB.below hlt hb1; have hcell1 := hk1.cell; have hfree1 := hk1.free)
            go_meet
            exact ⟨G', e1, e2, hk1.set6 _ _ _ _ _ _, below_set6 (hw.trans (hb1.mono hw.size)) hbB _ _ _ _ _ _⟩
          case rest =>
          clear hB hw hcell hfree hlt
          obtain ⟨G6, c_G6, d_G6, hB, hw⟩ := hcut
          have K_G6 : Hid _ := c_G6
          clear c_G6
          have hcell := hB.cell
          have hfree := hB.free
          have hlt := hB.lt
          go_upto_region 18 with fail
          go_cut [] (fun wx => ∃ G' : Fl, G'.c = G6.c ∧ G'.d = false ∧ Blk wx b #[.int .u8 ((A * 2 % 256 + ci G3.c - a2) % 256), .int .u8 (0), .int .u8 0, .int .u8 0, .int .u8 (G'.val : Nat), .int .u8 ((l * 2 + 1) % 256)] ∧ Below w.heap.size w wx)
          case first =>
            go_wp2_with (go_at_call 9; refine (wINC _ _ _ _ _ _ _ _).mono ?_; rintro e w1 ⟨G', e1, e2, rfl, hb1⟩; have hk1 := hB.below hlt hb1; have hcell1 := hk1.cell; have hfree1 := hk1.free)
            go_meet
            exact ⟨G', e1, e2.trans d_G6, hk1.set6 _ _ _ _ _ _, below_set6 (hw.trans (hb1.mono hw.size)) hbB _ _ _ _ _ _⟩
          case rest =>
          clear hB hw hcell hfree hlt
          obtain ⟨G7, c_G7, d_G7, hB, hw⟩ := hcut
          have K_G7 : Hid _ := c_G7
          clear c_G7
          have hcell := hB.cell
          have hfree := hB.free
          have hlt := hB.lt
          go_wp2
          obtain ⟨q2, q3⟩ := HQ.out
          have hfin := HS1.out (by omega)
          rw [show 2 * A + h / 128 - a2 = (A * 2 % 256 + ci G3.c - a2) % 256 by omega, show 256 * (h * 2 % 256 + l / 128) + l * 2 % 256 + 1 = 256 * (h * 2 % 256 + ci G2.c) + (l * 2 + 1) % 256 by omega] at hfin
          go_roundw
          case rel => exact ⟨k + 1, _, _, _, _, G7, by omega, by go_num, rfl, rfl, by omega, by omega, by omega, by omega, d_G7, hfin, hB, hw⟩
          case measure => simp [intOf]; omega
        · have HC : Hid (G4.c = false) := by unfold Hid; rw [K_G4.out]; exact decide_eq_false g1
          go_upto_region 15 with (go_at_call 14; refine (taken_any _ _ _ (HT.out.on hw)).mono ?_; rintro e w9 ⟨rfl, rfl⟩; rw [tk_bcs, HC.out])
          go_cut [] (fun wx => ∃ G' : Fl, G'.c = decide (a2 ≤ A * 2 % 256 + ci G3.c) ∧ G'.d = false ∧ Blk wx b #[.int .u8 (A * 2 % 256 + ci G3.c), .int .u8 (0), .int .u8 0, .int .u8 0, .int .u8 (G'.val : Nat), .int .u8 (a2)] ∧ Below w.heap.size w wx)
          case first =>
            go_wp2_with (go_at_call 9; refine (wCMP _ _ _ _ _ _ _ _).mono ?_; rintro e w1 ⟨G', e1, e2, rfl, hb1⟩; have hk1 := hB.below hlt hb1; have hcell1 := hk1.cell; have hfree1 := hk1.free)
            go_meet
            exact ⟨G', e1, e2.trans d_G4, hk1.set6 _ _ _ _ _ _, below_set6 (hw.trans (hb1.mono hw.size)) hbB _ _ _ _ _ _⟩
          case rest =>
          clear hB hw hcell hfree hlt
          obtain ⟨G5, c_G5, d_G5, hB, hw⟩ := hcut
          have K_G5 : Hid _ := c_G5
          clear c_G5
          have hcell := hB.cell
          have hfree := hB.free
          have hlt := hB.lt
          by_cases g2 : a2 ≤ A * 2 % 256 + ci G3.c
          · have HD : Hid (G5.c = true) := by unfold Hid; rw [K_G5.out]; exact decide_eq_true g2
            go_upto_region 17 with (go_at_call 14; refine (taken_any _ _ _ (HT.out.on hw)).mono ?_; rintro e w9 ⟨rfl, rfl⟩; rw [tk_bcc, HD.out])
            go_cut [] (fun wx => ∃ G' : Fl, G'.c = decide (0 ≤ A * 2 % 256 + ci G3.c - a2) ∧ G'.d = false ∧ Blk wx b #[.int .u8 ((A * 2 % 256 + ci G3.c - a2) % 256), .int .u8 (0), .int .u8 0, .int .u8 0, .int .u8 (G'.val : Nat), .int .u8 (a2)] ∧ Below w.heap.size w wx)
            case first =>
              go_wp2_with (go_at_call 9; refine (wSBC1 _ _ _ _ _ _ _ _ (by omega) (by omega) (by omega) (by omega) d_G5 HD.out).mono ?_; rintro e w1 ⟨G', e1, e2, rfl, hb1⟩; have hk1 := hB.below hlt hb1; have hcell1 := hk1.cell; have hfree1 := hk1.free)
              go_meet
              exact ⟨G', e1, e2, hk1.set6 _ _ _ _ _ _, below_set6 (hw.trans (hb1.mono hw.size)) hbB _ _ _ _ _ _⟩
            case rest =>
            clear hB hw hcell hfree hlt
            obtain ⟨G6, c_G6, d_G6, hB, hw⟩ := hcut
            have K_G6 : Hid _ := c_G6
            clear c_G6
            have hcell := hB.cell
            have hfree := hB.free
            have hlt := hB.lt
            go_upto_region 18 with fail
            go_cut [] (fun wx => ∃ G' : Fl, G'.c = G6.c ∧ G'.d = false ∧ Blk wx b #[.int .u8 ((A * 2 % 256 + ci G3.c - a2) % 256), .int .u8 (0), .int .u8 0, .int .u8 0, .int .u8 (G'.val : Nat), .int .u8 ((l * 2 + 1) % 256)] ∧ Below w.heap.size w wx)
            case first =>
              go_wp2_with (go_at_call 9; refine (wINC _ _ _ _ _ _ _ _).mono ?_; rintro e w1 ⟨G', e1, e2, rfl, hb1⟩; have hk1 := hB.below hlt hb1; have hcell1 := hk1.cell; have hfree1 := hk1.free)
              go_meet
              exact ⟨G', e1, e2.trans d_G6, hk1.set6 _ _ _ _ _ _, below_set6 (hw.trans (hb1.mono hw.size)) hbB _ _ _ _ _ _⟩
            case rest =>
            clear hB hw hcell hfree hlt
            obtain ⟨G7, c_G7, d_G7, hB, hw⟩ := hcut
            have K_G7 : Hid _ := c_G7
            clear c_G7
            have hcell := hB.cell
            have hfree := hB.free
            have hlt := hB.lt
            go_wp2
            obtain ⟨q2, q3⟩ := HQ.out
            have hfin := HS1.out (by omega)
            rw [show 2 * A + h / 128 - a2 = (A * 2 % 256 + ci G3.c - a2) % 256 by omega, show 256 * (h * 2 % 256 + l / 128) + l * 2 % 256 + 1 = 256 * (h * 2 % 256 + ci G2.c) + (l * 2 + 1) % 256 by omega] at hfin
            go_roundw
            case rel => exact ⟨k + 1, _, _, _, _, G7, by omega, by go_num, rfl, rfl, by omega, by omega, by omega, by omega, d_G7, hfin, hB, hw⟩
            case measure => simp [intOf]; omega
          · have HD : Hid (G5.c = false) := by unfold Hid; rw [K_G5.out]; exact decide_eq_false g2
            go_wp2_with (go_at_call 14; refine (taken_any _ _ _ (HT.out.on hw)).mono ?_; rintro e w9 ⟨rfl, rfl⟩; rw [tk_bcc, HD.out])
            obtain ⟨q2, q3⟩ := HQ.out
            have hfin := HS2.out (by omega)
            rw [show 2 * A + h / 128 = A * 2 % 256 + ci G3.c by omega, show 256 * (h * 2 % 256 + l / 128) + l * 2 % 256 = 256 * (h * 2 % 256 + ci G2.c) + l * 2 % 256 by omega] at hfin
            go_roundw
            case rel => exact ⟨k + 1, _, _, _, _, G5, by omega, by go_num, rfl, rfl, by omega, by omega, by omega, by omega, d_G5, hfin, hB, hw⟩
            case measure => simp [intOf]; omega
end Go.Proofs.YthdmkmbgncbmgaaDoor
