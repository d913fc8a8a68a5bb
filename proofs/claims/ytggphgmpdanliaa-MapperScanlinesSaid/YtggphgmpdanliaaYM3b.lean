/-
  What chrBank of an MMC3 answers; conditions: the cells that it reads hold the board's numbers.
-/
import Derived.Test.YtggphgmpdanliaaYA
set_option linter.unusedSimpArgs false
set_option linter.unusedVariables false
namespace Go.Proofs.Ytggphgmpdanliaa
open Go.RowKit Classical
set_option maxRecDepth 100000 in
set_option maxHeartbeats 1000000 in
theorem chr4_any (w : World) (m : Nat) (b : Bd) (x : Int) (S : Sh w m b) (M : M4 w m b) (s0 : 0 ≤ b.sel) (s1 : b.sel ≤ 255) (q0 : ∀ i, 0 ≤ b.r.getD i 0) (q1 : ∀ i, b.r.getD i 0 ≤ 255) (p0 : 8 ≤ b.chr) (p1 : b.chr ≤ 512) (n0 : 0 ≤ x) (n1 : x ≤ 7) (hk : b.kind = 4) :
    Calls Try.prog 110 #[.pointer (some ⟨m, 0, none⟩), .int .i64 x] w fun e w' => e = .returned (.int .i64 (chrB b x)) ∧ ∃ n, w' = w.drewN n := by
  have SBH : Hid (chrB b x = (let t := if b.sel / 128 % 2 = 1 then (x + 4) % 8 else x
     if t < 2 then b.r.getD 0 0 - b.r.getD 0 0 % 2 + t else if t < 4 then b.r.getD 1 0 - b.r.getD 1 0 % 2 + (t - 2) else b.r.getD (t - 2).toNat 0) % b.chr) := by unfold Hid; simp [chrB, chrN, hk]
  have e128 := bit128 s0 s1
  have c7 := M.c7
  have c8 : w.cell? ⟨m, 8, none⟩ = some (.int .u8 (b.r.getD 0 0)) := M.r 0 (by decide)
  have ga0 := q0 0
  have gb0 := q1 0
  have c9 : w.cell? ⟨m, 9, none⟩ = some (.int .u8 (b.r.getD 1 0)) := M.r 1 (by decide)
  have ga1 := q0 1
  have gb1 := q1 1
  have c10 : w.cell? ⟨m, 10, none⟩ = some (.int .u8 (b.r.getD 2 0)) := M.r 2 (by decide)
  have ga2 := q0 2
  have gb2 := q1 2
  have c11 : w.cell? ⟨m, 11, none⟩ = some (.int .u8 (b.r.getD 3 0)) := M.r 3 (by decide)
  have ga3 := q0 3
  have gb3 := q1 3
  have c12 : w.cell? ⟨m, 12, none⟩ = some (.int .u8 (b.r.getD 4 0)) := M.r 4 (by decide)
  have ga4 := q0 4
  have gb4 := q1 4
  have c13 : w.cell? ⟨m, 13, none⟩ = some (.int .u8 (b.r.getD 5 0)) := M.r 5 (by decide)
  have ga5 := q0 5
  have gb5 := q1 5
  have v0 := even8 ga0 gb0
  have v1 := even8 ga1 gb1
  have PH : Hid _ := fun (n : Int) (q0 : 0 ≤ n) (q1 : n ≤ 300) => inChr_any w.drew m b n S.drew p0 p1 q0 (by omega)
  have sb : b.sel / 128 % 2 = 0 ∨ b.sel / 128 % 2 = 1 := by omega
  have hx : x = 0 ∨ x = 1 ∨ x = 2 ∨ x = 3 ∨ x = 4 ∨ x = 5 ∨ x = 6 ∨ x = 7 := by omega
  obtain ⟨v, hv⟩ : ∃ v, chrB b x = v := ⟨_, rfl⟩
  rw [hv]
  have HV : Hid _ := hv
  have h00 : 0 ≤ b.r.getD 0 0 - b.r.getD 0 0 % 2 := by omega
  have h01 : b.r.getD 0 0 - b.r.getD 0 0 % 2 ≤ 254 := by omega
  have h10 : 0 ≤ b.r.getD 1 0 - b.r.getD 1 0 % 2 := by omega
  have h11 : b.r.getD 1 0 - b.r.getD 1 0 % 2 ≤ 254 := by omega
  clear S M hk q0 q1 s0 s1 hv n0 n1
  rcases sb with sb | sb <;> rcases hx with rfl | rfl | rfl | rfl | rfl | rfl | rfl | rfl
  · have HB : Hid (chrB b 0 = (b.r.getD 0 0 - b.r.getD 0 0 % 2 + 0) % b.chr) := by unfold Hid; rw [SBH.out]; simp [sb]
    rw [sb] at e128
    clear SBH sb c9 c10 c11 c12 c13
    have wz0 : IntKind.i64.wrap 0 = 0 := by decide
    have wz1 : IntKind.i64.wrap 1 = 1 := by decide
    have wz2 : IntKind.i64.wrap 2 = 2 := by decide
    have wz3 : IntKind.i64.wrap 3 = 3 := by decide
    have wz4 : IntKind.i64.wrap 4 = 4 := by decide
    have wz5 : IntKind.i64.wrap 5 = 5 := by decide
    have xf : bits .xor .i64 0 4 = 4 := by decide
    generalize b.r.getD 0 0 = rr at *
    generalize rr - rr % 2 = re at *
    go_enter Try.func110, Try.ntmps110
    go_upto_region 4 with fail
    go_still_tail 15, (by kernel_rfl)
    go_wp2_with fail
    refine (PH.out _ (by omega) (by omega)).mono ?_
    rintro e W ⟨rfl, rfl⟩
    go_wp2
    go_ret
    exact ⟨by rw [← HV.out, HB.out]; first | rfl | (simp only [Int.add_zero]; rfl), 1, rfl⟩
  · have HB : Hid (chrB b 1 = (b.r.getD 0 0 - b.r.getD 0 0 % 2 + 1) % b.chr) := by unfold Hid; rw [SBH.out]; simp [sb]
    rw [sb] at e128
    clear SBH sb c9 c10 c11 c12 c13
    have wz0 : IntKind.i64.wrap 0 = 0 := by decide
    have wz1 : IntKind.i64.wrap 1 = 1 := by decide
    have wz2 : IntKind.i64.wrap 2 = 2 := by decide
    have wz3 : IntKind.i64.wrap 3 = 3 := by decide
    have wz4 : IntKind.i64.wrap 4 = 4 := by decide
    have wz5 : IntKind.i64.wrap 5 = 5 := by decide
    have xf : bits .xor .i64 1 4 = 5 := by decide
    generalize b.r.getD 0 0 = rr at *
    generalize rr - rr % 2 = re at *
    go_enter Try.func110, Try.ntmps110
    go_upto_region 4 with fail
    go_still_tail 15, (by kernel_rfl)
    go_wp2_with fail
    refine (PH.out _ (by omega) (by omega)).mono ?_
    rintro e W ⟨rfl, rfl⟩
    go_wp2
    go_ret
    exact ⟨by rw [← HV.out, HB.out]; first | rfl | (simp only [Int.add_zero]; rfl), 1, rfl⟩
  · have HB : Hid (chrB b 2 = (b.r.getD 1 0 - b.r.getD 1 0 % 2 + 0) % b.chr) := by unfold Hid; rw [SBH.out]; simp [sb]
    rw [sb] at e128
    clear SBH sb c8 c10 c11 c12 c13
    have wz0 : IntKind.i64.wrap 0 = 0 := by decide
    have wz1 : IntKind.i64.wrap 1 = 1 := by decide
    have wz2 : IntKind.i64.wrap 2 = 2 := by decide
    have wz3 : IntKind.i64.wrap 3 = 3 := by decide
    have wz4 : IntKind.i64.wrap 4 = 4 := by decide
    have wz5 : IntKind.i64.wrap 5 = 5 := by decide
    have xf : bits .xor .i64 2 4 = 6 := by decide
    generalize b.r.getD 1 0 = rr at *
    generalize rr - rr % 2 = re at *
    go_enter Try.func110, Try.ntmps110
    go_upto_region 4 with fail
    go_still_tail 15, (by kernel_rfl)
    go_wp2_with fail
    refine (PH.out _ (by omega) (by omega)).mono ?_
    rintro e W ⟨rfl, rfl⟩
    go_wp2
    go_ret
    exact ⟨by rw [← HV.out, HB.out]; first | rfl | (simp only [Int.add_zero]; rfl), 1, rfl⟩
  · have HB : Hid (chrB b 3 = (b.r.getD 1 0 - b.r.getD 1 0 % 2 + 1) % b.chr) := by unfold Hid; rw [SBH.out]; simp [sb]
    rw [sb] at e128
    clear SBH sb c8 c10 c11 c12 c13
    have wz0 : IntKind.i64.wrap 0 = 0 := by decide
    have wz1 : IntKind.i64.wrap 1 = 1 := by decide
    have wz2 : IntKind.i64.wrap 2 = 2 := by decide
    have wz3 : IntKind.i64.wrap 3 = 3 := by decide
    have wz4 : IntKind.i64.wrap 4 = 4 := by decide
    have wz5 : IntKind.i64.wrap 5 = 5 := by decide
    have xf : bits .xor .i64 3 4 = 7 := by decide
    generalize b.r.getD 1 0 = rr at *
    generalize rr - rr % 2 = re at *
    go_enter Try.func110, Try.ntmps110
    go_upto_region 4 with fail
    go_still_tail 15, (by kernel_rfl)
    go_wp2_with fail
    refine (PH.out _ (by omega) (by omega)).mono ?_
    rintro e W ⟨rfl, rfl⟩
    go_wp2
    go_ret
    exact ⟨by rw [← HV.out, HB.out]; first | rfl | (simp only [Int.add_zero]; rfl), 1, rfl⟩
  · have HB : Hid (chrB b 4 = (b.r.getD 2 0) % b.chr) := by unfold Hid; rw [SBH.out]; simp [sb]
    rw [sb] at e128
    clear SBH sb c8 c9 c11 c12 c13
    have wz0 : IntKind.i64.wrap 0 = 0 := by decide
    have wz1 : IntKind.i64.wrap 1 = 1 := by decide
    have wz2 : IntKind.i64.wrap 2 = 2 := by decide
    have wz3 : IntKind.i64.wrap 3 = 3 := by decide
    have wz4 : IntKind.i64.wrap 4 = 4 := by decide
    have wz5 : IntKind.i64.wrap 5 = 5 := by decide
    have xf : bits .xor .i64 4 4 = 0 := by decide
    generalize b.r.getD 2 0 = rr at *
    skip
    go_enter Try.func110, Try.ntmps110
    go_upto_region 5 with fail
    go_still_tail 11, (by kernel_rfl)
    go_wp2_with fail
    refine (PH.out _ (by omega) (by omega)).mono ?_
    rintro e W ⟨rfl, rfl⟩
    go_wp2
    go_ret
    exact ⟨by rw [← HV.out, HB.out]; first | rfl | (simp only [Int.add_zero]; rfl), 1, rfl⟩
  · have HB : Hid (chrB b 5 = (b.r.getD 3 0) % b.chr) := by unfold Hid; rw [SBH.out]; simp [sb]
    rw [sb] at e128
    clear SBH sb c8 c9 c10 c12 c13
    have wz0 : IntKind.i64.wrap 0 = 0 := by decide
    have wz1 : IntKind.i64.wrap 1 = 1 := by decide
    have wz2 : IntKind.i64.wrap 2 = 2 := by decide
    have wz3 : IntKind.i64.wrap 3 = 3 := by decide
    have wz4 : IntKind.i64.wrap 4 = 4 := by decide
    have wz5 : IntKind.i64.wrap 5 = 5 := by decide
    have xf : bits .xor .i64 5 4 = 1 := by decide
    generalize b.r.getD 3 0 = rr at *
    skip
    go_enter Try.func110, Try.ntmps110
    go_upto_region 5 with fail
    go_still_tail 11, (by kernel_rfl)
    go_wp2_with fail
    refine (PH.out _ (by omega) (by omega)).mono ?_
    rintro e W ⟨rfl, rfl⟩
    go_wp2
    go_ret
    exact ⟨by rw [← HV.out, HB.out]; first | rfl | (simp only [Int.add_zero]; rfl), 1, rfl⟩
  · have HB : Hid (chrB b 6 = (b.r.getD 4 0) % b.chr) := by unfold Hid; rw [SBH.out]; simp [sb]
    rw [sb] at e128
    clear SBH sb c8 c9 c10 c11 c13
    have wz0 : IntKind.i64.wrap 0 = 0 := by decide
    have wz1 : IntKind.i64.wrap 1 = 1 := by decide
    have wz2 : IntKind.i64.wrap 2 = 2 := by decide
    have wz3 : IntKind.i64.wrap 3 = 3 := by decide
    have wz4 : IntKind.i64.wrap 4 = 4 := by decide
    have wz5 : IntKind.i64.wrap 5 = 5 := by decide
    have xf : bits .xor .i64 6 4 = 2 := by decide
    generalize b.r.getD 4 0 = rr at *
    skip
    go_enter Try.func110, Try.ntmps110
    go_upto_region 5 with fail
    go_still_tail 11, (by kernel_rfl)
    go_wp2_with fail
    refine (PH.out _ (by omega) (by omega)).mono ?_
    rintro e W ⟨rfl, rfl⟩
    go_wp2
    go_ret
    exact ⟨by rw [← HV.out, HB.out]; first | rfl | (simp only [Int.add_zero]; rfl), 1, rfl⟩
  · have HB : Hid (chrB b 7 = (b.r.getD 5 0) % b.chr) := by unfold Hid; rw [SBH.out]; simp [sb]
    rw [sb] at e128
    clear SBH sb c8 c9 c10 c11 c12
    have wz0 : IntKind.i64.wrap 0 = 0 := by decide
    have wz1 : IntKind.i64.wrap 1 = 1 := by decide
    have wz2 : IntKind.i64.wrap 2 = 2 := by decide
    have wz3 : IntKind.i64.wrap 3 = 3 := by decide
    have wz4 : IntKind.i64.wrap 4 = 4 := by decide
    have wz5 : IntKind.i64.wrap 5 = 5 := by decide
    have xf : bits .xor .i64 7 4 = 3 := by decide
    generalize b.r.getD 5 0 = rr at *
    skip
    go_enter Try.func110, Try.ntmps110
    go_upto_region 5 with fail
    go_still_tail 11, (by kernel_rfl)
    go_wp2_with fail
    refine (PH.out _ (by omega) (by omega)).mono ?_
    rintro e W ⟨rfl, rfl⟩
    go_wp2
    go_ret
    exact ⟨by rw [← HV.out, HB.out]; first | rfl | (simp only [Int.add_zero]; rfl), 1, rfl⟩
  · have HB : Hid (chrB b 0 = (b.r.getD 2 0) % b.chr) := by unfold Hid; rw [SBH.out]; simp [sb]
    rw [sb] at e128
    clear SBH sb c8 c9 c11 c12 c13
    have wz0 : IntKind.i64.wrap 0 = 0 := by decide
    have wz1 : IntKind.i64.wrap 1 = 1 := by decide
    have wz2 : IntKind.i64.wrap 2 = 2 := by decide
    have wz3 : IntKind.i64.wrap 3 = 3 := by decide
    have wz4 : IntKind.i64.wrap 4 = 4 := by decide
    have wz5 : IntKind.i64.wrap 5 = 5 := by decide
    have xf : bits .xor .i64 0 4 = 4 := by decide
    generalize b.r.getD 2 0 = rr at *
    skip
    go_enter Try.func110, Try.ntmps110
    go_upto_region 5 with fail
    go_still_tail 11, (by kernel_rfl)
    go_wp2_with fail
    refine (PH.out _ (by omega) (by omega)).mono ?_
    rintro e W ⟨rfl, rfl⟩
    go_wp2
    go_ret
    exact ⟨by rw [← HV.out, HB.out]; first | rfl | (simp only [Int.add_zero]; rfl), 1, rfl⟩
  · have HB : Hid (chrB b 1 = (b.r.getD 3 0) % b.chr) := by unfold Hid; rw [SBH.out]; simp [sb]
    rw [sb] at e128
    clear SBH sb c8 c9 c10 c12 c13
    have wz0 : IntKind.i64.wrap 0 = 0 := by decide
    have wz1 : IntKind.i64.wrap 1 = 1 := by decide
    have wz2 : IntKind.i64.wrap 2 = 2 := by decide
    have wz3 : IntKind.i64.wrap 3 = 3 := by decide
    have wz4 : IntKind.i64.wrap 4 = 4 := by decide
    have wz5 : IntKind.i64.wrap 5 = 5 := by decide
    have xf : bits .xor .i64 1 4 = 5 := by decide
    generalize b.r.getD 3 0 = rr at *
    skip
    go_enter Try.func110, Try.ntmps110
    go_upto_region 5 with fail
    go_still_tail 11, (by kernel_rfl)
    go_wp2_with fail
    refine (PH.out _ (by omega) (by omega)).mono ?_
    rintro e W ⟨rfl, rfl⟩
    go_wp2
    go_ret
    exact ⟨by rw [← HV.out, HB.out]; first | rfl | (simp only [Int.add_zero]; rfl), 1, rfl⟩
  · have HB : Hid (chrB b 2 = (b.r.getD 4 0) % b.chr) := by unfold Hid; rw [SBH.out]; simp [sb]
    rw [sb] at e128
    clear SBH sb c8 c9 c10 c11 c13
    have wz0 : IntKind.i64.wrap 0 = 0 := by decide
    have wz1 : IntKind.i64.wrap 1 = 1 := by decide
    have wz2 : IntKind.i64.wrap 2 = 2 := by decide
    have wz3 : IntKind.i64.wrap 3 = 3 := by decide
    have wz4 : IntKind.i64.wrap 4 = 4 := by decide
    have wz5 : IntKind.i64.wrap 5 = 5 := by decide
    have xf : bits .xor .i64 2 4 = 6 := by decide
    generalize b.r.getD 4 0 = rr at *
    skip
    go_enter Try.func110, Try.ntmps110
    go_upto_region 5 with fail
    go_still_tail 11, (by kernel_rfl)
    go_wp2_with fail
    refine (PH.out _ (by omega) (by omega)).mono ?_
    rintro e W ⟨rfl, rfl⟩
    go_wp2
    go_ret
    exact ⟨by rw [← HV.out, HB.out]; first | rfl | (simp only [Int.add_zero]; rfl), 1, rfl⟩
  · have HB : Hid (chrB b 3 = (b.r.getD 5 0) % b.chr) := by unfold Hid; rw [SBH.out]; simp [sb]
    rw [sb] at e128
    clear SBH sb c8 c9 c10 c11 c12
    have wz0 : IntKind.i64.wrap 0 = 0 := by decide
    have wz1 : IntKind.i64.wrap 1 = 1 := by decide
    have wz2 : IntKind.i64.wrap 2 = 2 := by decide
    have wz3 : IntKind.i64.wrap 3 = 3 := by decide
    have wz4 : IntKind.i64.wrap 4 = 4 := by decide
    have wz5 : IntKind.i64.wrap 5 = 5 := by decide
    have xf : bits .xor .i64 3 4 = 7 := by decide
    generalize b.r.getD 5 0 = rr at *
    skip
    go_enter Try.func110, Try.ntmps110
    go_upto_region 5 with fail
    go_still_tail 11, (by kernel_rfl)
    go_wp2_with fail
    refine (PH.out _ (by omega) (by omega)).mono ?_
    rintro e W ⟨rfl, rfl⟩
    go_wp2
    go_ret
    exact ⟨by rw [← HV.out, HB.out]; first | rfl | (simp only [Int.add_zero]; rfl), 1, rfl⟩
  · have HB : Hid (chrB b 4 = (b.r.getD 0 0 - b.r.getD 0 0 % 2 + 0) % b.chr) := by unfold Hid; rw [SBH.out]; simp [sb]
    rw [sb] at e128
    clear SBH sb c9 c10 c11 c12 c13
    have wz0 : IntKind.i64.wrap 0 = 0 := by decide
    have wz1 : IntKind.i64.wrap 1 = 1 := by decide
    have wz2 : IntKind.i64.wrap 2 = 2 := by decide
    have wz3 : IntKind.i64.wrap 3 = 3 := by decide
    have wz4 : IntKind.i64.wrap 4 = 4 := by decide
    have wz5 : IntKind.i64.wrap 5 = 5 := by decide
    have xf : bits .xor .i64 4 4 = 0 := by decide
    generalize b.r.getD 0 0 = rr at *
    generalize rr - rr % 2 = re at *
    go_enter Try.func110, Try.ntmps110
    go_upto_region 4 with fail
    go_still_tail 15, (by kernel_rfl)
    go_wp2_with fail
    refine (PH.out _ (by omega) (by omega)).mono ?_
    rintro e W ⟨rfl, rfl⟩
    go_wp2
    go_ret
    exact ⟨by rw [← HV.out, HB.out]; first | rfl | (simp only [Int.add_zero]; rfl), 1, rfl⟩
  · have HB : Hid (chrB b 5 = (b.r.getD 0 0 - b.r.getD 0 0 % 2 + 1) % b.chr) := by unfold Hid; rw [SBH.out]; simp [sb]
    rw [sb] at e128
    clear SBH sb c9 c10 c11 c12 c13
    have wz0 : IntKind.i64.wrap 0 = 0 := by decide
    have wz1 : IntKind.i64.wrap 1 = 1 := by decide
    have wz2 : IntKind.i64.wrap 2 = 2 := by decide
    have wz3 : IntKind.i64.wrap 3 = 3 := by decide
    have wz4 : IntKind.i64.wrap 4 = 4 := by decide
    have wz5 : IntKind.i64.wrap 5 = 5 := by decide
    have xf : bits .xor .i64 5 4 = 1 := by decide
    generalize b.r.getD 0 0 = rr at *
    generalize rr - rr % 2 = re at *
    go_enter Try.func110, Try.ntmps110
    go_upto_region 4 with fail
    go_still_tail 15, (by kernel_rfl)
    go_wp2_with fail
    refine (PH.out _ (by omega) (by omega)).mono ?_
    rintro e W ⟨rfl, rfl⟩
    go_wp2
    go_ret
    exact ⟨by rw [← HV.out, HB.out]; first | rfl | (simp only [Int.add_zero]; rfl), 1, rfl⟩
  · have HB : Hid (chrB b 6 = (b.r.getD 1 0 - b.r.getD 1 0 % 2 + 0) % b.chr) := by unfold Hid; rw [SBH.out]; simp [sb]
    rw [sb] at e128
    clear SBH sb c8 c10 c11 c12 c13
    have wz0 : IntKind.i64.wrap 0 = 0 := by decide
    have wz1 : IntKind.i64.wrap 1 = 1 := by decide
    have wz2 : IntKind.i64.wrap 2 = 2 := by decide
    have wz3 : IntKind.i64.wrap 3 = 3 := by decide
    have wz4 : IntKind.i64.wrap 4 = 4 := by decide
    have wz5 : IntKind.i64.wrap 5 = 5 := by decide
    have xf : bits .xor .i64 6 4 = 2 := by decide
    generalize b.r.getD 1 0 = rr at *
    generalize rr - rr % 2 = re at *
    go_enter Try.func110, Try.ntmps110
    go_upto_region 4 with fail
    go_still_tail 15, (by kernel_rfl)
    go_wp2_with fail
    refine (PH.out _ (by omega) (by omega)).mono ?_
    rintro e W ⟨rfl, rfl⟩
    go_wp2
    go_ret
    exact ⟨by rw [← HV.out, HB.out]; first | rfl | (simp only [Int.add_zero]; rfl), 1, rfl⟩
  · have HB : Hid (chrB b 7 = (b.r.getD 1 0 - b.r.getD 1 0 % 2 + 1) % b.chr) := by unfold Hid; rw [SBH.out]; simp [sb]
    rw [sb] at e128
    clear SBH sb c8 c10 c11 c12 c13
    have wz0 : IntKind.i64.wrap 0 = 0 := by decide
    have wz1 : IntKind.i64.wrap 1 = 1 := by decide
    have wz2 : IntKind.i64.wrap 2 = 2 := by decide
    have wz3 : IntKind.i64.wrap 3 = 3 := by decide
    have wz4 : IntKind.i64.wrap 4 = 4 := by decide
    have wz5 : IntKind.i64.wrap 5 = 5 := by decide
    have xf : bits .xor .i64 7 4 = 3 := by decide
    generalize b.r.getD 1 0 = rr at *
    generalize rr - rr % 2 = re at *
    go_enter Try.func110, Try.ntmps110
    go_upto_region 4 with fail
    go_still_tail 15, (by kernel_rfl)
    go_wp2_with fail
    refine (PH.out _ (by omega) (by omega)).mono ?_
    rintro e W ⟨rfl, rfl⟩
    go_wp2
    go_ret
    exact ⟨by rw [← HV.out, HB.out]; first | rfl | (simp only [Int.add_zero]; rfl), 1, rfl⟩
end Go.Proofs.Ytggphgmpdanliaa
