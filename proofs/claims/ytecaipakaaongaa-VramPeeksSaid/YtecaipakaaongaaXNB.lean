/-
  What the methods of an MMC1 answer: chrBank, mirror, workMode; what push and write do; conditions: the cells that they read hold the board's numbers.
  What mirror of an MMC1 answers; what nextEpoch does; conditions: the cells that they read hold the board's numbers.
  What chrBank of an MMC3 answers; conditions: the cells that it reads hold the board's numbers.
  What mirror and workMode of an MMC3 answer; conditions: the cells that they read hold the board's numbers.
-/
import Derived.Test.YtecaipakaaongaaXNA
set_option linter.unusedSimpArgs false
set_option linter.unusedVariables false
namespace Go.Proofs.Ytecaipakaaongaa
open Go.RowKit Classical
set_option maxRecDepth 100000 in
theorem chr1_any (w : World) (m : Nat) (b : Bd) (x : Int) (S : Sh w m b) (M : M1 w m b) (a0 : 0 ≤ b.chrA) (a1 : b.chrA ≤ 255) (r0 : 0 ≤ b.chrB) (r1 : b.chrB ≤ 255) (t0 : 0 ≤ b.ctrl) (t1 : b.ctrl ≤ 255) (p0 : 8 ≤ b.chr) (p1 : b.chr ≤ 512) (n0 : 0 ≤ x) (n1 : x ≤ 7) (hk : b.kind = 1) :
    Calls Try.prog 76 #[.pointer (some ⟨m, 0, none⟩), .int .i64 x] w fun e w' => e = .returned (.int .i64 (chrB b x)) ∧ ∃ n, w' = w.drewN n := by
  have E : chrB b x = (if b.ctrl / 16 % 2 = 0 then 4 * (b.chrA - b.chrA % 2) + x else if x < 4 then 4 * b.chrA + x else 4 * b.chrB + x - 4) % b.chr := by simp [chrB, chrN, hk]
  rw [E]
  have e16 := bit16 t0 t1
  have c8 := M.c8
  have c9 := M.c9
  have c10 := M.c10
  by_cases h : b.ctrl / 16 % 2 = 0
  · have ev := even8 a0 a1
    have z0 : 0 ≤ b.chrA - b.chrA % 2 := by omega
    have z1 : b.chrA - b.chrA % 2 ≤ 255 := by omega
    rw [if_pos h]
    have H : Hid _ := inChr_any w.drew m b (4 * (b.chrA - b.chrA % 2) + x) S.drew p0 p1 (by omega) (by omega)
    rw [h] at e16
    generalize b.chrA - b.chrA % 2 = z at *
    clear S M p0 p1 hk E h
    go_enter Try.func76, Try.ntmps76
    go_upto_region 2 with fail
    go_still_tail 12, (by kernel_rfl)
    go_wp2_with fail
    refine Calls.mono H.out ?_
    rintro e W ⟨rfl, rfl⟩
    go_wp2
    go_ret
    exact ⟨rfl, 1, rfl⟩
  rw [if_neg h]
  rw [show b.ctrl / 16 % 2 = 1 by omega] at e16
  by_cases g : x < 4
  · rw [if_pos g]
    have H : Hid _ := inChr_any w.drew m b (4 * b.chrA + x) S.drew p0 p1 (by omega) (by omega)
    have hx : decide (x < 4) = true := decide_eq_true g
    clear S M p0 p1 hk E h g
    go_enter Try.func76, Try.ntmps76
    go_upto_region 4 with fail
    go_still_tail 11, (by kernel_rfl)
    go_wp2_with fail
    refine Calls.mono H.out ?_
    rintro e W ⟨rfl, rfl⟩
    go_wp2
    go_ret
    exact ⟨rfl, 1, rfl⟩
  · rw [if_neg g]
    have H : Hid _ := inChr_any w.drew m b (4 * b.chrB + x - 4) S.drew p0 p1 (by omega) (by omega)
    have hx : decide (x < 4) = false := decide_eq_false g
    clear S M p0 p1 hk E h g
    go_enter Try.func76, Try.ntmps76
    go_upto_region 5 with fail
    go_still_tail 12, (by kernel_rfl)
    go_wp2_with fail
    refine Calls.mono H.out ?_
    rintro e W ⟨rfl, rfl⟩
    go_wp2
    go_ret
    exact ⟨rfl, 1, rfl⟩
/-- The cells of an MMC1's block. -/
theorem m1_of {w : World} {m : Nat} {b : Bd} {t : TypeId} (K : Blk w m (k1c b) t) : M1 w m b := ⟨(K.cell 7).trans rfl, (K.cell 8).trans rfl, (K.cell 9).trans rfl, (K.cell 10).trans rfl, (K.cell 11).trans rfl, (K.cell 12).trans rfl⟩
theorem sh_of1 {w : World} {m : Nat} {b : Bd} {t : TypeId} (K : Blk w m (k1c b) t) : Sh w m b := ⟨(K.cell 0).trans rfl, (K.cell 1).trans rfl, (K.cell 2).trans rfl, (K.cell 3).trans rfl, (K.cell 4).trans rfl, (K.cell 5).trans rfl, (K.cell 6).trans rfl⟩
theorem sh_of0 {w : World} {m : Nat} {b : Bd} {t : TypeId} (K : Blk w m (k0c b) t) : Sh w m b := ⟨(K.cell 0).trans rfl, (K.cell 1).trans rfl, (K.cell 2).trans rfl, (K.cell 3).trans rfl, (K.cell 4).trans rfl, (K.cell 5).trans rfl, (K.cell 6).trans rfl⟩
theorem sh_ofL {w : World} {m : Nat} {b : Bd} {t : TypeId} (K : Blk w m (kLc b) t) : Sh w m b := ⟨(K.cell 0).trans rfl, (K.cell 1).trans rfl, (K.cell 2).trans rfl, (K.cell 3).trans rfl, (K.cell 4).trans rfl, (K.cell 5).trans rfl, (K.cell 6).trans rfl⟩
theorem lt_ofL {w : World} {m : Nat} {b : Bd} {t : TypeId} (K : Blk w m (kLc b) t) : w.cell? ⟨m, 7, none⟩ = some (.int .u8 b.latch) := (K.cell 7).trans rfl
end Go.Proofs.Ytecaipakaaongaa
namespace Go.Proofs.Ytecaipakaaongaa
open Go.RowKit Classical
set_option maxRecDepth 100000 in
set_option maxHeartbeats 1000000 in
theorem mirror1_any (w : World) (m : Nat) (b : Bd) (S : Sh w m b) (M : M1 w m b) (t0 : 0 ≤ b.ctrl) (t1 : b.ctrl ≤ 255) (hm : m < w.heap.size) (hk : b.kind = 1) :
    Calls Try.prog 79 #[.pointer (some ⟨m, 0, none⟩)] w fun e w' => e = .returned (.int .u8 (mirB b)) ∧ Below w.heap.size w w' := by
  have E : mirB b = wiredV b (if b.ctrl % 4 = 0 then 2 else if b.ctrl % 4 = 1 then 3 else if b.ctrl % 4 = 2 then 1 else 0) := by simp [mirB, hk, wiredV]
  rw [E]
  have e3 := and3 t0 t1
  have c8 := M.c8
  have md : b.ctrl % 4 = 0 ∨ b.ctrl % 4 = 1 ∨ b.ctrl % 4 = 2 ∨ b.ctrl % 4 = 3 := by omega
  obtain ⟨z, hz⟩ : ∃ z : Int, (if b.ctrl % 4 = 0 then (2 : Int) else if b.ctrl % 4 = 1 then 3 else if b.ctrl % 4 = 2 then 1 else 0) = z := ⟨_, rfl⟩
  rw [hz]
  have HZ : Hid _ := hz
  clear hk E M hz
  go_enter Try.func79, Try.ntmps79
  go_upto_region 2 with fail
  have z0 : Blk (w.alloc (.cells #[.int .u8 2, .int .u8 3, .int .u8 1, .int .u8 0] 119)) w.heap.size #[.int .u8 2, .int .u8 3, .int .u8 1, .int .u8 0] 119 := Blk.new w _ _
  have hb0 : Below w.heap.size w (w.alloc (.cells #[.int .u8 2, .int .u8 3, .int .u8 1, .int .u8 0] 119)) := (Below.refl _ _).alloc (Nat.le_refl _) _
  generalize w.alloc (.cells #[.int .u8 2, .int .u8 3, .int .u8 1, .int .u8 0] 119) = W0 at *
  have d8 := (hb0.cell (p := ⟨m, 8, none⟩) hm).trans c8
  have hc := fun i => hb0.cell (p := ⟨m, i, none⟩) hm
  have S0 : Sh W0 m b := ⟨(hc 0).trans S.c0, (hc 1).trans S.c1, (hc 2).trans S.c2, (hc 3).trans S.c3, (hc 4).trans S.c4, (hc 5).trans S.c5, (hc 6).trans S.c6⟩
  have y0 := z0.cell 0
  have y1 := z0.cell 1
  have y2 := z0.cell 2
  have y3 := z0.cell 3
  have HW : Hid _ := fun x => wired_if W0.drew m b x S0.drew
  clear S S0 hc c8 z0
  rcases md with md | md | md | md
  · obtain rfl : z = 2 := by rw [← HZ.out, md]; rfl
    rw [md] at e3
    clear HZ md
    go_still_tail 10, (by kernel_rfl)
    go_wp2_with fail
    refine (HW.out _).mono ?_
    rintro e W ⟨rfl, rfl⟩
    go_wp2
    go_ret
    exact ⟨rfl, hb0.drew⟩
  · obtain rfl : z = 3 := by rw [← HZ.out, md]; rfl
    rw [md] at e3
    clear HZ md
    go_still_tail 10, (by kernel_rfl)
    go_wp2_with fail
    refine (HW.out _).mono ?_
    rintro e W ⟨rfl, rfl⟩
    go_wp2
    go_ret
    exact ⟨rfl, hb0.drew⟩
  · obtain rfl : z = 1 := by rw [← HZ.out, md]; rfl
    rw [md] at e3
    clear HZ md
    go_still_tail 10, (by kernel_rfl)
    go_wp2_with fail
    refine (HW.out _).mono ?_
    rintro e W ⟨rfl, rfl⟩
    go_wp2
    go_ret
    exact ⟨rfl, hb0.drew⟩
  · obtain rfl : z = 0 := by rw [← HZ.out, md]; rfl
    rw [md] at e3
    clear HZ md
    go_still_tail 10, (by kernel_rfl)
    go_wp2_with fail
    refine (HW.out _).mono ?_
    rintro e W ⟨rfl, rfl⟩
    go_wp2
    go_ret
    exact ⟨rfl, hb0.drew⟩
end Go.Proofs.Ytecaipakaaongaa
namespace Go.Proofs.Ytecaipakaaongaa
open Go.RowKit Classical
set_option maxRecDepth 100000 in
set_option maxHeartbeats 1000000 in
theorem chr4_any (w : World) (m : Nat) (b : Bd) (x : Int) (S : Sh w m b) (M : M4 w m b) (s0 : 0 ≤ b.sel) (s1 : b.sel ≤ 255) (q0 : ∀ i, 0 ≤ b.r.getD i 0) (q1 : ∀ i, b.r.getD i 0 ≤ 255) (p0 : 8 ≤ b.chr) (p1 : b.chr ≤ 512) (n0 : 0 ≤ x) (n1 : x ≤ 7) (hk : b.kind = 4) :
    Calls Try.prog 99 #[.pointer (some ⟨m, 0, none⟩), .int .i64 x] w fun e w' => e = .returned (.int .i64 (chrB b x)) ∧ ∃ n, w' = w.drewN n := by
  have SBH : Hid (chrB b x = (let t := if b.sel / 128 % 2 = 1 then (x + 4) % 8 else x
     if t < 2 then b.r.getD 0 0 - b.r.getD 0 0 % 2 + t else if t < 4 then b.r.getD 1 0 - b.r.getD 1 0 % 2 + (t - 2) else b.r.getD (t - 2).toNat 0) % b.chr) := by unfold Hid; simp [chrB, chrN, hk]
  have e128 := bit128 s0 s1
  have c7 := M.c7
  have c8 : w.cell? ⟨m, 8, none⟩ = some (.int .u8 (b.r.getD 0 0)) := M.r 0 (by decide)
  have ga0 := q0 0
  have gb0 := q1 0
  have c9 : w.cell? ⟨m, 9, none⟩ = some (.int .u8 (b.r.getD 1 0)) := M.r 1 (by decide)
  have ga1 := q0 1
  have gb1 := q1 1
  have c10 : w.cell? ⟨m, 10, none⟩ = some (.int .u8 (b.r.getD 2 0)) := M.r 2 (by decide)
  have ga2 := q0 2
  have gb2 := q1 2
  have c11 : w.cell? ⟨m, 11, none⟩ = some (.int .u8 (b.r.getD 3 0)) := M.r 3 (by decide)
  have ga3 := q0 3
  have gb3 := q1 3
  have c12 : w.cell? ⟨m, 12, none⟩ = some (.int .u8 (b.r.getD 4 0)) := M.r 4 (by decide)
  have ga4 := q0 4
  have gb4 := q1 4
  have c13 : w.cell? ⟨m, 13, none⟩ = some (.int .u8 (b.r.getD 5 0)) := M.r 5 (by decide)
  have ga5 := q0 5
  have gb5 := q1 5
  have v0 := even8 ga0 gb0
  have v1 := even8 ga1 gb1
  have PH : Hid _ := fun (n : Int) (q0 : 0 ≤ n) (q1 : n ≤ 300) => inChr_any w.drew m b n S.drew p0 p1 q0 (by omega)
  have sb : b.sel / 128 % 2 = 0 ∨ b.sel / 128 % 2 = 1 := by omega
  have hx : x = 0 ∨ x = 1 ∨ x = 2 ∨ x = 3 ∨ x = 4 ∨ x = 5 ∨ x = 6 ∨ x = 7 := by omega
  obtain ⟨v, hv⟩ : ∃ v, chrB b x = v := ⟨_, rfl⟩
  rw [hv]
  have HV : Hid _ := hv
  have h00 : 0 ≤ b.r.getD 0 0 - b.r.getD 0 0 % 2 := by omega
  have h01 : b.r.getD 0 0 - b.r.getD 0 0 % 2 ≤ 254 := by omega
  have h10 : 0 ≤ b.r.getD 1 0 - b.r.getD 1 0 % 2 := by omega
  have h11 : b.r.getD 1 0 - b.r.getD 1 0 % 2 ≤ 254 := by omega
  clear S M hk q0 q1 s0 s1 hv n0 n1
  rcases sb with sb | sb <;> rcases hx with rfl | rfl | rfl | rfl | rfl | rfl | rfl | rfl
  · have HB : Hid (chrB b 0 = (b.r.getD 0 0 - b.r.getD 0 0 % 2 + 0) % b.chr) := by unfold Hid; rw [SBH.out]; simp [sb]
    rw [sb] at e128
    clear SBH sb c9 c10 c11 c12 c13
    have wz0 : IntKind.i64.wrap 0 = 0 := by decide
    have wz1 : IntKind.i64.wrap 1 = 1 := by decide
    have wz2 : IntKind.i64.wrap 2 = 2 := by decide
    have wz3 : IntKind.i64.wrap 3 = 3 := by decide
    have wz4 : IntKind.i64.wrap 4 = 4 := by decide
    have wz5 : IntKind.i64.wrap 5 = 5 := by decide
    have xf : bits .xor .i64 0 4 = 4 := by decide
    generalize b.r.getD 0 0 = rr at *
    generalize rr - rr % 2 = re at *
    go_enter Try.func99, Try.ntmps99
    go_upto_region 4 with fail
    go_still_tail 15, (by kernel_rfl)
    go_wp2_with fail
    refine (PH.out _ (by omega) (by omega)).mono ?_
    rintro e W ⟨rfl, rfl⟩
    go_wp2
    go_ret
    exact ⟨by rw [← HV.out, HB.out]; first | rfl | (simp only [Int.add_zero]; rfl), 1, rfl⟩
  · have HB : Hid (chrB b 1 = (b.r.getD 0 0 - b.r.getD 0 0 % 2 + 1) % b.chr) := by unfold Hid; rw [SBH.out]; simp [sb]
    rw [sb] at e128
    clear SBH sb c9 c10 c11 c12 c13
    have wz0 : IntKind.i64.wrap 0 = 0 := by decide
    have wz1 : IntKind.i64.wrap 1 = 1 := by decide
    have wz2 : IntKind.i64.wrap 2 = 2 := by decide
    have wz3 : IntKind.i64.wrap 3 = 3 := by decide
    have wz4 : IntKind.i64.wrap 4 = 4 := by decide
    have wz5 : IntKind.i64.wrap 5 = 5 := by decide
    have xf : bits .xor .i64 1 4 = 5 := by decide
    generalize b.r.getD 0 0 = rr at *
    generalize rr - rr % 2 = re at *
    go_enter Try.func99, Try.ntmps99
    go_upto_region 4 with fail
    go_still_tail 15, (by kernel_rfl)
    go_wp2_with fail
    refine (PH.out _ (by omega) (by omega)).mono ?_
    rintro e W ⟨rfl, rfl⟩
    go_wp2
    go_ret
    exact ⟨by rw [← HV.out, HB.out]; first | rfl | (simp only [Int.add_zero]; rfl), 1, rfl⟩
  · have HB : Hid (chrB b 2 = (b.r.getD 1 0 - b.r.getD 1 0 % 2 + 0) % b.chr) := by unfold Hid; rw [SBH.out]; simp [sb]
    rw [sb] at e128
    clear SBH sb c8 c10 c11 c12 c13
    have wz0 : IntKind.i64.wrap 0 = 0 := by decide
    have wz1 : IntKind.i64.wrap 1 = 1 := by decide
    have wz2 : IntKind.i64.wrap 2 = 2 := by decide
    have wz3 : IntKind.i64.wrap 3 = 3 := by decide
    have wz4 : IntKind.i64.wrap 4 = 4 := by decide
    have wz5 : IntKind.i64.wrap 5 = 5 := by decide
    have xf : bits .xor .i64 2 4 = 6 := by decide
    generalize b.r.getD 1 0 = rr at *
    generalize rr - rr % 2 = re at *
    go_enter Try.func99, Try.ntmps99
    go_upto_region 4 with fail
    go_still_tail 15, (by kernel_rfl)
    go_wp2_with fail
    refine (PH.out _ (by omega) (by omega)).mono ?_
    rintro e W ⟨rfl, rfl⟩
    go_wp2
    go_ret
    exact ⟨by rw [← HV.out, HB.out]; first | rfl | (simp only [Int.add_zero]; rfl), 1, rfl⟩
  · have HB : Hid (chrB b 3 = (b.r.getD 1 0 - b.r.getD 1 0 % 2 + 1) % b.chr) := by unfold Hid; rw [SBH.out]; simp [sb]
    rw [sb] at e128
    clear SBH sb c8 c10 c11 c12 c13
    have wz0 : IntKind.i64.wrap 0 = 0 := by decide
    have wz1 : IntKind.i64.wrap 1 = 1 := by decide
    have wz2 : IntKind.i64.wrap 2 = 2 := by decide
    have wz3 : IntKind.i64.wrap 3 = 3 := by decide
    have wz4 : IntKind.i64.wrap 4 = 4 := by decide
    have wz5 : IntKind.i64.wrap 5 = 5 := by decide
    have xf : bits .xor .i64 3 4 = 7 := by decide
    generalize b.r.getD 1 0 = rr at *
    generalize rr - rr % 2 = re at *
    go_enter Try.func99, Try.ntmps99
    go_upto_region 4 with fail
    go_still_tail 15, (by kernel_rfl)
    go_wp2_with fail
    refine (PH.out _ (by omega) (by omega)).mono ?_
    rintro e W ⟨rfl, rfl⟩
    go_wp2
    go_ret
    exact ⟨by rw [← HV.out, HB.out]; first | rfl | (simp only [Int.add_zero]; rfl), 1, rfl⟩
  · have HB : Hid (chrB b 4 = (b.r.getD 2 0) % b.chr) := by unfold Hid; rw [SBH.out]; simp [sb]
    rw [sb] at e128
    clear SBH sb c8 c9 c11 c12 c13
    have wz0 : IntKind.i64.wrap 0 = 0 := by decide
    have wz1 : IntKind.i64.wrap 1 = 1 := by decide
    have wz2 : IntKind.i64.wrap 2 = 2 := by decide
    have wz3 : IntKind.i64.wrap 3 = 3 := by decide
    have wz4 : IntKind.i64.wrap 4 = 4 := by decide
    have wz5 : IntKind.i64.wrap 5 = 5 := by decide
    have xf : bits .xor .i64 4 4 = 0 := by decide
    generalize b.r.getD 2 0 = rr at *
    skip
    go_enter Try.func99, Try.ntmps99
    go_upto_region 5 with fail
    go_still_tail 11, (by kernel_rfl)
    go_wp2_with fail
    refine (PH.out _ (by omega) (by omega)).mono ?_
    rintro e W ⟨rfl, rfl⟩
    go_wp2
    go_ret
    exact ⟨by rw [← HV.out, HB.out]; first | rfl | (simp only [Int.add_zero]; rfl), 1, rfl⟩
  · have HB : Hid (chrB b 5 = (b.r.getD 3 0) % b.chr) := by unfold Hid; rw [SBH.out]; simp [sb]
    rw [sb] at e128
    clear SBH sb c8 c9 c10 c12 c13
    have wz0 : IntKind.i64.wrap 0 = 0 := by decide
    have wz1 : IntKind.i64.wrap 1 = 1 := by decide
    have wz2 : IntKind.i64.wrap 2 = 2 := by decide
    have wz3 : IntKind.i64.wrap 3 = 3 := by decide
    have wz4 : IntKind.i64.wrap 4 = 4 := by decide
    have wz5 : IntKind.i64.wrap 5 = 5 := by decide
    have xf : bits .xor .i64 5 4 = 1 := by decide
    generalize b.r.getD 3 0 = rr at *
    skip
    go_enter Try.func99, Try.ntmps99
    go_upto_region 5 with fail
    go_still_tail 11, (by kernel_rfl)
    go_wp2_with fail
    refine (PH.out _ (by omega) (by omega)).mono ?_
    rintro e W ⟨rfl, rfl⟩
    go_wp2
    go_ret
    exact ⟨by rw [← HV.out, HB.out]; first | rfl | (simp only [Int.add_zero]; rfl), 1, rfl⟩
  · have HB : Hid (chrB b 6 = (b.r.getD 4 0) % b.chr) := by unfold Hid; rw [SBH.out]; simp [sb]
    rw [sb] at e128
    clear SBH sb c8 c9 c10 c11 c13
    have wz0 : IntKind.i64.wrap 0 = 0 := by decide
    have wz1 : IntKind.i64.wrap 1 = 1 := by decide
    have wz2 : IntKind.i64.wrap 2 = 2 := by decide
    have wz3 : IntKind.i64.wrap 3 = 3 := by decide
    have wz4 : IntKind.i64.wrap 4 = 4 := by decide
    have wz5 : IntKind.i64.wrap 5 = 5 := by decide
    have xf : bits .xor .i64 6 4 = 2 := by decide
    generalize b.r.getD 4 0 = rr at *
    skip
    go_enter Try.func99, Try.ntmps99
    go_upto_region 5 with fail
    go_still_tail 11, (by kernel_rfl)
    go_wp2_with fail
    refine (PH.out _ (by omega) (by omega)).mono ?_
    rintro e W ⟨rfl, rfl⟩
    go_wp2
    go_ret
    exact ⟨by rw [← HV.out, HB.out]; first | rfl | (simp only [Int.add_zero]; rfl), 1, rfl⟩
  · have HB : Hid (chrB b 7 = (b.r.getD 5 0) % b.chr) := by unfold Hid; rw [SBH.out]; simp [sb]
    rw [sb] at e128
    clear SBH sb c8 c9 c10 c11 c12
    have wz0 : IntKind.i64.wrap 0 = 0 := by decide
    have wz1 : IntKind.i64.wrap 1 = 1 := by decide
    have wz2 : IntKind.i64.wrap 2 = 2 := by decide
    have wz3 : IntKind.i64.wrap 3 = 3 := by decide
    have wz4 : IntKind.i64.wrap 4 = 4 := by decide
    have wz5 : IntKind.i64.wrap 5 = 5 := by decide
    have xf : bits .xor .i64 7 4 = 3 := by decide
    generalize b.r.getD 5 0 = rr at *
    skip
    go_enter Try.func99, Try.ntmps99
    go_upto_region 5 with fail
    go_still_tail 11, (by kernel_rfl)
    go_wp2_with fail
    refine (PH.out _ (by omega) (by omega)).mono ?_
    rintro e W ⟨rfl, rfl⟩
    go_wp2
    go_ret
    exact ⟨by rw [← HV.out, HB.out]; first | rfl | (simp only [Int.add_zero]; rfl), 1, rfl⟩
  · have HB : Hid (chrB b 0 = (b.r.getD 2 0) % b.chr) := by unfold Hid; rw [SBH.out]; simp [sb]
    rw [sb] at e128
    clear SBH sb c8 c9 c11 c12 c13
    have wz0 : IntKind.i64.wrap 0 = 0 := by decide
    have wz1 : IntKind.i64.wrap 1 = 1 := by decide
    have wz2 : IntKind.i64.wrap 2 = 2 := by decide
    have wz3 : IntKind.i64.wrap 3 = 3 := by decide
    have wz4 : IntKind.i64.wrap 4 = 4 := by decide
    have wz5 : IntKind.i64.wrap 5 = 5 := by decide
    have xf : bits .xor .i64 0 4 = 4 := by decide
    generalize b.r.getD 2 0 = rr at *
    skip
    go_enter Try.func99, Try.ntmps99
    go_upto_region 5 with fail
    go_still_tail 11, (by kernel_rfl)
    go_wp2_with fail
    refine (PH.out _ (by omega) (by omega)).mono ?_
    rintro e W ⟨rfl, rfl⟩
    go_wp2
    go_ret
    exact ⟨by rw [← HV.out, HB.out]; first | rfl | (simp only [Int.add_zero]; rfl), 1, rfl⟩
  · have HB : Hid (chrB b 1 = (b.r.getD 3 0) % b.chr) := by unfold Hid; rw [SBH.out]; simp [sb]
    rw [sb] at e128
    clear SBH sb c8 c9 c10 c12 c13
    have wz0 : IntKind.i64.wrap 0 = 0 := by decide
    have wz1 : IntKind.i64.wrap 1 = 1 := by decide
    have wz2 : IntKind.i64.wrap 2 = 2 := by decide
    have wz3 : IntKind.i64.wrap 3 = 3 := by decide
    have wz4 : IntKind.i64.wrap 4 = 4 := by decide
    have wz5 : IntKind.i64.wrap 5 = 5 := by decide
    have xf : bits .xor .i64 1 4 = 5 := by decide
    generalize b.r.getD 3 0 = rr at *
    skip
    go_enter Try.func99, Try.ntmps99
    go_upto_region 5 with fail
    go_still_tail 11, (by kernel_rfl)
    go_wp2_with fail
    refine (PH.out _ (by omega) (by omega)).mono ?_
    rintro e W ⟨rfl, rfl⟩
    go_wp2
    go_ret
    exact ⟨by rw [← HV.out, HB.out]; first | rfl | (simp only [Int.add_zero]; rfl), 1, rfl⟩
  · have HB : Hid (chrB b 2 = (b.r.getD 4 0) % b.chr) := by unfold Hid; rw [SBH.out]; simp [sb]
    rw [sb] at e128
    clear SBH sb c8 c9 c10 c11 c13
    have wz0 : IntKind.i64.wrap 0 = 0 := by decide
    have wz1 : IntKind.i64.wrap 1 = 1 := by decide
    have wz2 : IntKind.i64.wrap 2 = 2 := by decide
    have wz3 : IntKind.i64.wrap 3 = 3 := by decide
    have wz4 : IntKind.i64.wrap 4 = 4 := by decide
    have wz5 : IntKind.i64.wrap 5 = 5 := by decide
    have xf : bits .xor .i64 2 4 = 6 := by decide
    generalize b.r.getD 4 0 = rr at *
    skip
    go_enter Try.func99, Try.ntmps99
    go_upto_region 5 with fail
    go_still_tail 11, (by kernel_rfl)
    go_wp2_with fail
    refine (PH.out _ (by omega) (by omega)).mono ?_
    rintro e W ⟨rfl, rfl⟩
    go_wp2
    go_ret
    exact ⟨by rw [← HV.out, HB.out]; first | rfl | (simp only [Int.add_zero]; rfl), 1, rfl⟩
  · have HB : Hid (chrB b 3 = (b.r.getD 5 0) % b.chr) := by unfold Hid; rw [SBH.out]; simp [sb]
    rw [sb] at e128
    clear SBH sb c8 c9 c10 c11 c12
    have wz0 : IntKind.i64.wrap 0 = 0 := by decide
    have wz1 : IntKind.i64.wrap 1 = 1 := by decide
    have wz2 : IntKind.i64.wrap 2 = 2 := by decide
    have wz3 : IntKind.i64.wrap 3 = 3 := by decide
    have wz4 : IntKind.i64.wrap 4 = 4 := by decide
    have wz5 : IntKind.i64.wrap 5 = 5 := by decide
    have xf : bits .xor .i64 3 4 = 7 := by decide
    generalize b.r.getD 5 0 = rr at *
    skip
    go_enter Try.func99, Try.ntmps99
    go_upto_region 5 with fail
    go_still_tail 11, (by kernel_rfl)
    go_wp2_with fail
    refine (PH.out _ (by omega) (by omega)).mono ?_
    rintro e W ⟨rfl, rfl⟩
    go_wp2
    go_ret
    exact ⟨by rw [← HV.out, HB.out]; first | rfl | (simp only [Int.add_zero]; rfl), 1, rfl⟩
  · have HB : Hid (chrB b 4 = (b.r.getD 0 0 - b.r.getD 0 0 % 2 + 0) % b.chr) := by unfold Hid; rw [SBH.out]; simp [sb]
    rw [sb] at e128
    clear SBH sb c9 c10 c11 c12 c13
    have wz0 : IntKind.i64.wrap 0 = 0 := by decide
    have wz1 : IntKind.i64.wrap 1 = 1 := by decide
    have wz2 : IntKind.i64.wrap 2 = 2 := by decide
    have wz3 : IntKind.i64.wrap 3 = 3 := by decide
    have wz4 : IntKind.i64.wrap 4 = 4 := by decide
    have wz5 : IntKind.i64.wrap 5 = 5 := by decide
    have xf : bits .xor .i64 4 4 = 0 := by decide
    generalize b.r.getD 0 0 = rr at *
    generalize rr - rr % 2 = re at *
    go_enter Try.func99, Try.ntmps99
    go_upto_region 4 with fail
    go_still_tail 15, (by kernel_rfl)
    go_wp2_with fail
    refine (PH.out _ (by omega) (by omega)).mono ?_
    rintro e W ⟨rfl, rfl⟩
    go_wp2
    go_ret
    exact ⟨by rw [← HV.out, HB.out]; first | rfl | (simp only [Int.add_zero]; rfl), 1, rfl⟩
  · have HB : Hid (chrB b 5 = (b.r.getD 0 0 - b.r.getD 0 0 % 2 + 1) % b.chr) := by unfold Hid; rw [SBH.out]; simp [sb]
    rw [sb] at e128
    clear SBH sb c9 c10 c11 c12 c13
    have wz0 : IntKind.i64.wrap 0 = 0 := by decide
    have wz1 : IntKind.i64.wrap 1 = 1 := by decide
    have wz2 : IntKind.i64.wrap 2 = 2 := by decide
    have wz3 : IntKind.i64.wrap 3 = 3 := by decide
    have wz4 : IntKind.i64.wrap 4 = 4 := by decide
    have wz5 : IntKind.i64.wrap 5 = 5 := by decide
    have xf : bits .xor .i64 5 4 = 1 := by decide
    generalize b.r.getD 0 0 = rr at *
    generalize rr - rr % 2 = re at *
    go_enter Try.func99, Try.ntmps99
    go_upto_region 4 with fail
    go_still_tail 15, (by kernel_rfl)
    go_wp2_with fail
    refine (PH.out _ (by omega) (by omega)).mono ?_
    rintro e W ⟨rfl, rfl⟩
    go_wp2
    go_ret
    exact ⟨by rw [← HV.out, HB.out]; first | rfl | (simp only [Int.add_zero]; rfl), 1, rfl⟩
  · have HB : Hid (chrB b 6 = (b.r.getD 1 0 - b.r.getD 1 0 % 2 + 0) % b.chr) := by unfold Hid; rw [SBH.out]; simp [sb]
    rw [sb] at e128
    clear SBH sb c8 c10 c11 c12 c13
    have wz0 : IntKind.i64.wrap 0 = 0 := by decide
    have wz1 : IntKind.i64.wrap 1 = 1 := by decide
    have wz2 : IntKind.i64.wrap 2 = 2 := by decide
    have wz3 : IntKind.i64.wrap 3 = 3 := by decide
    have wz4 : IntKind.i64.wrap 4 = 4 := by decide
    have wz5 : IntKind.i64.wrap 5 = 5 := by decide
    have xf : bits .xor .i64 6 4 = 2 := by decide
    generalize b.r.getD 1 0 = rr at *
    generalize rr - rr % 2 = re at *
    go_enter Try.func99, Try.ntmps99
    go_upto_region 4 with fail
    go_still_tail 15, (by kernel_rfl)
    go_wp2_with fail
    refine (PH.out _ (by omega) (by omega)).mono ?_
    rintro e W ⟨rfl, rfl⟩
    go_wp2
    go_ret
    exact ⟨by rw [← HV.out, HB.out]; first | rfl | (simp only [Int.add_zero]; rfl), 1, rfl⟩
  · have HB : Hid (chrB b 7 = (b.r.getD 1 0 - b.r.getD 1 0 % 2 + 1) % b.chr) := by unfold Hid; rw [SBH.out]; simp [sb]
    rw [sb] at e128
    clear SBH sb c8 c10 c11 c12 c13
    have wz0 : IntKind.i64.wrap 0 = 0 := by decide
    have wz1 : IntKind.i64.wrap 1 = 1 := by decide
    have wz2 : IntKind.i64.wrap 2 = 2 := by decide
    have wz3 : IntKind.i64.wrap 3 = 3 := by decide
    have wz4 : IntKind.i64.wrap 4 = 4 := by decide
    have wz5 : IntKind.i64.wrap 5 = 5 := by decide
    have xf : bits .xor .i64 7 4 = 3 := by decide
    generalize b.r.getD 1 0 = rr at *
    generalize rr - rr % 2 = re at *
    go_enter Try.func99, Try.ntmps99
    go_upto_region 4 with fail
    go_still_tail 15, (by kernel_rfl)
    go_wp2_with fail
    refine (PH.out _ (by omega) (by omega)).mono ?_
    rintro e W ⟨rfl, rfl⟩
    go_wp2
    go_ret
    exact ⟨by rw [← HV.out, HB.out]; first | rfl | (simp only [Int.add_zero]; rfl), 1, rfl⟩
end Go.Proofs.Ytecaipakaaongaa
namespace Go.Proofs.Ytecaipakaaongaa
open Go.RowKit Classical
set_option maxRecDepth 100000 in
set_option maxHeartbeats 1000000 in
theorem mirror4_any (w : World) (m : Nat) (b : Bd) (S : Sh w m b) (M : M4 w m b) (hk : b.kind = 4) :
    Calls Try.prog 101 #[.pointer (some ⟨m, 0, none⟩)] w fun e w' => e = .returned (.int .u8 (mirB b)) ∧ ∃ n, w' = w.drewN n := by
  have E : mirB b = wiredV b (if b.turn = 0 then 1 else 0) := by simp [mirB, hk, wiredV]
  rw [E]
  have c16 := M.c16
  by_cases h : b.turn = 0
  · have H : Hid _ := wired_if w m b 1 S
    rw [if_pos h]
    rw [h] at c16
    clear S M hk E h
    go_enter Try.func101, Try.ntmps101
    go_wp2_with fail
    refine Calls.mono H.out ?_
    rintro e W ⟨rfl, rfl⟩
    go_wp2
    go_ret
    exact ⟨rfl, 0, rfl⟩
  · have H : Hid _ := wired_if w m b 0 S
    rw [if_neg h]
    have hb : (b.turn == 0) = false := by simpa using h
    clear S M hk E h
    go_enter Try.func101, Try.ntmps101
    go_wp2_with fail
    refine Calls.mono H.out ?_
    rintro e W ⟨rfl, rfl⟩
    go_wp2
    go_ret
    exact ⟨rfl, 0, rfl⟩
end Go.Proofs.Ytecaipakaaongaa
