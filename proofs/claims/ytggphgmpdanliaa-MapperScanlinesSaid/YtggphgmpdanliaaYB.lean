/-
  What the methods of an MMC1 answer: half, bank; conditions: the cells that they read hold the board's numbers.
  What the methods of an MMC1 answer: chrBank, mirror, workMode; what push and write do; conditions: the cells that they read hold the board's numbers.
  What mirror of an MMC1 answers; what nextEpoch does; conditions: the cells that they read hold the board's numbers.
-/
import Derived.Test.YtggphgmpdanliaaYA
set_option linter.unusedSimpArgs false
set_option linter.unusedVariables false
namespace Go.Proofs.Ytggphgmpdanliaa
open Go.RowKit Classical
set_option maxRecDepth 100000 in
theorem half_any (w : World) (m : Nat) (b : Bd) (S : Sh w m b) (M : M1 w m b) (a0 : 0 ≤ b.chrA) (a1 : b.chrA ≤ 255) (p0 : 2 ≤ b.prg) (p1 : b.prg ≤ 128) :
    Calls Try.prog 103 #[.pointer (some ⟨m, 0, none⟩)] w fun e w' => e = .returned (.tuple #[.int .i64 (outerB b), .int .i64 (lastB b)]) ∧ ∃ n, w' = w.drewN n := by
  have c4 := S.c4
  have c9 := M.c9
  have e16 := bit16 a0 a1
  clear S M
  by_cases h : b.prg ≤ 32
  · have hd : decide (b.prg ≤ 32) = true := decide_eq_true h
    have E1 : outerB b = 0 := if_pos h
    have E2 : lastB b = b.prg - 2 := if_pos h
    rw [E1, E2]
    clear E1 E2 e16 c9 h
    go_enter Try.func103, Try.ntmps103
    go_upto_region 2 with fail
    go_quiet (fail)
    go_wp2
    go_ret2
    exact ⟨rfl, _, rfl⟩
  · have hd : decide (b.prg ≤ 32) = false := decide_eq_false h
    have E2 : lastB b = 30 := if_neg h
    by_cases g : b.chrA / 16 % 2 = 1
    · have E1 : outerB b = 32 := by simp [outerB, h, g]
      rw [E1, E2]
      rw [g] at e16
      clear E1 E2 h g
      go_enter Try.func103, Try.ntmps103
      go_wp2
      go_ret2
      exact ⟨rfl, 0, rfl⟩
    · have E1 : outerB b = 0 := by simp [outerB, h, g]
      rw [E1, E2]
      rw [show b.chrA / 16 % 2 = 0 by omega] at e16
      clear E1 E2 h g
      go_enter Try.func103, Try.ntmps103
      go_wp2
      go_ret2
      exact ⟨rfl, 0, rfl⟩
theorem outer_bd (b : Bd) (p0 : 2 ≤ b.prg) : 0 ≤ outerB b ∧ outerB b ≤ 32 ∧ 0 ≤ lastB b ∧ lastB b ≤ 30 := by
  unfold outerB lastB
  (repeat' split) <;> omega
theorem M1.drewN {w : World} {m : Nat} {b : Bd} (M : M1 w m b) (n : Nat) : M1 (w.drewN n) m b := ⟨M.c7, M.c8, M.c9, M.c10, M.c11, M.c12⟩
set_option maxRecDepth 100000 in
theorem bank1_any (w : World) (m : Nat) (b : Bd) (x : Int) (S : Sh w m b) (M : M1 w m b) (a0 : 0 ≤ b.chrA) (a1 : b.chrA ≤ 255) (r0 : 0 ≤ b.prgR) (r1 : b.prgR ≤ 255) (t0 : 0 ≤ b.ctrl) (t1 : b.ctrl ≤ 255) (p0 : 2 ≤ b.prg) (p1 : b.prg ≤ 128) (n0 : 0 ≤ x) (n1 : x ≤ 3) (hk : b.kind = 1) :
    Calls Try.prog 96 #[.pointer (some ⟨m, 0, none⟩), .int .i64 x] w fun e w' => e = .returned (.int .i64 (bankB b x)) ∧ ∃ n, w' = w.drewN n := by
  by_cases h5 : b.sub = 5
  · have E : bankB b x = x % b.prg := by simp [bankB, bankN, hk, h5]
    rw [E]
    have H : Hid _ := bank0_any w m b x S p0 p1 n0 n1
    have c0 := S.c0
    rw [h5] at c0
    clear S M hk E h5
    go_enter Try.func96, Try.ntmps96
    go_wp2_with fail
    refine Calls.mono H.out ?_
    rintro e W ⟨rfl, rfl⟩
    go_wp2
    go_ret
    exact ⟨rfl, 0, rfl⟩
  have E : bankB b x = serialB b x % b.prg := by simp [bankB, bankN, hk, h5]
  rw [E]
  obtain ⟨v, hv⟩ : ∃ v, serialB b x % b.prg = v := ⟨_, rfl⟩
  rw [hv]
  have HV : Hid _ := hv
  have c0 := S.c0
  have hb : (b.sub == 5) = false := by simpa using h5
  have HF : Hid _ := half_any w m b S M a0 a1 p0 p1
  obtain ⟨o0, o1, o2, o3⟩ := outer_bd b p0
  have e15 := and15 r0 r1
  have e4 := and3 (x := b.ctrl / 4) (by omega) (by omega)
  have ev := even64 (x := b.prgR % 16) (by omega) (by omega)
  have y0 : 0 ≤ b.prgR % 16 := by omega
  have y1 : b.prgR % 16 ≤ 15 := by omega
  have yr : b.prgR % 16 - b.prgR % 16 % 2 = b.prgR % 16 - b.prgR % 2 := by omega
  rw [yr] at ev
  have z0 : 0 ≤ b.prgR % 16 - b.prgR % 2 := by omega
  have z1 : b.prgR % 16 - b.prgR % 2 ≤ 15 := by omega
  have PH : Hid _ := fun (W : World) (n : Int) (SS : Sh W m b) (q0 : 0 ≤ n) (q1 : n ≤ 300) => inPrg_any W m b n SS p0 p1 q0 (by omega)
  have SH : Hid (Sh w m b) := S
  have MH : Hid (M1 w m b) := M
  obtain ⟨md, hmd⟩ : ∃ z, b.ctrl / 4 % 4 = z := ⟨_, rfl⟩
  rw [hmd] at e4
  have SB : serialB b x = if md < 2 then outerB b + 2 * (b.prgR % 16 - b.prgR % 2) + x else if md = 2 then (if x < 2 then outerB b + x else outerB b + 2 * (b.prgR % 16) + x - 2) else if x < 2 then outerB b + 2 * (b.prgR % 16) + x else outerB b + lastB b + x - 2 := by rw [← hmd]; rfl
  have md4 : md = 0 ∨ md = 1 ∨ md = 2 ∨ md = 3 := by omega
  clear S M a0 a1 hk E h5 p0 p1 hv hmd yr
  go_enter Try.func96, Try.ntmps96
  go_upto_region 3 with fail
  go_wp2_with fail
  refine Calls.mono HF.out ?_
  rintro e W ⟨rfl, nd, hW⟩
  have SS : Hid _ := Sh.drewN SH.out nd
  have c8 := (M1.drewN MH.out nd).c8
  have c11 := (M1.drewN MH.out nd).c11
  rw [← hW] at SS c8 c11
  have HW : Hid _ := hW
  clear HF SH MH c0 hW
  generalize outerB b = ou at *
  generalize lastB b = la at *
  generalize b.prgR % 16 - b.prgR % 2 = zz at *
  generalize b.prgR % 16 = yy at *
  have hx : (decide (2 ≤ x) = true ∧ ¬ x < 2) ∨ (decide (2 ≤ x) = false ∧ x < 2) := by
    by_cases h : 2 ≤ x
    · exact .inl ⟨decide_eq_true h, by omega⟩
    · exact .inr ⟨decide_eq_false h, by omega⟩
  rcases md4 with rfl | rfl | rfl | rfl
  · rcases hx with ⟨hx, hy⟩ | ⟨hx, hy⟩
    all_goals
      have HB : Hid (serialB b x = ou + 2 * zz + x) := by unfold Hid; rw [SB]; simp []
      clear SB
      go_wp2_with fail
      refine (PH.out W _ SS.out (by omega) (by omega)).mono ?_
      rintro e W' ⟨rfl, rfl⟩
      go_wp2
      go_ret
      exact ⟨by rw [← HV.out, HB.out]; rfl, nd, HW.out⟩
  · rcases hx with ⟨hx, hy⟩ | ⟨hx, hy⟩
    all_goals
      have HB : Hid (serialB b x = ou + 2 * zz + x) := by unfold Hid; rw [SB]; simp []
      clear SB
      go_wp2_with fail
      refine (PH.out W _ SS.out (by omega) (by omega)).mono ?_
      rintro e W' ⟨rfl, rfl⟩
      go_wp2
      go_ret
      exact ⟨by rw [← HV.out, HB.out]; rfl, nd, HW.out⟩
  · rcases hx with ⟨hx, hy⟩ | ⟨hx, hy⟩
    · have HB : Hid (serialB b x = ou + 2 * yy + x - 2) := by unfold Hid; rw [SB]; simp [hy]
      clear SB
      go_wp2_with fail
      refine (PH.out W _ SS.out (by omega) (by omega)).mono ?_
      rintro e W' ⟨rfl, rfl⟩
      go_wp2
      go_ret
      exact ⟨by rw [← HV.out, HB.out]; rfl, nd, HW.out⟩
    · have HB : Hid (serialB b x = ou + x) := by unfold Hid; rw [SB]; simp [hy]
      clear SB
      go_wp2_with fail
      refine (PH.out W _ SS.out (by omega) (by omega)).mono ?_
      rintro e W' ⟨rfl, rfl⟩
      go_wp2
      go_ret
      exact ⟨by rw [← HV.out, HB.out]; rfl, nd, HW.out⟩
  · rcases hx with ⟨hx, hy⟩ | ⟨hx, hy⟩
    · have HB : Hid (serialB b x = ou + la + x - 2) := by unfold Hid; rw [SB]; simp [hy]
      clear SB
      go_wp2_with fail
      refine (PH.out W _ SS.out (by omega) (by omega)).mono ?_
      rintro e W' ⟨rfl, rfl⟩
      go_wp2
      go_ret
      exact ⟨by rw [← HV.out, HB.out]; rfl, nd, HW.out⟩
    · have HB : Hid (serialB b x = ou + 2 * yy + x) := by unfold Hid; rw [SB]; simp [hy]
      clear SB
      go_wp2_with fail
      refine (PH.out W _ SS.out (by omega) (by omega)).mono ?_
      rintro e W' ⟨rfl, rfl⟩
      go_wp2
      go_ret
      exact ⟨by rw [← HV.out, HB.out]; rfl, nd, HW.out⟩
end Go.Proofs.Ytggphgmpdanliaa
namespace Go.Proofs.Ytggphgmpdanliaa
open Go.RowKit Classical
set_option maxRecDepth 100000 in
theorem chr1_any (w : World) (m : Nat) (b : Bd) (x : Int) (S : Sh w m b) (M : M1 w m b) (a0 : 0 ≤ b.chrA) (a1 : b.chrA ≤ 255) (r0 : 0 ≤ b.chrB) (r1 : b.chrB ≤ 255) (t0 : 0 ≤ b.ctrl) (t1 : b.ctrl ≤ 255) (p0 : 8 ≤ b.chr) (p1 : b.chr ≤ 512) (n0 : 0 ≤ x) (n1 : x ≤ 7) (hk : b.kind = 1) :
    Calls Try.prog 97 #[.pointer (some ⟨m, 0, none⟩), .int .i64 x] w fun e w' => e = .returned (.int .i64 (chrB b x)) ∧ ∃ n, w' = w.drewN n := by
  have E : chrB b x = (if b.ctrl / 16 % 2 = 0 then 4 * (b.chrA - b.chrA % 2) + x else if x < 4 then 4 * b.chrA + x else 4 * b.chrB + x - 4) % b.chr := by simp [chrB, chrN, hk]
  rw [E]
  have e16 := bit16 t0 t1
  have c8 := M.c8
  have c9 := M.c9
  have c10 := M.c10
  by_cases h : b.ctrl / 16 % 2 = 0
  · have ev := even8 a0 a1
    have z0 : 0 ≤ b.chrA - b.chrA % 2 := by omega
    have z1 : b.chrA - b.chrA % 2 ≤ 255 := by omega
    rw [if_pos h]
    have H : Hid _ := inChr_any w.drew m b (4 * (b.chrA - b.chrA % 2) + x) S.drew p0 p1 (by omega) (by omega)
    rw [h] at e16
    generalize b.chrA - b.chrA % 2 = z at *
    clear S M p0 p1 hk E h
    go_enter Try.func97, Try.ntmps97
    go_upto_region 2 with fail
    go_still_tail 12, (by kernel_rfl)
    go_wp2_with fail
    refine Calls.mono H.out ?_
    rintro e W ⟨rfl, rfl⟩
    go_wp2
    go_ret
    exact ⟨rfl, 1, rfl⟩
  rw [if_neg h]
  rw [show b.ctrl / 16 % 2 = 1 by omega] at e16
  by_cases g : x < 4
  · rw [if_pos g]
    have H : Hid _ := inChr_any w.drew m b (4 * b.chrA + x) S.drew p0 p1 (by omega) (by omega)
    have hx : decide (x < 4) = true := decide_eq_true g
    clear S M p0 p1 hk E h g
    go_enter Try.func97, Try.ntmps97
    go_upto_region 4 with fail
    go_still_tail 11, (by kernel_rfl)
    go_wp2_with fail
    refine Calls.mono H.out ?_
    rintro e W ⟨rfl, rfl⟩
    go_wp2
    go_ret
    exact ⟨rfl, 1, rfl⟩
  · rw [if_neg g]
    have H : Hid _ := inChr_any w.drew m b (4 * b.chrB + x - 4) S.drew p0 p1 (by omega) (by omega)
    have hx : decide (x < 4) = false := decide_eq_false g
    clear S M p0 p1 hk E h g
    go_enter Try.func97, Try.ntmps97
    go_upto_region 5 with fail
    go_still_tail 12, (by kernel_rfl)
    go_wp2_with fail
    refine Calls.mono H.out ?_
    rintro e W ⟨rfl, rfl⟩
    go_wp2
    go_ret
    exact ⟨rfl, 1, rfl⟩
theorem mode1_any (w : World) (m : Nat) (b : Bd) (M : M1 w m b) (r0 : 0 ≤ b.prgR) (r1 : b.prgR ≤ 255) (hk : b.kind = 1) :
    Calls Try.prog 101 #[.pointer (some ⟨m, 0, none⟩)] w fun e w' => e = .returned (.int .i64 (modeB b)) ∧ ∃ n, w' = w.drewN n := by
  have E : modeB b = if b.prgR / 16 % 2 = 1 then 0 else 2 := by simp [modeB, hk]
  rw [E]
  have e16 := bit16 r0 r1
  have c11 := M.c11
  by_cases h : b.prgR / 16 % 2 = 1
  · rw [if_pos h]
    rw [h] at e16
    clear M E h hk
    go_enter Try.func101, Try.ntmps101
    go_wp2
    go_ret
    exact ⟨rfl, 0, rfl⟩
  · rw [if_neg h]
    rw [show b.prgR / 16 % 2 = 0 by omega] at e16
    clear M E h hk
    go_enter Try.func101, Try.ntmps101
    go_wp2
    go_ret
    exact ⟨rfl, 0, rfl⟩
/-- The cells of an MMC1's block. -/
theorem m1_of {w : World} {m : Nat} {b : Bd} {t : TypeId} (K : Blk w m (k1c b) t) : M1 w m b := ⟨(K.cell 7).trans rfl, (K.cell 8).trans rfl, (K.cell 9).trans rfl, (K.cell 10).trans rfl, (K.cell 11).trans rfl, (K.cell 12).trans rfl⟩
theorem sh_of1 {w : World} {m : Nat} {b : Bd} {t : TypeId} (K : Blk w m (k1c b) t) : Sh w m b := ⟨(K.cell 0).trans rfl, (K.cell 1).trans rfl, (K.cell 2).trans rfl, (K.cell 3).trans rfl, (K.cell 4).trans rfl, (K.cell 5).trans rfl, (K.cell 6).trans rfl⟩
theorem sh_of0 {w : World} {m : Nat} {b : Bd} {t : TypeId} (K : Blk w m (k0c b) t) : Sh w m b := ⟨(K.cell 0).trans rfl, (K.cell 1).trans rfl, (K.cell 2).trans rfl, (K.cell 3).trans rfl, (K.cell 4).trans rfl, (K.cell 5).trans rfl, (K.cell 6).trans rfl⟩
theorem sh_ofL {w : World} {m : Nat} {b : Bd} {t : TypeId} (K : Blk w m (kLc b) t) : Sh w m b := ⟨(K.cell 0).trans rfl, (K.cell 1).trans rfl, (K.cell 2).trans rfl, (K.cell 3).trans rfl, (K.cell 4).trans rfl, (K.cell 5).trans rfl, (K.cell 6).trans rfl⟩
theorem lt_ofL {w : World} {m : Nat} {b : Bd} {t : TypeId} (K : Blk w m (kLc b) t) : w.cell? ⟨m, 7, none⟩ = some (.int .u8 b.latch) := (K.cell 7).trans rfl
set_option maxRecDepth 100000 in
theorem push_any (w : World) (m : Nat) (b : Bd) (t : TypeId) (a y : Int) (s0 : 0 ≤ b.shift) (s1 : b.shift ≤ 31) (a0 : 0 ≤ a) (a1 : a ≤ 65535) (y0 : 0 ≤ y) (y1 : y < 2) (K : Blk w m (k1c b) t) :
    Calls Try.prog 105 #[.pointer (some ⟨m, 0, none⟩), .int .u16 a, .int .u8 y] w fun e w' => e = .returned (.tuple #[]) ∧ Only m w w' ∧ Blk w' m (k1c (pushB b a y)) t := by
  have c7 := (m1_of K).c7
  have c8 := (m1_of K).c8
  have c9 := (m1_of K).c9
  have c10 := (m1_of K).c10
  have c11 := (m1_of K).c11
  have f7 := K.free 7
  have f8 := K.free 8
  have f9 := K.free 9
  have f10 := K.free 10
  have f11 := K.free 11
  have e1 := and1 s0 (by omega)
  have ep := orPush (x := b.shift / 2) (y := y) (by omega) (by omega) y0 y1
  have a3 : bits .and .u16 (a / 8192) 3 = a / 8192 % 4 := by
    have := and3w (a / 8192).toNat (by omega)
    rwa [show (((a / 8192).toNat : Nat) : Int) = a / 8192 by omega] at this
  have t0 : 0 ≤ b.shift / 2 + y * 16 := by omega
  have t1 : b.shift / 2 + y * 16 ≤ 255 := by omega
  have ym : y % 2 = y := by omega
  by_cases h : b.shift % 2 = 0
  · have E : pushB b a y = { b with shift := b.shift / 2 + y * 16 } := by simp [pushB, h, ym]
    rw [E]
    have KH : Hid _ := K.set 7 (.int .u8 (b.shift / 2 + y * 16))
    rw [h] at e1
    have q0 : 0 ≤ b.shift / 2 := by omega
    have q1 : b.shift / 2 ≤ 15 := by omega
    clear K E h ym a3 c8 c9 c10 c11 f8 f9 f10 f11
    go_enter Try.func105, Try.ntmps105
    go_wp2
    refine bodyPost_ret (results_none rfl _ _ _) rfl ?_
    exact ⟨rfl, Only.one 7 _ (Only.refl m w), KH.out⟩
  rw [show b.shift % 2 = 1 by omega] at e1
  have ad : a / 8192 % 4 = 0 ∨ a / 8192 % 4 = 1 ∨ a / 8192 % 4 = 2 ∨ a / 8192 % 4 = 3 := by omega
  have q0 : 0 ≤ b.shift / 2 := by omega
  have q1 : b.shift / 2 ≤ 15 := by omega
  have d0 : 0 ≤ a / 8192 := by omega
  have d1 : a / 8192 ≤ 7 := by omega
  rcases ad with ad | ad | ad | ad
  · have E : pushB b a y = { b with shift := 16, ctrl := b.shift / 2 + y * 16 } := by simp [pushB, h, ym, ad]
    rw [E]
    have KH : Hid _ := (K.set 7 (.int .u8 16)).set 8 (.int .u8 (b.shift / 2 + y * 16))
    rw [ad] at a3
    clear K E h ym ad a0 a1
    go_enter Try.func105, Try.ntmps105
    go_wp2
    go_end0
    exact ⟨rfl, Only.one 8 _ (Only.one 7 _ (Only.refl m w)), KH.out⟩
  · have E : pushB b a y = { b with shift := 16, chrA := b.shift / 2 + y * 16 } := by simp [pushB, h, ym, ad]
    rw [E]
    have KH : Hid _ := (K.set 7 (.int .u8 16)).set 9 (.int .u8 (b.shift / 2 + y * 16))
    rw [ad] at a3
    clear K E h ym ad a0 a1
    go_enter Try.func105, Try.ntmps105
    go_wp2
    go_end0
    exact ⟨rfl, Only.one 9 _ (Only.one 7 _ (Only.refl m w)), KH.out⟩
  · have E : pushB b a y = { b with shift := 16, chrB := b.shift / 2 + y * 16 } := by simp [pushB, h, ym, ad]
    rw [E]
    have KH : Hid _ := (K.set 7 (.int .u8 16)).set 10 (.int .u8 (b.shift / 2 + y * 16))
    rw [ad] at a3
    clear K E h ym ad a0 a1
    go_enter Try.func105, Try.ntmps105
    go_wp2
    go_end0
    exact ⟨rfl, Only.one 10 _ (Only.one 7 _ (Only.refl m w)), KH.out⟩
  · have E : pushB b a y = { b with shift := 16, prgR := b.shift / 2 + y * 16 } := by simp [pushB, h, ym, ad]
    rw [E]
    have KH : Hid _ := (K.set 7 (.int .u8 16)).set 11 (.int .u8 (b.shift / 2 + y * 16))
    rw [ad] at a3
    clear K E h ym ad a0 a1
    go_enter Try.func105, Try.ntmps105
    go_wp2
    go_end0
    exact ⟨rfl, Only.one 11 _ (Only.one 7 _ (Only.refl m w)), KH.out⟩
set_option maxRecDepth 100000 in
theorem write1_any (w : World) (m : Nat) (b : Bd) (t : TypeId) (a v u c : Int) (s0 : 0 ≤ b.shift) (s1 : b.shift ≤ 31) (a0 : 0 ≤ a) (a1 : a ≤ 65535) (v0 : 0 ≤ v) (v1 : v ≤ 255) (c0 : 0 ≤ c) (c1 : c ≤ 9223372036854775807) (K : Blk w m (k1c b) t) :
    Calls Try.prog 102 #[.pointer (some ⟨m, 0, none⟩), .int .u16 a, .int .u8 v, .int .u8 u, .int .i64 c] w fun e w' => e = .returned (.tuple #[]) ∧ Only m w w' ∧ Blk w' m (k1c (wr1 b a v c)) t := by
  have c7 := (m1_of K).c7
  have c8 := (m1_of K).c8
  have c12 := (m1_of K).c12
  have f7 := K.free 7
  have f8 := K.free 8
  have f12 := K.free 12
  have e128 := bit128 v0 v1
  have e1 := and1 v0 v1
  by_cases h : c - 1 = b.last
  · have E : wr1 b a v c = { b with last := c } := by simp [wr1, h]
    rw [E]
    have KH : Hid _ := K.set 12 (.int .i64 c)
    have hb : (c - 1 == b.last) = true := by simpa using h
    clear K E h
    go_enter Try.func102, Try.ntmps102
    go_wp2
    go_end0
    exact ⟨rfl, Only.one 12 _ (Only.refl m w), KH.out⟩
  have hb : (c - 1 == b.last) = false := by simpa using h
  by_cases g : 128 ≤ v
  · have E : wr1 b a v c = { b with last := c, shift := 16, ctrl := bits .or .u8 b.ctrl 12 } := by simp [wr1, h, g]
    rw [E]
    have KH : Hid _ := ((K.set 12 (.int .i64 c)).set 7 (.int .u8 16)).set 8 (.int .u8 (bits .or .u8 b.ctrl 12))
    rw [show v / 128 % 2 = 1 by omega] at e128
    clear K E h g e1
    go_enter Try.func102, Try.ntmps102
    go_wp2
    go_end0
    exact ⟨rfl, Only.one 8 _ (Only.one 7 _ (Only.one 12 _ (Only.refl m w))), KH.out⟩
  · have E : wr1 b a v c = pushB { b with last := c } a (v % 2) := by
      have : ∀ x : Bd, pushB x a v = pushB x a (v % 2) := fun x => by unfold pushB; rw [show v % 2 % 2 = v % 2 by omega]
      simp only [wr1, h, g, if_false, this]
    rw [E]
    have PH : Hid _ := push_any (w.setCell ⟨m, 12, none⟩ (.int .i64 c)) m { b with last := c } t a (v % 2) s0 s1 a0 a1 (by omega) (by omega) (K.set 12 (.int .i64 c))
    have hbel : Only m w (w.setCell ⟨m, 12, none⟩ (.int .i64 c)) := Only.one 12 _ (Only.refl m w)
    rw [show v / 128 % 2 = 0 by omega] at e128
    generalize v % 2 = y at *
    clear K E h g
    go_enter Try.func102, Try.ntmps102
    go_wp2_with fail
    refine Calls.mono PH.out ?_
    rintro e W ⟨rfl, hb2, K2⟩
    have KH : Hid (Blk W m (k1c (pushB { b with last := c } a y)) t) := K2
    clear K2 PH
    go_wp2
    go_end0
    exact ⟨rfl, hbel.trans hb2, KH.out⟩
end Go.Proofs.Ytggphgmpdanliaa
namespace Go.Proofs.Ytggphgmpdanliaa
open Go.RowKit Classical
set_option maxRecDepth 100000 in
set_option maxHeartbeats 1000000 in
theorem mirror1_any (w : World) (m : Nat) (b : Bd) (S : Sh w m b) (M : M1 w m b) (t0 : 0 ≤ b.ctrl) (t1 : b.ctrl ≤ 255) (hm : m < w.heap.size) (hk : b.kind = 1) :
    Calls Try.prog 98 #[.pointer (some ⟨m, 0, none⟩)] w fun e w' => e = .returned (.int .u8 (mirB b)) ∧ Below w.heap.size w w' := by
  have E : mirB b = wiredV b (if b.ctrl % 4 = 0 then 2 else if b.ctrl % 4 = 1 then 3 else if b.ctrl % 4 = 2 then 1 else 0) := by simp [mirB, hk, wiredV]
  rw [E]
  have e3 := and3 t0 t1
  have c8 := M.c8
  have md : b.ctrl % 4 = 0 ∨ b.ctrl % 4 = 1 ∨ b.ctrl % 4 = 2 ∨ b.ctrl % 4 = 3 := by omega
  obtain ⟨z, hz⟩ : ∃ z : Int, (if b.ctrl % 4 = 0 then (2 : Int) else if b.ctrl % 4 = 1 then 3 else if b.ctrl % 4 = 2 then 1 else 0) = z := ⟨_, rfl⟩
  rw [hz]
  have HZ : Hid _ := hz
  clear hk E M hz
  go_enter Try.func98, Try.ntmps98
  go_upto_region 2 with fail
  have z0 : Blk (w.alloc (.cells #[.int .u8 2, .int .u8 3, .int .u8 1, .int .u8 0] 133)) w.heap.size #[.int .u8 2, .int .u8 3, .int .u8 1, .int .u8 0] 133 := Blk.new w _ _
  have hb0 : Below w.heap.size w (w.alloc (.cells #[.int .u8 2, .int .u8 3, .int .u8 1, .int .u8 0] 133)) := (Below.refl _ _).alloc (Nat.le_refl _) _
  generalize w.alloc (.cells #[.int .u8 2, .int .u8 3, .int .u8 1, .int .u8 0] 133) = W0 at *
  have d8 := (hb0.cell (p := ⟨m, 8, none⟩) hm).trans c8
  have hc := fun i => hb0.cell (p := ⟨m, i, none⟩) hm
  have S0 : Sh W0 m b := ⟨(hc 0).trans S.c0, (hc 1).trans S.c1, (hc 2).trans S.c2, (hc 3).trans S.c3, (hc 4).trans S.c4, (hc 5).trans S.c5, (hc 6).trans S.c6⟩
  have y0 := z0.cell 0
  have y1 := z0.cell 1
  have y2 := z0.cell 2
  have y3 := z0.cell 3
  have HW : Hid _ := fun x => wired_if W0.drew m b x S0.drew
  clear S S0 hc c8 z0
  rcases md with md | md | md | md
  · obtain rfl : z = 2 := by rw [← HZ.out, md]; rfl
    rw [md] at e3
    clear HZ md
    go_still_tail 10, (by kernel_rfl)
    go_wp2_with fail
    refine (HW.out _).mono ?_
    rintro e W ⟨rfl, rfl⟩
    go_wp2
    go_ret
    exact ⟨rfl, hb0.drew⟩
  · obtain rfl : z = 3 := by rw [← HZ.out, md]; rfl
    rw [md] at e3
    clear HZ md
    go_still_tail 10, (by kernel_rfl)
    go_wp2_with fail
    refine (HW.out _).mono ?_
    rintro e W ⟨rfl, rfl⟩
    go_wp2
    go_ret
    exact ⟨rfl, hb0.drew⟩
  · obtain rfl : z = 1 := by rw [← HZ.out, md]; rfl
    rw [md] at e3
    clear HZ md
    go_still_tail 10, (by kernel_rfl)
    go_wp2_with fail
    refine (HW.out _).mono ?_
    rintro e W ⟨rfl, rfl⟩
    go_wp2
    go_ret
    exact ⟨rfl, hb0.drew⟩
  · obtain rfl : z = 0 := by rw [← HZ.out, md]; rfl
    rw [md] at e3
    clear HZ md
    go_still_tail 10, (by kernel_rfl)
    go_wp2_with fail
    refine (HW.out _).mono ?_
    rintro e W ⟨rfl, rfl⟩
    go_wp2
    go_ret
    exact ⟨rfl, hb0.drew⟩
theorem run_min2 (P : Program) (ats : Array TypeId) (ty : TypeId) (a b : Int) (w : World) :
    (Builtin.min_ ats ty #[.int .i64 a, .int .i64 b]).run P w = .ok (.int .i64 (if b < a then b else a)) w := by
  unfold Builtin.min_
  simp only [List.foldlM_cons, List.foldlM_nil, Builtin.min2, Sem.run_bind, Sem.run_pure, Result.andThen_ok, gt_iff_lt]
set_option maxRecDepth 100000 in
set_option maxHeartbeats 1000000 in
theorem nextEpoch_any (w : World) (m : Nat) (e : Int) (e0 : 0 ≤ e) (e1 : e ≤ 4611686018427387904) (c6 : w.cell? ⟨m, 6, none⟩ = some (.int .i64 e)) (f6 : w.frozen? ⟨m, 6, none⟩ = false) :
    Calls Try.prog 87 #[.pointer (some ⟨m, 0, none⟩)] w fun r w' => r = .returned (.tuple #[]) ∧ w' = w.setCell ⟨m, 6, none⟩ (.int .i64 (upB e)) := by
  have hm := fun (ats : Array TypeId) (ty : TypeId) (w : World) => run_min2 Try.prog ats ty (e + 1) 4611686018427387904 w
  have E : (if (4611686018427387904 : Int) < e + 1 then (4611686018427387904 : Int) else e + 1) = upB e := by unfold upB; split <;> split <;> omega
  rw [E] at hm
  generalize upB e = z at *
  clear E
  go_enter Try.func87, Try.ntmps87
  go_wp2
  go_end0
  exact ⟨rfl, rfl⟩
end Go.Proofs.Ytggphgmpdanliaa
