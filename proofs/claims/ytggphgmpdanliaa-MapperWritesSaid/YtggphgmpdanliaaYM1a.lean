/-
  What the methods of an MMC1 answer: half, bank; conditions: the cells that they read hold the board's numbers.
-/
import Derived.Test.YtggphgmpdanliaaYLat
set_option linter.unusedSimpArgs false
set_option linter.unusedVariables false
namespace Go.Proofs.Ytggphgmpdanliaa
open Go.RowKit
set_option maxRecDepth 100000 in
theorem half_any (w : World) (m : Nat) (b : Bd) (S : Sh w m b) (M : M1 w m b) (a0 : 0 ≤ b.chrA) (a1 : b.chrA ≤ 255) (p0 : 2 ≤ b.prg) (p1 : b.prg ≤ 128) :
    Calls Try.prog 103 #[.pointer (some ⟨m, 0, none⟩)] w fun e w' => e = .returned (.tuple #[.int .i64 (outerB b), .int .i64 (lastB b)]) ∧ ∃ n, w' = w.drewN n := by
  have c4 := S.c4
  have c9 := M.c9
  have e16 := bit16 a0 a1
  clear S M
  by_cases h : b.prg ≤ 32
  · have hd : decide (b.prg ≤ 32) = true := decide_eq_true h
    have E1 : outerB b = 0 := if_pos h
    have E2 : lastB b = b.prg - 2 := if_pos h
    rw [E1, E2]
    clear E1 E2 e16 c9 h
    go_enter Try.func103, Try.ntmps103
    go_upto_region 2 with fail
    go_quiet (fail)
    go_wp2
    go_ret2
    exact ⟨rfl, _, rfl⟩
  · have hd : decide (b.prg ≤ 32) = false := decide_eq_false h
    have E2 : lastB b = 30 := if_neg h
    by_cases g : b.chrA / 16 % 2 = 1
    · have E1 : outerB b = 32 := by simp [outerB, h, g]
      rw [E1, E2]
      rw [g] at e16
      clear E1 E2 h g
      go_enter Try.func103, Try.ntmps103
      go_wp2
      go_ret2
      exact ⟨rfl, 0, rfl⟩
    · have E1 : outerB b = 0 := by simp [outerB, h, g]
      rw [E1, E2]
      rw [show b.chrA / 16 % 2 = 0 by omega] at e16
      clear E1 E2 h g
      go_enter Try.func103, Try.ntmps103
      go_wp2
      go_ret2
      exact ⟨rfl, 0, rfl⟩
theorem outer_bd (b : Bd) (p0 : 2 ≤ b.prg) : 0 ≤ outerB b ∧ outerB b ≤ 32 ∧ 0 ≤ lastB b ∧ lastB b ≤ 30 := by
  unfold outerB lastB
  (repeat' split) <;> omega
theorem M1.drewN {w : World} {m : Nat} {b : Bd} (M : M1 w m b) (n : Nat) : M1 (w.drewN n) m b := ⟨M.c7, M.c8, M.c9, M.c10, M.c11, M.c12⟩
set_option maxRecDepth 100000 in
theorem bank1_any (w : World) (m : Nat) (b : Bd) (x : Int) (S : Sh w m b) (M : M1 w m b) (a0 : 0 ≤ b.chrA) (a1 : b.chrA ≤ 255) (r0 : 0 ≤ b.prgR) (r1 : b.prgR ≤ 255) (t0 : 0 ≤ b.ctrl) (t1 : b.ctrl ≤ 255) (p0 : 2 ≤ b.prg) (p1 : b.prg ≤ 128) (n0 : 0 ≤ x) (n1 : x ≤ 3) (hk : b.kind = 1) :
    Calls Try.prog 96 #[.pointer (some ⟨m, 0, none⟩), .int .i64 x] w fun e w' => e = .returned (.int .i64 (bankB b x)) ∧ ∃ n, w' = w.drewN n := by
  by_cases h5 : b.sub = 5
  · have E : bankB b x = x % b.prg := by simp [bankB, bankN, hk, h5]
    rw [E]
    have H : Hid _ := bank0_any w m b x S p0 p1 n0 n1
    have c0 := S.c0
    rw [h5] at c0
    clear S M hk E h5
    go_enter Try.func96, Try.ntmps96
    go_wp2_with fail
    refine Calls.mono H.out ?_
    rintro e W ⟨rfl, rfl⟩
    go_wp2
    go_ret
    exact ⟨rfl, 0, rfl⟩
  have E : bankB b x = serialB b x % b.prg := by simp [bankB, bankN, hk, h5]
  rw [E]
  obtain ⟨v, hv⟩ : ∃ v, serialB b x % b.prg = v := ⟨_, rfl⟩
  rw [hv]
  have HV : Hid _ := hv
  have c0 := S.c0
  have hb : (b.sub == 5) = false := by simpa using h5
  have HF : Hid _ := half_any w m b S M a0 a1 p0 p1
  obtain ⟨o0, o1, o2, o3⟩ := outer_bd b p0
  have e15 := and15 r0 r1
  have e4 := and3 (x := b.ctrl / 4) (by omega) (by omega)
  have ev := even64 (x := b.prgR % 16) (by omega) (by omega)
  have y0 : 0 ≤ b.prgR % 16 := by omega
  have y1 : b.prgR % 16 ≤ 15 := by omega
  have yr : b.prgR % 16 - b.prgR % 16 % 2 = b.prgR % 16 - b.prgR % 2 := by omega
  rw [yr] at ev
  have z0 : 0 ≤ b.prgR % 16 - b.prgR % 2 := by omega
  have z1 : b.prgR % 16 - b.prgR % 2 ≤ 15 := by omega
  have PH : Hid _ := fun (W : World) (n : Int) (SS : Sh W m b) (q0 : 0 ≤ n) (q1 : n ≤ 300) => inPrg_any W m b n SS p0 p1 q0 (by omega)
  have SH : Hid (Sh w m b) := S
  have MH : Hid (M1 w m b) := M
  obtain ⟨md, hmd⟩ : ∃ z, b.ctrl / 4 % 4 = z := ⟨_, rfl⟩
  rw [hmd] at e4
  have SB : serialB b x = if md < 2 then outerB b + 2 * (b.prgR % 16 - b.prgR % 2) + x else if md = 2 then (if x < 2 then outerB b + x else outerB b + 2 * (b.prgR % 16) + x - 2) else if x < 2 then outerB b + 2 * (b.prgR % 16) + x else outerB b + lastB b + x - 2 := by rw [← hmd]; rfl
  have md4 : md = 0 ∨ md = 1 ∨ md = 2 ∨ md = 3 := by omega
  clear S M a0 a1 hk E h5 p0 p1 hv hmd yr
  go_enter Try.func96, Try.ntmps96
  go_upto_region 3 with fail
  go_wp2_with fail
  refine Calls.mono HF.out ?_
  rintro e W ⟨rfl, nd, hW⟩
  have SS : Hid _ := Sh.drewN SH.out nd
  have c8 := (M1.drewN MH.out nd).c8
  have c11 := (M1.drewN MH.out nd).c11
  rw [← hW] at SS c8 c11
  have HW : Hid _ := hW
  clear HF SH MH c0 hW
  generalize outerB b = ou at *
  generalize lastB b = la at *
  generalize b.prgR % 16 - b.prgR % 2 = zz at *
  generalize b.prgR % 16 = yy at *
  have hx : (decide (2 ≤ x) = true ∧ ¬ x < 2) ∨ (decide (2 ≤ x) = false ∧ x < 2) := by
    by_cases h : 2 ≤ x
    · exact .inl ⟨decide_eq_true h, by omega⟩
    · exact .inr ⟨decide_eq_false h, by omega⟩
  rcases md4 with rfl | rfl | rfl | rfl
  · rcases hx with ⟨hx, hy⟩ | ⟨hx, hy⟩
    all_goals
      have HB : Hid (serialB b x = ou + 2 * zz + x) := by unfold Hid; rw [SB]; simp []
      clear SB
      go_wp2_with fail
      refine (PH.out W _ SS.out (by omega) (by omega)).mono ?_
      rintro e W' ⟨rfl, rfl⟩
      go_wp2
      go_ret
      exact ⟨by rw [← HV.out, HB.out]; rfl, nd, HW.out⟩
  · rcases hx with ⟨hx, hy⟩ | ⟨hx, hy⟩
    all_goals
      have HB : Hid (serialB b x = ou + 2 * zz + x) := by unfold Hid; rw [SB]; simp []
      clear SB
      go_wp2_with fail
      refine (PH.out W _ SS.out (by omega) (by omega)).mono ?_
      rintro e W' ⟨rfl, rfl⟩
      go_wp2
      go_ret
      exact ⟨by rw [← HV.out, HB.out]; rfl, nd, HW.out⟩
  · rcases hx with ⟨hx, hy⟩ | ⟨hx, hy⟩
    · have HB : Hid (serialB b x = ou + 2 * yy + x - 2) := by unfold Hid; rw [SB]; simp [hy]
      clear SB
      go_wp2_with fail
      refine (PH.out W _ SS.out (by omega) (by omega)).mono ?_
      rintro e W' ⟨rfl, rfl⟩
      go_wp2
      go_ret
      exact ⟨by rw [← HV.out, HB.out]; rfl, nd, HW.out⟩
    · have HB : Hid (serialB b x = ou + x) := by unfold Hid; rw [SB]; simp [hy]
      clear SB
      go_wp2_with fail
      refine (PH.out W _ SS.out (by omega) (by omega)).mono ?_
      rintro e W' ⟨rfl, rfl⟩
      go_wp2
      go_ret
      exact ⟨by rw [← HV.out, HB.out]; rfl, nd, HW.out⟩
  · rcases hx with ⟨hx, hy⟩ | ⟨hx, hy⟩
    · have HB : Hid (serialB b x = ou + la + x - 2) := by unfold Hid; rw [SB]; simp [hy]
      clear SB
      go_wp2_with fail
      refine (PH.out W _ SS.out (by omega) (by omega)).mono ?_
      rintro e W' ⟨rfl, rfl⟩
      go_wp2
      go_ret
      exact ⟨by rw [← HV.out, HB.out]; rfl, nd, HW.out⟩
    · have HB : Hid (serialB b x = ou + 2 * yy + x) := by unfold Hid; rw [SB]; simp [hy]
      clear SB
      go_wp2_with fail
      refine (PH.out W _ SS.out (by omega) (by omega)).mono ?_
      rintro e W' ⟨rfl, rfl⟩
      go_wp2
      go_ret
      exact ⟨by rw [← HV.out, HB.out]; rfl, nd, HW.out⟩
end Go.Proofs.Ytggphgmpdanliaa
