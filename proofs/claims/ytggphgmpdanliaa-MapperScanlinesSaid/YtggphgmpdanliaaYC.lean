/-
  What bank of an MMC3 answers; conditions: the cells that it reads hold the board's numbers.
  What mirror and workMode of an MMC3 answer; conditions: the cells that they read hold the board's numbers.
  What write of an MMC3 does; conditions: the block holds the kind's cells.
-/
import Derived.Test.YtggphgmpdanliaaYA
set_option linter.unusedSimpArgs false
set_option linter.unusedVariables false
namespace Go.Proofs.Ytggphgmpdanliaa
open Go.RowKit Classical
set_option maxRecDepth 100000 in
set_option maxHeartbeats 1000000 in
theorem bank4_any (w : World) (m : Nat) (b : Bd) (x : Int) (S : Sh w m b) (M : M4 w m b) (s0 : 0 ≤ b.sel) (s1 : b.sel ≤ 255) (q0 : ∀ i, 0 ≤ b.r.getD i 0) (q1 : ∀ i, b.r.getD i 0 ≤ 255) (p0 : 2 ≤ b.prg) (p1 : b.prg ≤ 128) (n0 : 0 ≤ x) (n1 : x ≤ 3) (hk : b.kind = 4) :
    Calls Try.prog 109 #[.pointer (some ⟨m, 0, none⟩), .int .i64 x] w fun e w' => e = .returned (.int .i64 (bankB b x)) ∧ ∃ n, w' = w.drewN n := by
  have E : bankB b x = scanB b x % b.prg := by simp [bankB, bankN, hk]
  rw [E]
  have e64 := bit64 s0 s1
  have c4 := S.c4
  have c7 := M.c7
  have c14 : w.cell? ⟨m, 14, none⟩ = some (.int .u8 (b.r.getD 6 0)) := M.r 6 (by decide)
  have c15 : w.cell? ⟨m, 15, none⟩ = some (.int .u8 (b.r.getD 7 0)) := M.r 7 (by decide)
  have g60 := q0 6
  have g61 := q1 6
  have g70 := q0 7
  have g71 := q1 7
  have PH : Hid _ := fun (n : Int) (q0 : 0 ≤ n) (q1 : n ≤ 300) => inPrg_any w.drew m b n S.drew p0 p1 q0 (by omega)
  have sb : b.sel / 64 % 2 = 0 ∨ b.sel / 64 % 2 = 1 := by omega
  have hx : x = 0 ∨ x = 1 ∨ x = 2 ∨ x = 3 := by omega
  have SBH : Hid (scanB b x = (if x = 1 then b.r.getD 7 0 % 64 else if x = 3 then b.prg - 1 else if (x = 0 ∧ b.sel / 64 % 2 = 0) ∨ (x = 2 ∧ b.sel / 64 % 2 = 1) then b.r.getD 6 0 % 64 else b.prg - 2)) := rfl
  obtain ⟨v, hv⟩ : ∃ v, scanB b x % b.prg = v := ⟨_, rfl⟩
  rw [hv]
  have HV : Hid _ := hv
  have h60 : 0 ≤ b.r.getD 6 0 % 64 := by omega
  have h61 : b.r.getD 6 0 % 64 ≤ 63 := by omega
  have h70 : 0 ≤ b.r.getD 7 0 % 64 := by omega
  have h71 : b.r.getD 7 0 % 64 ≤ 63 := by omega
  clear S M hk E q0 q1 s0 s1 hv n0 n1
  generalize b.r.getD 6 0 = r6 at *
  generalize b.r.getD 7 0 = r7 at *
  rcases sb with sb | sb <;> rcases hx with rfl | rfl | rfl | rfl
  · have HB : Hid (scanB b 0 = r6 % 64) := by unfold Hid; rw [SBH.out]; simp [sb]
    rw [sb] at e64
    have xf : bits .xor .i64 0 2 = 2 := by decide
    clear SBH sb
    go_enter Try.func109, Try.ntmps109
    go_upto_region 5 with fail
    go_still_tail 10, (by kernel_rfl)
    go_wp2_with fail
    refine (PH.out _ (by omega) (by omega)).mono ?_
    rintro e W ⟨rfl, rfl⟩
    go_wp2
    go_ret
    exact ⟨by rw [← HV.out, HB.out]; first | rfl | (rw [show r6 % 64 = b.prg - 4 + 0 by omega]; rfl), 1, rfl⟩
  · have HB : Hid (scanB b 1 = r7 % 64) := by unfold Hid; rw [SBH.out]; simp [sb]
    rw [sb] at e64
    have xf : bits .xor .i64 1 2 = 3 := by decide
    clear SBH sb
    go_enter Try.func109, Try.ntmps109
    go_upto_region 7 with fail
    go_still_tail 10, (by kernel_rfl)
    go_wp2_with fail
    refine (PH.out _ (by omega) (by omega)).mono ?_
    rintro e W ⟨rfl, rfl⟩
    go_wp2
    go_ret
    exact ⟨by rw [← HV.out, HB.out]; first | rfl | (rw [show r7 % 64 = b.prg - 4 + 1 by omega]; rfl), 1, rfl⟩
  · have HB : Hid (scanB b 2 = b.prg - 2) := by unfold Hid; rw [SBH.out]; simp [sb]
    rw [sb] at e64
    have xf : bits .xor .i64 2 2 = 0 := by decide
    clear SBH sb
    go_enter Try.func109, Try.ntmps109
    go_upto_region 8 with fail
    go_still_tail 11, (by kernel_rfl)
    go_wp2_with fail
    refine (PH.out _ (by omega) (by omega)).mono ?_
    rintro e W ⟨rfl, rfl⟩
    go_wp2
    go_ret
    exact ⟨by rw [← HV.out, HB.out]; first | rfl | (rw [show b.prg - 2 = b.prg - 4 + 2 by omega]; rfl), 1, rfl⟩
  · have HB : Hid (scanB b 3 = b.prg - 1) := by unfold Hid; rw [SBH.out]; simp [sb]
    rw [sb] at e64
    have xf : bits .xor .i64 3 2 = 1 := by decide
    clear SBH sb
    go_enter Try.func109, Try.ntmps109
    go_upto_region 8 with fail
    go_still_tail 11, (by kernel_rfl)
    go_wp2_with fail
    refine (PH.out _ (by omega) (by omega)).mono ?_
    rintro e W ⟨rfl, rfl⟩
    go_wp2
    go_ret
    exact ⟨by rw [← HV.out, HB.out]; first | rfl | (rw [show b.prg - 1 = b.prg - 4 + 3 by omega]; rfl), 1, rfl⟩
  · have HB : Hid (scanB b 0 = b.prg - 2) := by unfold Hid; rw [SBH.out]; simp [sb]
    rw [sb] at e64
    have xf : bits .xor .i64 0 2 = 2 := by decide
    clear SBH sb
    go_enter Try.func109, Try.ntmps109
    go_upto_region 8 with fail
    go_still_tail 11, (by kernel_rfl)
    go_wp2_with fail
    refine (PH.out _ (by omega) (by omega)).mono ?_
    rintro e W ⟨rfl, rfl⟩
    go_wp2
    go_ret
    exact ⟨by rw [← HV.out, HB.out]; first | rfl | (rw [show b.prg - 2 = b.prg - 4 + 2 by omega]; rfl), 1, rfl⟩
  · have HB : Hid (scanB b 1 = r7 % 64) := by unfold Hid; rw [SBH.out]; simp [sb]
    rw [sb] at e64
    have xf : bits .xor .i64 1 2 = 3 := by decide
    clear SBH sb
    go_enter Try.func109, Try.ntmps109
    go_upto_region 7 with fail
    go_still_tail 10, (by kernel_rfl)
    go_wp2_with fail
    refine (PH.out _ (by omega) (by omega)).mono ?_
    rintro e W ⟨rfl, rfl⟩
    go_wp2
    go_ret
    exact ⟨by rw [← HV.out, HB.out]; first | rfl | (rw [show r7 % 64 = b.prg - 4 + 1 by omega]; rfl), 1, rfl⟩
  · have HB : Hid (scanB b 2 = r6 % 64) := by unfold Hid; rw [SBH.out]; simp [sb]
    rw [sb] at e64
    have xf : bits .xor .i64 2 2 = 0 := by decide
    clear SBH sb
    go_enter Try.func109, Try.ntmps109
    go_upto_region 5 with fail
    go_still_tail 10, (by kernel_rfl)
    go_wp2_with fail
    refine (PH.out _ (by omega) (by omega)).mono ?_
    rintro e W ⟨rfl, rfl⟩
    go_wp2
    go_ret
    exact ⟨by rw [← HV.out, HB.out]; first | rfl | (rw [show r6 % 64 = b.prg - 4 + 0 by omega]; rfl), 1, rfl⟩
  · have HB : Hid (scanB b 3 = b.prg - 1) := by unfold Hid; rw [SBH.out]; simp [sb]
    rw [sb] at e64
    have xf : bits .xor .i64 3 2 = 1 := by decide
    clear SBH sb
    go_enter Try.func109, Try.ntmps109
    go_upto_region 8 with fail
    go_still_tail 11, (by kernel_rfl)
    go_wp2_with fail
    refine (PH.out _ (by omega) (by omega)).mono ?_
    rintro e W ⟨rfl, rfl⟩
    go_wp2
    go_ret
    exact ⟨by rw [← HV.out, HB.out]; first | rfl | (rw [show b.prg - 1 = b.prg - 4 + 3 by omega]; rfl), 1, rfl⟩
end Go.Proofs.Ytggphgmpdanliaa
namespace Go.Proofs.Ytggphgmpdanliaa
open Go.RowKit Classical
set_option maxRecDepth 100000 in
set_option maxHeartbeats 1000000 in
theorem mirror4_any (w : World) (m : Nat) (b : Bd) (S : Sh w m b) (M : M4 w m b) (hk : b.kind = 4) :
    Calls Try.prog 112 #[.pointer (some ⟨m, 0, none⟩)] w fun e w' => e = .returned (.int .u8 (mirB b)) ∧ ∃ n, w' = w.drewN n := by
  have E : mirB b = wiredV b (if b.turn = 0 then 1 else 0) := by simp [mirB, hk, wiredV]
  rw [E]
  have c16 := M.c16
  by_cases h : b.turn = 0
  · have H : Hid _ := wired_if w m b 1 S
    rw [if_pos h]
    rw [h] at c16
    clear S M hk E h
    go_enter Try.func112, Try.ntmps112
    go_wp2_with fail
    refine Calls.mono H.out ?_
    rintro e W ⟨rfl, rfl⟩
    go_wp2
    go_ret
    exact ⟨rfl, 0, rfl⟩
  · have H : Hid _ := wired_if w m b 0 S
    rw [if_neg h]
    have hb : (b.turn == 0) = false := by simpa using h
    clear S M hk E h
    go_enter Try.func112, Try.ntmps112
    go_wp2_with fail
    refine Calls.mono H.out ?_
    rintro e W ⟨rfl, rfl⟩
    go_wp2
    go_ret
    exact ⟨rfl, 0, rfl⟩
set_option maxRecDepth 100000 in
set_option maxHeartbeats 1000000 in
theorem mode4_any (w : World) (m : Nat) (b : Bd) (M : M4 w m b) (g0 : 0 ≤ b.guard) (g1 : b.guard ≤ 255) (hk : b.kind = 4) :
    Calls Try.prog 116 #[.pointer (some ⟨m, 0, none⟩)] w fun e w' => e = .returned (.int .i64 (modeB b)) ∧ ∃ n, w' = w.drewN n := by
  have E : modeB b = if b.guard < 128 then 0 else if b.guard / 64 % 2 = 1 then 1 else 2 := by simp [modeB, hk]
  rw [E]
  have e128 := bit128 g0 g1
  have e64 := bit64 g0 g1
  have c17 := M.c17
  clear M E hk
  by_cases h : b.guard < 128
  · rw [if_pos h]
    rw [show b.guard / 128 % 2 = 0 by omega] at e128
    clear h e64
    go_enter Try.func116, Try.ntmps116
    go_wp2
    go_ret
    exact ⟨rfl, 0, rfl⟩
  rw [if_neg h]
  rw [show b.guard / 128 % 2 = 1 by omega] at e128
  by_cases g : b.guard / 64 % 2 = 1
  · rw [if_pos g]
    rw [g] at e64
    clear h g
    go_enter Try.func116, Try.ntmps116
    go_wp2
    go_ret
    exact ⟨rfl, 0, rfl⟩
  · rw [if_neg g]
    rw [show b.guard / 64 % 2 = 0 by omega] at e64
    clear h g
    go_enter Try.func116, Try.ntmps116
    go_wp2
    go_ret
    exact ⟨rfl, 0, rfl⟩
end Go.Proofs.Ytggphgmpdanliaa
namespace Go.Proofs.Ytggphgmpdanliaa
open Go.RowKit Classical
theorem mask_reg (n : Nat) (h0 : 32768 ≤ n) (h : n < 65536) : n &&& 57345 = 32768 + n / 8192 % 4 * 8192 + n % 2 := by
  have h1 : (n &&& 57345) / 2 ^ 13 = n / 8192 := by
    rw [Nat.and_div_two_pow, show 57345 / 2 ^ 13 = 2 ^ 3 - 1 by decide, Nat.and_two_pow_sub_one_eq_mod]
    omega
  have h2 : (n &&& 57345) % 2 ^ 13 = n % 2 := by
    rw [Nat.and_mod_two_pow, show 57345 % 2 ^ 13 = 1 by decide, Nat.and_one_is_mod]
    omega
  omega
theorem bits_reg {a : Int} (h0 : 32768 ≤ a) (h1 : a ≤ 65535) : bits .and .u16 a 57345 = 32768 + a / 8192 % 4 * 8192 + a % 2 := by
  rw [u16_and a 57345 (by omega) (by omega) (by decide) (by decide), show (57345 : Int).toNat = 57345 by rfl, mask_reg a.toNat (by omega) (by omega)]
  omega
set_option maxRecDepth 100000 in
set_option maxHeartbeats 1000000 in
theorem write4_any (w : World) (m : Nat) (b : Bd) (a v u c : Int) (hr : b.r.length = 8) (s0 : 0 ≤ b.sel) (s1 : b.sel ≤ 255) (h0 : 32768 ≤ a) (h1 : a ≤ 65535) (v0 : 0 ≤ v) (v1 : v ≤ 255) (K0 : Blk w m (k4c b) 111) :
    Calls Try.prog 117 #[.pointer (some ⟨m, 0, none⟩), .int .u16 a, .int .u8 v, .int .u8 u, .int .i64 c] w fun e w' => e = .returned (.tuple #[]) ∧ Only m w w' ∧ Blk w' m (k4c (wr4 b a v)) 111 := by
  obtain ⟨a0, a1, a2, a3, a4, a5, a6, a7, er⟩ := Bd.eight hr
  have K : Blk w m #[.int .i64 b.sub, .int .u8 b.hard, .bool b.work, .bool b.chrRam, .int .i64 b.prg, .int .i64 b.chr, .int .i64 b.epoch, .int .u8 b.sel, .int .u8 a0, .int .u8 a1, .int .u8 a2, .int .u8 a3, .int .u8 a4, .int .u8 a5, .int .u8 a6, .int .u8 a7, .int .u8 b.turn, .int .u8 b.guard, .int .u8 b.iLatch, .int .u8 b.iCount, .bool b.iLoad, .bool b.iOn, .bool b.irq] 111 := by
    have K4 : k4c b = #[.int .i64 b.sub, .int .u8 b.hard, .bool b.work, .bool b.chrRam, .int .i64 b.prg, .int .i64 b.chr, .int .i64 b.epoch, .int .u8 b.sel, .int .u8 a0, .int .u8 a1, .int .u8 a2, .int .u8 a3, .int .u8 a4, .int .u8 a5, .int .u8 a6, .int .u8 a7, .int .u8 b.turn, .int .u8 b.guard, .int .u8 b.iLatch, .int .u8 b.iCount, .bool b.iLoad, .bool b.iOn, .bool b.irq] := by unfold k4c; rw [er]; rfl
    rw [K4] at K0; exact K0
  have hcell := K.cell
  have hfree := K.free
  have eA := bits_reg h0 h1
  have e7 := and7 s0 s1
  have e1 := and1 v0 v1
  have ad : a / 8192 % 4 = 0 ∨ a / 8192 % 4 = 1 ∨ a / 8192 % 4 = 2 ∨ a / 8192 % 4 = 3 := by omega
  have ao : a % 2 = 0 ∨ a % 2 = 1 := by omega
  have wu : Hid (wr4 b a v = (if a / 8192 % 4 = 0 then (if a % 2 = 0 then { b with sel := bits .and .u8 v 199 } else { b with r := b.r.set (b.sel % 8).toNat v })
  else if a / 8192 % 4 = 1 then (if a % 2 = 0 then { b with turn := v % 2 } else { b with guard := bits .and .u8 v 192 })
  else if a / 8192 % 4 = 2 then (if a % 2 = 0 then { b with iLatch := v } else { b with iCount := 0, iLoad := true })
  else if a % 2 = 0 then { b with iOn := false, irq := false } else { b with iOn := true })) := rfl
  have RH : Hid _ := er
  clear er hr K0
  rcases ad with ad | ad | ad | ad <;> rcases ao with ao | ao
  · have E : Hid (wr4 b a v = { b with sel := bits .and .u8 v 199 }) := by unfold Hid; rw [wu.out]; simp [ad, ao]
    have KH : Hid _ := (K.set 7 (.int .u8 (bits .and .u8 v 199)))
    have d7 := hcell 7
    rw [ad, ao] at eA
    clear K wu ad ao h0 h1 hcell
    go_enter Try.func117, Try.ntmps117
    go_wp2
    go_end0
    refine ⟨rfl, (Only.one 7 _ (Only.refl m w)), ?_⟩
    rw [E.out]
    unfold k4c
    simp only [RH.out]
    exact KH.out
  · have E0 : Hid (wr4 b a v = { b with r := b.r.set (b.sel % 8).toNat v }) := by unfold Hid; rw [wu.out]; simp [ad, ao]
    rw [ad, ao] at eA
    have d7 : w.cell? ⟨m, 7, none⟩ = some (.int .u8 b.sel) := hcell 7
    clear wu ad ao h0 h1
    have sm : b.sel % 8 = 0 ∨ b.sel % 8 = 1 ∨ b.sel % 8 = 2 ∨ b.sel % 8 = 3 ∨ b.sel % 8 = 4 ∨ b.sel % 8 = 5 ∨ b.sel % 8 = 6 ∨ b.sel % 8 = 7 := by omega
    rcases sm with sm | sm | sm | sm | sm | sm | sm | sm
    · rw [sm] at e7
      have E : Hid (wr4 b a v = { b with r := [v, a1, a2, a3, a4, a5, a6, a7] }) := by unfold Hid; rw [E0.out, RH.out, sm]; rfl
      have KH : Hid _ := K.drew.set 8 (.int .u8 v)
      have d8 : w.cell? ⟨m, 8, none⟩ = some (.int .u8 a0) := hcell 8
      have f8 := hfree 8
      clear K hcell hfree sm E0
      go_enter Try.func117, Try.ntmps117
      go_upto_region 4 with fail
      go_still_tail 10, (by kernel_rfl)
      go_wp2
      go_end0
      refine ⟨rfl, Only.one 8 _ (Only.drew (Only.refl m w)), ?_⟩
      rw [E.out]
      exact KH.out
    · rw [sm] at e7
      have E : Hid (wr4 b a v = { b with r := [a0, v, a2, a3, a4, a5, a6, a7] }) := by unfold Hid; rw [E0.out, RH.out, sm]; rfl
      have KH : Hid _ := K.drew.set 9 (.int .u8 v)
      have d9 : w.cell? ⟨m, 9, none⟩ = some (.int .u8 a1) := hcell 9
      have f9 := hfree 9
      clear K hcell hfree sm E0
      go_enter Try.func117, Try.ntmps117
      go_upto_region 4 with fail
      go_still_tail 10, (by kernel_rfl)
      go_wp2
      go_end0
      refine ⟨rfl, Only.one 9 _ (Only.drew (Only.refl m w)), ?_⟩
      rw [E.out]
      exact KH.out
    · rw [sm] at e7
      have E : Hid (wr4 b a v = { b with r := [a0, a1, v, a3, a4, a5, a6, a7] }) := by unfold Hid; rw [E0.out, RH.out, sm]; rfl
      have KH : Hid _ := K.drew.set 10 (.int .u8 v)
      have d10 : w.cell? ⟨m, 10, none⟩ = some (.int .u8 a2) := hcell 10
      have f10 := hfree 10
      clear K hcell hfree sm E0
      go_enter Try.func117, Try.ntmps117
      go_upto_region 4 with fail
      go_still_tail 10, (by kernel_rfl)
      go_wp2
      go_end0
      refine ⟨rfl, Only.one 10 _ (Only.drew (Only.refl m w)), ?_⟩
      rw [E.out]
      exact KH.out
    · rw [sm] at e7
      have E : Hid (wr4 b a v = { b with r := [a0, a1, a2, v, a4, a5, a6, a7] }) := by unfold Hid; rw [E0.out, RH.out, sm]; rfl
      have KH : Hid _ := K.drew.set 11 (.int .u8 v)
      have d11 : w.cell? ⟨m, 11, none⟩ = some (.int .u8 a3) := hcell 11
      have f11 := hfree 11
      clear K hcell hfree sm E0
      go_enter Try.func117, Try.ntmps117
      go_upto_region 4 with fail
      go_still_tail 10, (by kernel_rfl)
      go_wp2
      go_end0
      refine ⟨rfl, Only.one 11 _ (Only.drew (Only.refl m w)), ?_⟩
      rw [E.out]
      exact KH.out
    · rw [sm] at e7
      have E : Hid (wr4 b a v = { b with r := [a0, a1, a2, a3, v, a5, a6, a7] }) := by unfold Hid; rw [E0.out, RH.out, sm]; rfl
      have KH : Hid _ := K.drew.set 12 (.int .u8 v)
      have d12 : w.cell? ⟨m, 12, none⟩ = some (.int .u8 a4) := hcell 12
      have f12 := hfree 12
      clear K hcell hfree sm E0
      go_enter Try.func117, Try.ntmps117
      go_upto_region 4 with fail
      go_still_tail 10, (by kernel_rfl)
      go_wp2
      go_end0
      refine ⟨rfl, Only.one 12 _ (Only.drew (Only.refl m w)), ?_⟩
      rw [E.out]
      exact KH.out
    · rw [sm] at e7
      have E : Hid (wr4 b a v = { b with r := [a0, a1, a2, a3, a4, v, a6, a7] }) := by unfold Hid; rw [E0.out, RH.out, sm]; rfl
      have KH : Hid _ := K.drew.set 13 (.int .u8 v)
      have d13 : w.cell? ⟨m, 13, none⟩ = some (.int .u8 a5) := hcell 13
      have f13 := hfree 13
      clear K hcell hfree sm E0
      go_enter Try.func117, Try.ntmps117
      go_upto_region 4 with fail
      go_still_tail 10, (by kernel_rfl)
      go_wp2
      go_end0
      refine ⟨rfl, Only.one 13 _ (Only.drew (Only.refl m w)), ?_⟩
      rw [E.out]
      exact KH.out
    · rw [sm] at e7
      have E : Hid (wr4 b a v = { b with r := [a0, a1, a2, a3, a4, a5, v, a7] }) := by unfold Hid; rw [E0.out, RH.out, sm]; rfl
      have KH : Hid _ := K.drew.set 14 (.int .u8 v)
      have d14 : w.cell? ⟨m, 14, none⟩ = some (.int .u8 a6) := hcell 14
      have f14 := hfree 14
      clear K hcell hfree sm E0
      go_enter Try.func117, Try.ntmps117
      go_upto_region 4 with fail
      go_still_tail 10, (by kernel_rfl)
      go_wp2
      go_end0
      refine ⟨rfl, Only.one 14 _ (Only.drew (Only.refl m w)), ?_⟩
      rw [E.out]
      exact KH.out
    · rw [sm] at e7
      have E : Hid (wr4 b a v = { b with r := [a0, a1, a2, a3, a4, a5, a6, v] }) := by unfold Hid; rw [E0.out, RH.out, sm]; rfl
      have KH : Hid _ := K.drew.set 15 (.int .u8 v)
      have d15 : w.cell? ⟨m, 15, none⟩ = some (.int .u8 a7) := hcell 15
      have f15 := hfree 15
      clear K hcell hfree sm E0
      go_enter Try.func117, Try.ntmps117
      go_upto_region 4 with fail
      go_still_tail 10, (by kernel_rfl)
      go_wp2
      go_end0
      refine ⟨rfl, Only.one 15 _ (Only.drew (Only.refl m w)), ?_⟩
      rw [E.out]
      exact KH.out
  · have E : Hid (wr4 b a v = { b with turn := v % 2 }) := by unfold Hid; rw [wu.out]; simp [ad, ao]
    have KH : Hid _ := (K.set 16 (.int .u8 (v % 2)))
    have d16 := hcell 16
    rw [ad, ao] at eA
    clear K wu ad ao h0 h1 hcell
    go_enter Try.func117, Try.ntmps117
    go_wp2
    go_end0
    refine ⟨rfl, (Only.one 16 _ (Only.refl m w)), ?_⟩
    rw [E.out]
    unfold k4c
    simp only [RH.out]
    exact KH.out
  · have E : Hid (wr4 b a v = { b with guard := bits .and .u8 v 192 }) := by unfold Hid; rw [wu.out]; simp [ad, ao]
    have KH : Hid _ := (K.set 17 (.int .u8 (bits .and .u8 v 192)))
    have d17 := hcell 17
    rw [ad, ao] at eA
    clear K wu ad ao h0 h1 hcell
    go_enter Try.func117, Try.ntmps117
    go_wp2
    go_end0
    refine ⟨rfl, (Only.one 17 _ (Only.refl m w)), ?_⟩
    rw [E.out]
    unfold k4c
    simp only [RH.out]
    exact KH.out
  · have E : Hid (wr4 b a v = { b with iLatch := v }) := by unfold Hid; rw [wu.out]; simp [ad, ao]
    have KH : Hid _ := (K.set 18 (.int .u8 v))
    have d18 := hcell 18
    rw [ad, ao] at eA
    clear K wu ad ao h0 h1 hcell
    go_enter Try.func117, Try.ntmps117
    go_wp2
    go_end0
    refine ⟨rfl, (Only.one 18 _ (Only.refl m w)), ?_⟩
    rw [E.out]
    unfold k4c
    simp only [RH.out]
    exact KH.out
  · have E : Hid (wr4 b a v = { b with iCount := 0, iLoad := true }) := by unfold Hid; rw [wu.out]; simp [ad, ao]
    have KH : Hid _ := ((K.set 19 (.int .u8 0)).set 20 (.bool true))
    have d19 := hcell 19
    have d20 := hcell 20
    rw [ad, ao] at eA
    clear K wu ad ao h0 h1 hcell
    go_enter Try.func117, Try.ntmps117
    go_wp2
    go_end0
    refine ⟨rfl, (Only.one 20 _ (Only.one 19 _ (Only.refl m w))), ?_⟩
    rw [E.out]
    unfold k4c
    simp only [RH.out]
    exact KH.out
  · have E : Hid (wr4 b a v = { b with iOn := false, irq := false }) := by unfold Hid; rw [wu.out]; simp [ad, ao]
    have KH : Hid _ := ((K.set 21 (.bool false)).set 22 (.bool false))
    have d21 := hcell 21
    have d22 := hcell 22
    rw [ad, ao] at eA
    clear K wu ad ao h0 h1 hcell
    go_enter Try.func117, Try.ntmps117
    go_wp2
    go_end0
    refine ⟨rfl, (Only.one 22 _ (Only.one 21 _ (Only.refl m w))), ?_⟩
    rw [E.out]
    unfold k4c
    simp only [RH.out]
    exact KH.out
  · have E : Hid (wr4 b a v = { b with iOn := true }) := by unfold Hid; rw [wu.out]; simp [ad, ao]
    have KH : Hid _ := (K.set 21 (.bool true))
    have d21 := hcell 21
    rw [ad, ao] at eA
    clear K wu ad ao h0 h1 hcell
    go_enter Try.func117, Try.ntmps117
    go_wp2
    go_end0
    refine ⟨rfl, (Only.one 21 _ (Only.refl m w)), ?_⟩
    rw [E.out]
    unfold k4c
    simp only [RH.out]
    exact KH.out
end Go.Proofs.Ytggphgmpdanliaa
