/-
  What bank of an MMC3 answers; conditions: the cells that it reads hold the board's numbers.
-/
import Derived.Test.YtggphgmpdanliaaYLat
set_option linter.unusedSimpArgs false
set_option linter.unusedVariables false
namespace Go.Proofs.Ytggphgmpdanliaa
open Go.RowKit
set_option maxRecDepth 100000 in
set_option maxHeartbeats 1000000 in
theorem bank4_any (w : World) (m : Nat) (b : Bd) (x : Int) (S : Sh w m b) (M : M4 w m b) (s0 : 0 ≤ b.sel) (s1 : b.sel ≤ 255) (q0 : ∀ i, 0 ≤ b.r.getD i 0) (q1 : ∀ i, b.r.getD i 0 ≤ 255) (p0 : 2 ≤ b.prg) (p1 : b.prg ≤ 128) (n0 : 0 ≤ x) (n1 : x ≤ 3) (hk : b.kind = 4) :
    Calls Try.prog 109 #[.pointer (some ⟨m, 0, none⟩), .int .i64 x] w fun e w' => e = .returned (.int .i64 (bankB b x)) ∧ ∃ n, w' = w.drewN n := by
  have E : bankB b x = scanB b x % b.prg := by simp [bankB, bankN, hk]
  rw [E]
  have e64 := bit64 s0 s1
  have c4 := S.c4
  have c7 := M.c7
  have c14 : w.cell? ⟨m, 14, none⟩ = some (.int .u8 (b.r.getD 6 0)) := M.r 6 (by decide)
  have c15 : w.cell? ⟨m, 15, none⟩ = some (.int .u8 (b.r.getD 7 0)) := M.r 7 (by decide)
  have g60 := q0 6
  have g61 := q1 6
  have g70 := q0 7
  have g71 := q1 7
  have PH : Hid _ := fun (n : Int) (q0 : 0 ≤ n) (q1 : n ≤ 300) => inPrg_any w.drew m b n S.drew p0 p1 q0 (by omega)
  have sb : b.sel / 64 % 2 = 0 ∨ b.sel / 64 % 2 = 1 := by omega
  have hx : x = 0 ∨ x = 1 ∨ x = 2 ∨ x = 3 := by omega
  have SBH : Hid (scanB b x = (if x = 1 then b.r.getD 7 0 % 64 else if x = 3 then b.prg - 1 else if (x = 0 ∧ b.sel / 64 % 2 = 0) ∨ (x = 2 ∧ b.sel / 64 % 2 = 1) then b.r.getD 6 0 % 64 else b.prg - 2)) := rfl
  obtain ⟨v, hv⟩ : ∃ v, scanB b x % b.prg = v := ⟨_, rfl⟩
  rw [hv]
  have HV : Hid _ := hv
  have h60 : 0 ≤ b.r.getD 6 0 % 64 := by omega
  have h61 : b.r.getD 6 0 % 64 ≤ 63 := by omega
  have h70 : 0 ≤ b.r.getD 7 0 % 64 := by omega
  have h71 : b.r.getD 7 0 % 64 ≤ 63 := by omega
  clear S M hk E q0 q1 s0 s1 hv n0 n1
  generalize b.r.getD 6 0 = r6 at *
  generalize b.r.getD 7 0 = r7 at *
  rcases sb with sb | sb <;> rcases hx with rfl | rfl | rfl | rfl
  · have HB : Hid (scanB b 0 = r6 % 64) := by unfold Hid; rw [SBH.out]; simp [sb]
    rw [sb] at e64
    have xf : bits .xor .i64 0 2 = 2 := by decide
    clear SBH sb
    go_enter Try.func109, Try.ntmps109
    go_upto_region 5 with fail
    go_still_tail 10, (by kernel_rfl)
    go_wp2_with fail
    refine (PH.out _ (by omega) (by omega)).mono ?_
    rintro e W ⟨rfl, rfl⟩
    go_wp2
    go_ret
    exact ⟨by rw [← HV.out, HB.out]; first | rfl | (rw [show r6 % 64 = b.prg - 4 + 0 by omega]; rfl), 1, rfl⟩
  · have HB : Hid (scanB b 1 = r7 % 64) := by unfold Hid; rw [SBH.out]; simp [sb]
    rw [sb] at e64
    have xf : bits .xor .i64 1 2 = 3 := by decide
    clear SBH sb
    go_enter Try.func109, Try.ntmps109
    go_upto_region 7 with fail
    go_still_tail 10, (by kernel_rfl)
    go_wp2_with fail
    refine (PH.out _ (by omega) (by omega)).mono ?_
    rintro e W ⟨rfl, rfl⟩
    go_wp2
    go_ret
    exact ⟨by rw [← HV.out, HB.out]; first | rfl | (rw [show r7 % 64 = b.prg - 4 + 1 by omega]; rfl), 1, rfl⟩
  · have HB : Hid (scanB b 2 = b.prg - 2) := by unfold Hid; rw [SBH.out]; simp [sb]
    rw [sb] at e64
    have xf : bits .xor .i64 2 2 = 0 := by decide
    clear SBH sb
    go_enter Try.func109, Try.ntmps109
    go_upto_region 8 with fail
    go_still_tail 11, (by kernel_rfl)
    go_wp2_with fail
    refine (PH.out _ (by omega) (by omega)).mono ?_
    rintro e W ⟨rfl, rfl⟩
    go_wp2
    go_ret
    exact ⟨by rw [← HV.out, HB.out]; first | rfl | (rw [show b.prg - 2 = b.prg - 4 + 2 by omega]; rfl), 1, rfl⟩
  · have HB : Hid (scanB b 3 = b.prg - 1) := by unfold Hid; rw [SBH.out]; simp [sb]
    rw [sb] at e64
    have xf : bits .xor .i64 3 2 = 1 := by decide
    clear SBH sb
    go_enter Try.func109, Try.ntmps109
    go_upto_region 8 with fail
    go_still_tail 11, (by kernel_rfl)
    go_wp2_with fail
    refine (PH.out _ (by omega) (by omega)).mono ?_
    rintro e W ⟨rfl, rfl⟩
    go_wp2
    go_ret
    exact ⟨by rw [← HV.out, HB.out]; first | rfl | (rw [show b.prg - 1 = b.prg - 4 + 3 by omega]; rfl), 1, rfl⟩
  · have HB : Hid (scanB b 0 = b.prg - 2) := by unfold Hid; rw [SBH.out]; simp [sb]
    rw [sb] at e64
    have xf : bits .xor .i64 0 2 = 2 := by decide
    clear SBH sb
    go_enter Try.func109, Try.ntmps109
    go_upto_region 8 with fail
    go_still_tail 11, (by kernel_rfl)
    go_wp2_with fail
    refine (PH.out _ (by omega) (by omega)).mono ?_
    rintro e W ⟨rfl, rfl⟩
    go_wp2
    go_ret
    exact ⟨by rw [← HV.out, HB.out]; first | rfl | (rw [show b.prg - 2 = b.prg - 4 + 2 by omega]; rfl), 1, rfl⟩
  · have HB : Hid (scanB b 1 = r7 % 64) := by unfold Hid; rw [SBH.out]; simp [sb]
    rw [sb] at e64
    have xf : bits .xor .i64 1 2 = 3 := by decide
    clear SBH sb
    go_enter Try.func109, Try.ntmps109
    go_upto_region 7 with fail
    go_still_tail 10, (by kernel_rfl)
    go_wp2_with fail
    refine (PH.out _ (by omega) (by omega)).mono ?_
    rintro e W ⟨rfl, rfl⟩
    go_wp2
    go_ret
    exact ⟨by rw [← HV.out, HB.out]; first | rfl | (rw [show r7 % 64 = b.prg - 4 + 1 by omega]; rfl), 1, rfl⟩
  · have HB : Hid (scanB b 2 = r6 % 64) := by unfold Hid; rw [SBH.out]; simp [sb]
    rw [sb] at e64
    have xf : bits .xor .i64 2 2 = 0 := by decide
    clear SBH sb
    go_enter Try.func109, Try.ntmps109
    go_upto_region 5 with fail
    go_still_tail 10, (by kernel_rfl)
    go_wp2_with fail
    refine (PH.out _ (by omega) (by omega)).mono ?_
    rintro e W ⟨rfl, rfl⟩
    go_wp2
    go_ret
    exact ⟨by rw [← HV.out, HB.out]; first | rfl | (rw [show r6 % 64 = b.prg - 4 + 0 by omega]; rfl), 1, rfl⟩
  · have HB : Hid (scanB b 3 = b.prg - 1) := by unfold Hid; rw [SBH.out]; simp [sb]
    rw [sb] at e64
    have xf : bits .xor .i64 3 2 = 1 := by decide
    clear SBH sb
    go_enter Try.func109, Try.ntmps109
    go_upto_region 8 with fail
    go_still_tail 11, (by kernel_rfl)
    go_wp2_with fail
    refine (PH.out _ (by omega) (by omega)).mono ?_
    rintro e W ⟨rfl, rfl⟩
    go_wp2
    go_ret
    exact ⟨by rw [← HV.out, HB.out]; first | rfl | (rw [show b.prg - 1 = b.prg - 4 + 3 by omega]; rfl), 1, rfl⟩
end Go.Proofs.Ytggphgmpdanliaa
