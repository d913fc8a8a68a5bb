/-
  The contract of isa.shown.
-/
import Derived.Test.YtebnapgnnflnhaaDoorIRowL
import Derived.Test.YtebnapgnnflnhaaDoorILRow
set_option linter.unusedSimpArgs false
set_option linter.unusedVariables false
namespace Go.Proofs.YtebnapgnnflnhaaDoor
open Go.RowKit
/-- The value of an instruction's operand. -/
def vlN (k c1 c2 pc : Nat) : Nat :=
  if lnN k = 1 then 0 else if lnN k = 3 then c1 + 256 * c2 else if mdN k = 12 then (pc + 2 + (if 127 < c1 then c1 + 65280 else c1)) % 65536 else c1
/-- A list's first bytes. -/
structure Hd (w : World) (b o n : Nat) (f : Nat → Nat) : Prop where
  at_ : ∀ i, i < n → w.cell? ⟨b, o + i, none⟩ = some (.int .u8 (f i : Int))
  bd : ∀ i, f i < 256
theorem orHi (a b : Nat) (ha : a < 256) (hb : b < 256) : bits .or .u16 (a : Int) ((b : Int) * 256) = ((a + 256 * b : Nat) : Int) := by
  have h := u16_or_nat a (b * 256) (by omega) (by omega)
  rw [show a ||| b * 256 = a + 256 * b by
    rw [Nat.or_comm, Nat.mul_comm b 256, show 256 = 2 ^ 8 from rfl, ← Nat.two_pow_add_eq_or_of_lt (by omega)]; omega] at h
  rw [← h]; congr 1
theorem ret16 {a b : Int} (h : a = b) : Ending.returned (.int .u16 a) = .returned (.int .u16 b) := by rw [h]
theorem ln_md (k : Nat) (hk : k < 256) : (lnN k = 1 ∨ lnN k = 2 ∨ lnN k = 3) ∧ (mdN k = 12 → lnN k = 2) := by
  have key : ∀ k : Nat, k < 256 → (lnN k = 1 ∨ lnN k = 2 ∨ lnN k = 3) ∧ (mdN k = 12 → lnN k = 2) := by decide +kernel
  exact key k hk
set_option maxRecDepth 100000 in
theorem shown_any (k : Nat) (hk : k < 256) (pc : Nat) (hp : pc < 65536) (w : World) (b o n cap : Nat) (f : Nat → Nat) (H : Hd w b o n f) (hn : lnN k ≤ n) (hn2 : n ≤ 4611686018427387904) :
    Calls Tryd.prog 14 #[.int .i64 (mdN k : Nat), .slice (some ⟨b, o, none⟩) n cap, .int .u16 (pc : Nat)] w fun e w' => e = .returned (.int .u16 (vlN k (f 1) (f 2) pc : Nat)) ∧ w' = w.drewN (if lnN k = 3 then 1 else 0) := by
  have LC := lenOf_any k hk
  have HLC : Hid (∀ w, Calls Tryd.prog _ _ w _) := LC
  clear LC
  obtain ⟨hl, hr⟩ := ln_md k hk
  have b1 := H.bd 1
  have b2 := H.bd 2
  have h1 : 1 < n → w.cell? ⟨b, o + 1, none⟩ = some (.int .u8 (f 1 : Int)) := H.at_ 1
  have h2 : 2 < n → w.cell? ⟨b, o + 2, none⟩ = some (.int .u8 (f 2 : Int)) := H.at_ 2
  have HV : Hid (vlN k (f 1) (f 2) pc = if lnN k = 1 then 0 else if lnN k = 3 then f 1 + 256 * f 2 else if mdN k = 12 then (pc + 2 + (if 127 < f 1 then f 1 + 65280 else f 1)) % 65536 else f 1) := rfl
  clear H
  generalize f 1 = c1 at *
  generalize f 2 = c2 at *
  generalize vlN k c1 c2 pc = V at *
  generalize mdN k = md at *
  generalize lnN k = ln at *
  rcases hl with rfl | rfl | rfl
  · clear h1 h2 hr
    go_enter Tryd.func14, Tryd.ntmps14
    go_wp2_with (go_at_call 8; go_must (refine (HLC.out _).mono ?_; rintro e w1 ⟨rfl, hw1⟩; obtain rfl := hw1.symm))
    go_ret
    exact ⟨by rw [HV.out]; rfl, rfl⟩
  · have g1 := h1 (by omega)
    clear h1 h2
    by_cases h12 : md = 12
    · subst h12
      have EV : Hid (IntKind.u16.wrap (IntKind.u16.wrap ((pc : Int) + 2) + IntKind.u16.wrap (IntKind.i8.wrap (c1 : Int))) = (V : Int)) := by
        have hV := HV.out
        rw [if_neg (by decide), if_neg (by decide), if_pos rfl] at hV
        unfold Hid
        simp only [IntKind.wrap, IntKind.signed, IntKind.bits]
        split at hV <;> (simp; omega)
      go_enter Tryd.func14, Tryd.ntmps14
      go_wp2_with (go_at_call 8; go_must (refine (HLC.out _).mono ?_; rintro e w1 ⟨rfl, hw1⟩; obtain rfl := hw1.symm))
      go_ret
      exact ⟨ret16 EV.out, rfl⟩
    · have t12 : ((md : Int) == 12) = false := by rw [beq_eq_false_iff_ne]; omega
      go_enter Tryd.func14, Tryd.ntmps14
      go_wp2_with (go_at_call 8; go_must (refine (HLC.out _).mono ?_; rintro e w1 ⟨rfl, hw1⟩; obtain rfl := hw1.symm))
      go_ret
      exact ⟨by rw [HV.out, if_neg (by decide), if_neg (by decide), if_neg h12]; rfl, rfl⟩
  · have g1 := h1 (by omega)
    have g2 := h2 (by omega)
    clear h1 h2
    have ho := orHi c1 c2 b1 b2
    have EV : Hid (V = c1 + 256 * c2) := HV.out
    clear HV
    go_enter Tryd.func14, Tryd.ntmps14
    go_upto_region 5 with (go_at_call 8; go_must (refine (HLC.out _).mono ?_; rintro e w1 ⟨rfl, hw1⟩; obtain rfl := hw1.symm))
    go_region
    all_goals
      go_wp2
      go_ret
      exact ⟨by rw [EV.out]; rfl, rfl⟩
end Go.Proofs.YtebnapgnnflnhaaDoor
