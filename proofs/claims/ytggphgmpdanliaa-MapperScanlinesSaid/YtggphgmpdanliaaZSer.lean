/-
  What load makes of an MMC1, as plain facts.
-/
import Derived.Test.YtggphgmpdanliaaZLoad
import Derived.Test.YtggphgmpdanliaaZFix0
set_option linter.unusedSimpArgs false
set_option linter.unusedVariables false
namespace Go.Proofs.Ytggphgmpdanliaa
open Go.RowKit Classical
/-- A board but for its epoch. -/
def noE (b : Bd) : Bd := { b with epoch := 0 }
theorem noE_back {x y : Bd} (h : noE x = noE y) : x = { y with epoch := x.epoch } := by
  rw [Bd.ext_iff] at h ⊢
  exact ⟨h.1, h.2.1, h.2.2.1, h.2.2.2.1, h.2.2.2.2.1, h.2.2.2.2.2.1, h.2.2.2.2.2.2.1, h.2.2.2.2.2.2.2.1, h.2.2.2.2.2.2.2.2.1, h.2.2.2.2.2.2.2.2.2.1, h.2.2.2.2.2.2.2.2.2.2.1, h.2.2.2.2.2.2.2.2.2.2.2.1, h.2.2.2.2.2.2.2.2.2.2.2.2.1, h.2.2.2.2.2.2.2.2.2.2.2.2.2.1, h.2.2.2.2.2.2.2.2.2.2.2.2.2.2.1, h.2.2.2.2.2.2.2.2.2.2.2.2.2.2.2.1, h.2.2.2.2.2.2.2.2.2.2.2.2.2.2.2.2.1, h.2.2.2.2.2.2.2.2.2.2.2.2.2.2.2.2.2.1, h.2.2.2.2.2.2.2.2.2.2.2.2.2.2.2.2.2.2.1, h.2.2.2.2.2.2.2.2.2.2.2.2.2.2.2.2.2.2.2.1, h.2.2.2.2.2.2.2.2.2.2.2.2.2.2.2.2.2.2.2.2.1, h.2.2.2.2.2.2.2.2.2.2.2.2.2.2.2.2.2.2.2.2.2.1, h.2.2.2.2.2.2.2.2.2.2.2.2.2.2.2.2.2.2.2.2.2.2.1, rfl⟩
theorem wrB_noE (b : Bd) (a v u c : Int) : noE (wrB b a v u c) = noE (wrK b a v u c) := by
  unfold wrB
  split <;> rfl
theorem pushB_noE (x : Bd) (a v c : Int) : noE (pushB { x with last := c } a v) = noE (pushB { noE x with last := c } a v) := by
  unfold pushB noE
  simp only
  (repeat' split) <;> rfl
theorem ser_reset {b : Bd} (o : b.Ok) (hk : b.kind = 1) {a c : Int} (ha : 32768 ≤ a) (hc : 0 ≤ c) (hl : c - 1 ≠ b.last) : noE (wrA b a 128 0 c) = { noE b with last := c, shift := 16, ctrl := bits .or .u8 b.ctrl 12 } := by
  rw [wrA_in o _ _ ha hc, wrB_noE]
  unfold wrK
  rw [if_pos hk]
  unfold wr1
  rw [if_neg hl, if_pos (by decide)]
  rfl
theorem ser_bit {b : Bd} (o : b.Ok) (hk : b.kind = 1) {a v c : Int} (ha : 32768 ≤ a) (hc : 0 ≤ c) (hv : v ≤ 1) (hl : c - 1 ≠ b.last) : noE (wrA b a v 0 c) = noE (pushB { noE b with last := c } a v) := by
  rw [wrA_in o _ _ ha hc, wrB_noE, ← pushB_noE]
  unfold wrK
  rw [if_pos hk]
  unfold wr1
  rw [if_neg hl, if_neg (by omega)]
theorem ser_deaf {b : Bd} (o : b.Ok) (hk : b.kind = 1) {a v c : Int} (ha : 32768 ≤ a) (hc : 0 ≤ c) (hl : c - 1 = b.last) : noE (wrA b a v 0 c) = { noE b with last := c } := by
  rw [wrA_in o _ _ ha hc, wrB_noE]
  unfold wrK
  rw [if_pos hk]
  unfold wr1
  rw [if_pos hl]
  rfl
/-- The board behind a reset and some bits, but for its epoch. -/
def serS (b : Bd) (t sh : Int) : Bd := { noE b with last := t, shift := sh, ctrl := bits .or .u8 b.ctrl 12 }
theorem ser_low {b d : Bd} (o : d.Ok) (hk : b.kind = 1) {a v c t sh : Int} (ha : 32768 ≤ a) (hc : 0 ≤ c) (v0 : 0 ≤ v) (hv : v ≤ 1) (hl : c - 1 ≠ t) (h : noE d = serS b t sh) (hs : sh % 2 = 0) : noE (wrA d a v 0 c) = serS b c (sh / 2 + v * 16) := by
  have k1 : d.kind = 1 := (congrArg Bd.kind h).trans hk
  have l1 : d.last = t := congrArg Bd.last h
  rw [ser_bit o k1 ha hc hv (by rw [l1]; exact hl), h]
  have e : (serS b t sh).shift % 2 = 0 := hs
  unfold pushB
  rw [if_pos e, show v % 2 = v by omega]
  rfl
/-- The register that the address names becomes n. -/
def serR (b : Bd) (a t n : Int) : Bd :=
  if a / 8192 % 4 = 0 then { noE b with last := t, shift := 16, ctrl := n }
  else if a / 8192 % 4 = 1 then { noE b with last := t, shift := 16, ctrl := bits .or .u8 b.ctrl 12, chrA := n }
  else if a / 8192 % 4 = 2 then { noE b with last := t, shift := 16, ctrl := bits .or .u8 b.ctrl 12, chrB := n }
  else { noE b with last := t, shift := 16, ctrl := bits .or .u8 b.ctrl 12, prgR := n }
theorem ser_high {b d : Bd} (o : d.Ok) (hk : b.kind = 1) {a v c t sh : Int} (ha : 32768 ≤ a) (hc : 0 ≤ c) (v0 : 0 ≤ v) (hv : v ≤ 1) (hl : c - 1 ≠ t) (h : noE d = serS b t sh) (hs : sh % 2 = 1) : noE (wrA d a v 0 c) = serR b a c (sh / 2 + v * 16) := by
  have k1 : d.kind = 1 := (congrArg Bd.kind h).trans hk
  have l1 : d.last = t := congrArg Bd.last h
  rw [ser_bit o k1 ha hc hv (by rw [l1]; exact hl), h]
  have e : ¬ (serS b t sh).shift % 2 = 0 := by show ¬ sh % 2 = 0; omega
  unfold pushB serR
  rw [if_neg e, show v % 2 = v by omega]
  (repeat' split) <;> rfl
theorem ser_five {b : Bd} (o : b.Ok) (hk : b.kind = 1) (hl : b.last ≤ 16777215) {a n gap : Int} (ha : 32768 ≤ a) (n0 : 0 ≤ n) (n1 : n ≤ 31) (g0 : 2 ≤ gap) (g1 : gap ≤ 131072) :
    noE (ldB b a n 33554432 gap 5) = serR b a (33554432 + 5 * gap) n := by
  have OK := ldB_ok o a n 33554432 gap (by decide) ⟨by omega, g1⟩
  have e0 : noE (ldB b a n 33554432 gap 0) = serS b 33554432 16 := ser_reset o hk ha (by decide) (by omega)
  have e1 : noE (ldB b a n 33554432 gap 1) = serS b (33554432 + gap) (8 + n % 2 * 16) := by
    have := ser_low (OK 0 (by decide)) hk (v := n / 2 ^ 0 % 2) (c := 33554432 + ((0 + 1 : Nat) : Int) * gap) ha (by simp; omega) (by omega) (by omega) (by simp; omega) e0 (by decide)
    simpa [ldB] using this
  have e2 : noE (ldB b a n 33554432 gap 2) = serS b (33554432 + 2 * gap) (4 + n % 2 * 8 + n / 2 % 2 * 16) := by
    have := ser_low (OK 1 (by decide)) hk (v := n / 2 ^ 1 % 2) (c := 33554432 + ((1 + 1 : Nat) : Int) * gap) ha (by simp; omega) (by omega) (by omega) (by simp; omega) e1 (by omega)
    rw [show (8 + n % 2 * 16) / 2 + n / 2 ^ 1 % 2 * 16 = 4 + n % 2 * 8 + n / 2 % 2 * 16 by omega] at this
    simpa [ldB] using this
  have e3 : noE (ldB b a n 33554432 gap 3) = serS b (33554432 + 3 * gap) (2 + n % 2 * 4 + n / 2 % 2 * 8 + n / 4 % 2 * 16) := by
    have := ser_low (OK 2 (by decide)) hk (v := n / 2 ^ 2 % 2) (c := 33554432 + ((2 + 1 : Nat) : Int) * gap) ha (by simp; omega) (by omega) (by omega) (by simp; omega) e2 (by omega)
    rw [show (4 + n % 2 * 8 + n / 2 % 2 * 16) / 2 + n / 2 ^ 2 % 2 * 16 = 2 + n % 2 * 4 + n / 2 % 2 * 8 + n / 4 % 2 * 16 by omega] at this
    simpa [ldB] using this
  have e4 : noE (ldB b a n 33554432 gap 4) = serS b (33554432 + 4 * gap) (1 + n % 2 * 2 + n / 2 % 2 * 4 + n / 4 % 2 * 8 + n / 8 % 2 * 16) := by
    have := ser_low (OK 3 (by decide)) hk (v := n / 2 ^ 3 % 2) (c := 33554432 + ((3 + 1 : Nat) : Int) * gap) ha (by simp; omega) (by omega) (by omega) (by simp; omega) e3 (by omega)
    rw [show (2 + n % 2 * 4 + n / 2 % 2 * 8 + n / 4 % 2 * 16) / 2 + n / 2 ^ 3 % 2 * 16 = 1 + n % 2 * 2 + n / 2 % 2 * 4 + n / 4 % 2 * 8 + n / 8 % 2 * 16 by omega] at this
    simpa [ldB] using this
  have := ser_high (OK 4 (by decide)) hk (v := n / 2 ^ 4 % 2) (c := 33554432 + ((4 + 1 : Nat) : Int) * gap) ha (by simp; omega) (by omega) (by omega) (by simp; omega) e4 (by omega)
  rw [show (1 + n % 2 * 2 + n / 2 % 2 * 4 + n / 4 % 2 * 8 + n / 8 % 2 * 16) / 2 + n / 2 ^ 4 % 2 * 16 = n by omega] at this
  simpa [ldB] using this
theorem ser_lost {b : Bd} (o : b.Ok) (hk : b.kind = 1) (hl : b.last ≤ 16777215) {a n : Int} (ha : 32768 ≤ a) :
    noE (ldB b a n 33554432 1 5) = serS b (33554432 + 5) 16 := by
  have OK := ldB_ok o a n 33554432 1 (by decide) ⟨by decide, by decide⟩
  have e0 : noE (ldB b a n 33554432 1 0) = serS b 33554432 16 := ser_reset o hk ha (by decide) (by omega)
  have st : ∀ (i : Nat), i < 5 → noE (ldB b a n 33554432 1 i) = serS b (33554432 + i) 16 → noE (ldB b a n 33554432 1 (i + 1)) = serS b (33554432 + (i + 1 : Nat)) 16 := fun i hi e => by
    have k1 : (ldB b a n 33554432 1 i).kind = 1 := (congrArg Bd.kind e).trans hk
    have l1 : (ldB b a n 33554432 1 i).last = 33554432 + i := congrArg Bd.last e
    have := ser_deaf (OK i (by omega)) k1 (v := n / 2 ^ i % 2) (c := 33554432 + ((i + 1 : Nat) : Int) * 1) ha (by omega) (by rw [l1]; omega)
    rw [e, Int.mul_one] at this
    have h2 : ldB b a n 33554432 1 (i + 1) = wrA (ldB b a n 33554432 1 i) a (n / 2 ^ i % 2) 0 (33554432 + ((i + 1 : Nat) : Int) * 1) := rfl
    rw [h2, Int.mul_one]
    exact this
  exact st 4 (by decide) (st 3 (by decide) (st 2 (by decide) (st 1 (by decide) (st 0 (by decide) (by simpa using e0)))))
theorem doneB_last {b : Bd} (o : b.Ok) {s : Sp} (h : b.last ≤ 16777215) (c1 : s.c ≤ 16777215) : (doneB b s).last ≤ 16777215 := by
  unfold doneB
  split
  · unfold wrA
    split
    · unfold wrB
      have e : (wrK b s.a s.v s.u s.c).last ≤ 16777215 := by
        unfold wrK
        (repeat' split)
        · unfold wr1 pushB
          (repeat' split) <;> exact c1
        · unfold wr4
          (repeat' split) <;> exact h
        · exact h
        · exact h
      split
      · exact e
      · exact e
    · exact h
  · unfold clockA
    split
    · exact h
    · exact h
theorem newD_last (mp sub ram nv : Int) (vert four : Bool) (p c : Nat) : (newD mp sub ram nv vert four p c).last ≤ 16777215 := by
  unfold newD
  split
  · unfold newK
    (repeat' split) <;> first | (show (-2 : Int) ≤ 16777215; decide) | (show (0 : Int) ≤ 16777215; decide)
  · decide
end Go.Proofs.Ytggphgmpdanliaa
