/-
  Bits of registers as arithmetic; what writes to the port's registers make of a video memory.
-/
import Derived.Test.YtecaipakaaongaaXvSpec
set_option linter.unusedSimpArgs false
set_option linter.unusedVariables false
namespace Go.Proofs.Ytecaipakaaongaa
open Go.RowKit Classical
theorem and_split (a b c d : Nat) (hb : b < 256) (hd : d < 256) : (256 * a + b) &&& (256 * c + d) = 256 * (a &&& c) + (b &&& d) := by
  apply Nat.eq_of_testBit_eq
  intro j
  have h1 : (b &&& d) < 2 ^ 8 := Nat.lt_of_le_of_lt Nat.and_le_left hb
  rw [Nat.testBit_and, show (256 : Nat) = 2 ^ 8 from rfl, Nat.testBit_two_pow_mul_add _ hb, Nat.testBit_two_pow_mul_add _ hd, Nat.testBit_two_pow_mul_add _ h1]
  split
  · rw [Nat.testBit_and]
  · rw [Nat.testBit_and]
theorem or_split (a b c d : Nat) (hb : b < 256) (hd : d < 256) : (256 * a + b) ||| (256 * c + d) = 256 * (a ||| c) + (b ||| d) := by
  apply Nat.eq_of_testBit_eq
  intro j
  have h1 : (b ||| d) < 2 ^ 8 := Nat.or_lt_two_pow hb hd
  rw [Nat.testBit_or, show (256 : Nat) = 2 ^ 8 from rfl, Nat.testBit_two_pow_mul_add _ hb, Nat.testBit_two_pow_mul_add _ hd, Nat.testBit_two_pow_mul_add _ h1]
  split
  · rw [Nat.testBit_or]
  · rw [Nat.testBit_or]
/-- withBits, byte by byte. -/
def wb (t m v : Nat) : Nat := (t &&& (65535 - m)) ||| (v &&& m)
theorem wb_split (a b c d mh ml : Nat) (hb : b < 256) (hd : d < 256) (hh : mh < 256) (hl : ml < 256) :
    wb (256 * a + b) (256 * mh + ml) (256 * c + d) = 256 * ((a &&& (255 - mh)) ||| (c &&& mh)) + ((b &&& (255 - ml)) ||| (d &&& ml)) := by
  unfold wb
  rw [show 65535 - (256 * mh + ml) = 256 * (255 - mh) + (255 - ml) by omega, and_split _ _ _ _ hb (by omega), and_split _ _ _ _ hd hl,
    or_split _ _ _ _ (Nat.lt_of_le_of_lt Nat.and_le_left hb) (Nat.lt_of_le_of_lt Nat.and_le_left hd)]
theorem bz (a d : Nat) (ha : a < 256) : (a &&& (255 - 0)) ||| (d &&& 0) = a := by
  rw [Nat.and_zero, Nat.or_zero]
  exact (Nat.and_two_pow_sub_one_eq_mod a 8).trans (Nat.mod_eq_of_lt ha)
theorem c12a : ∀ a < 256, a &&& (255 - 12) = a - a / 4 % 4 * 4 := by decide +kernel
theorem c12c : ∀ a < 256, a &&& 12 = a / 4 % 4 * 4 := by decide +kernel
theorem c12o : ∀ a < 256, ∀ q < 4, (a - a / 4 % 4 * 4) ||| (q * 4) = a - a / 4 % 4 * 4 + q * 4 := by decide +kernel
theorem c112a : ∀ a < 256, a &&& (255 - 112) = a - a / 16 % 8 * 16 := by decide +kernel
theorem c112c : ∀ a < 256, a &&& 112 = a / 16 % 8 * 16 := by decide +kernel
theorem c112o : ∀ a < 256, ∀ q < 8, (a - a / 16 % 8 * 16) ||| (q * 16) = a - a / 16 % 8 * 16 + q * 16 := by decide +kernel
theorem c3a : ∀ a < 256, a &&& (255 - 3) = a - a % 4 := by decide +kernel
theorem c3c : ∀ a < 256, a &&& 3 = a % 4 := by decide +kernel
theorem c3o : ∀ a < 256, ∀ q < 4, (a - a % 4) ||| q = a - a % 4 + q := by decide +kernel
theorem c224a : ∀ a < 256, a &&& (255 - 224) = a % 32 := by decide +kernel
theorem c224c : ∀ a < 256, a &&& 224 = a / 32 * 32 := by decide +kernel
theorem c224o : ∀ a < 256, ∀ q < 8, (a % 32) ||| (q * 32) = a % 32 + q * 32 := by decide +kernel
theorem c31a : ∀ a < 256, a &&& (255 - 31) = a / 32 * 32 := by decide +kernel
theorem c31c : ∀ a < 256, a &&& 31 = a % 32 := by decide +kernel
theorem c31o : ∀ a < 256, ∀ q < 32, (a / 32 * 32) ||| q = a / 32 * 32 + q := by decide +kernel
theorem c127a : ∀ a < 256, a &&& (255 - 127) = a / 128 * 128 := by decide +kernel
theorem c127c : ∀ a < 256, a &&& 127 = a % 128 := by decide +kernel
theorem c127o : ∀ a < 256, ∀ q < 128, (a / 128 * 128) ||| q = a / 128 * 128 + q := by decide +kernel
theorem wbA (t v : Nat) (ht : t < 65536) (hv : v < 256) : wb t 3072 (v * 1024 % 65536) = t - t / 1024 % 4 * 1024 + v % 4 * 1024 := by
  have h := wb_split (t / 256) (t % 256) (v * 1024 % 65536 / 256) (v * 1024 % 65536 % 256) 12 0 (by omega) (by omega) (by decide) (by decide)
  rw [show 256 * (t / 256) + t % 256 = t by omega, show 256 * (v * 1024 % 65536 / 256) + v * 1024 % 65536 % 256 = v * 1024 % 65536 by omega, bz _ _ (by omega), c12a _ (by omega), c12c _ (by omega), c12o _ (by omega) _ (by omega)] at h
  rw [show (256 * 12 + 0 : Nat) = 3072 from rfl] at h
  rw [h]
  omega
theorem wbB (t v : Nat) (ht : t < 32768) (hv : v < 256) : wb t 28672 (v % 8 * 4096) = t % 4096 + v % 8 * 4096 := by
  have h := wb_split (t / 256) (t % 256) (v % 8 * 4096 / 256) (v % 8 * 4096 % 256) 112 0 (by omega) (by omega) (by decide) (by decide)
  rw [show 256 * (t / 256) + t % 256 = t by omega, show 256 * (v % 8 * 4096 / 256) + v % 8 * 4096 % 256 = v % 8 * 4096 by omega, bz _ _ (by omega), c112a _ (by omega), c112c _ (by omega), c112o _ (by omega) _ (by omega)] at h
  rw [show (256 * 112 + 0 : Nat) = 28672 from rfl] at h
  rw [h]
  omega
theorem wbC (t v : Nat) (ht : t < 65536) (hv : v < 256) : wb t 992 (v / 8 * 32) = t - t / 32 % 32 * 32 + v / 8 * 32 := by
  have h := wb_split (t / 256) (t % 256) (v / 8 * 32 / 256) (v / 8 * 32 % 256) 3 224 (by omega) (by omega) (by decide) (by decide)
  rw [show 256 * (t / 256) + t % 256 = t by omega, show 256 * (v / 8 * 32 / 256) + v / 8 * 32 % 256 = v / 8 * 32 by omega, c3a _ (by omega), c3c _ (by omega), c3o _ (by omega) _ (by omega), c224a _ (by omega), c224c _ (by omega), c224o _ (by omega) _ (by omega)] at h
  rw [show (256 * 3 + 224 : Nat) = 992 from rfl] at h
  rw [h]
  omega
theorem wbD (t v : Nat) (ht : t < 65536) (hv : v < 256) : wb t 31 (v / 8) = t - t % 32 + v / 8 := by
  have h := wb_split (t / 256) (t % 256) 0 (v / 8) 0 31 (by omega) (by omega) (by decide) (by decide)
  rw [show 256 * (t / 256) + t % 256 = t by omega, show 256 * 0 + v / 8 = v / 8 by omega, bz _ _ (by omega), c31a _ (by omega), c31c _ (by omega), c31o _ (by omega) _ (by omega)] at h
  rw [show (256 * 0 + 31 : Nat) = 31 from rfl] at h
  rw [h]
  omega
theorem wbE (t v : Nat) (ht : t < 65536) (hv : v < 256) : wb t 255 v = t / 256 * 256 + v := by
  have h := wb_split (t / 256) (t % 256) 0 v 0 255 (by omega) (by omega) (by decide) (by decide)
  have e : v &&& 255 = v := (Nat.and_two_pow_sub_one_eq_mod v 8).trans (Nat.mod_eq_of_lt hv)
  rw [show 256 * (t / 256) + t % 256 = t by omega, show 256 * 0 + v = v by omega, bz _ _ (by omega), Nat.sub_self, Nat.and_zero, Nat.zero_or, e] at h
  rw [show (256 * 0 + 255 : Nat) = 255 from rfl] at h
  rw [h]
  omega
theorem wbF (t v : Nat) (ht : t < 32768) (hv : v < 256) : wb t 32512 (v % 64 * 256) = v % 64 * 256 + t % 256 := by
  have h := wb_split (t / 256) (t % 256) (v % 64) 0 127 0 (by omega) (by omega) (by decide) (by decide)
  rw [show 256 * (t / 256) + t % 256 = t by omega, show 256 * (v % 64) + 0 = v % 64 * 256 by omega, bz _ _ (by omega), c127a _ (by omega), c127c _ (by omega), c127o _ (by omega) _ (by omega)] at h
  rw [show (256 * 127 + 0 : Nat) = 32512 from rfl] at h
  rw [h]
  omega
/-- A write to register 5, to register 6, an access of register 7. -/
def scrT1 (t v : Nat) : Nat := t % 4096 + v % 8 * 4096 - (t % 4096 + v % 8 * 4096) / 32 % 32 * 32 + v / 8 * 32
def scrF (f : Nat → Nat) (v : Nat) : Nat → Nat := upd (if f 12580 = 1 then upd f 12578 (scrT1 (f 12578) v) else upd (upd f 12578 (f 12578 - f 12578 % 32 + v / 8)) 12579 (v % 8)) 12580 (1 - f 12580)
def plcF (f : Nat → Nat) (v : Nat) : Nat → Nat := upd (if f 12580 = 1 then upd (upd f 12578 (f 12578 / 256 * 256 + v)) 12577 (f 12578 / 256 * 256 + v) else upd f 12578 (v % 64 * 256 + f 12578 % 256)) 12580 (1 - f 12580)
def onF (f : Nat → Nat) : Nat → Nat := upd f 12577 ((f 12577 + (if f 12581 = 1 then 32 else 1)) % 32768)
theorem scrT1_lt {t v : Nat} (hv : v < 256) : scrT1 t v < 65536 := by unfold scrT1; omega
end Go.Proofs.Ytecaipakaaongaa
