/-
  The contract of Arr; bytes are from 0 to 255.
-/
import Derived.Test.YtgnhaicogdnebaaDoorASum
import Derived.Test.YtgnhaicogdnebaaDoorACmp
set_option linter.unusedSimpArgs false
set_option linter.unusedVariables false
namespace Go.Proofs.YtgnhaicogdnebaaDoor
open Go.RowKit
theorem and_bd (a m : Int) (a0 : 0 ≤ a) (a1 : a ≤ 255) (m0 : 0 ≤ m) (m1 : m ≤ 255) : 0 ≤ bits .and .u8 a m ∧ bits .and .u8 a m ≤ 255 := by
  obtain ⟨A, rfl⟩ := Int.eq_ofNat_of_zero_le a0
  obtain ⟨M, rfl⟩ := Int.eq_ofNat_of_zero_le m0
  rw [bits_and A M (by omega) (by omega)]
  have : A &&& M < 2 ^ 8 := Nat.and_lt_two_pow _ (by omega)
  omega
theorem nat_and64 (a : Nat) (h : a < 256) : a &&& 64 = a / 64 % 2 * 64 := by revert a; decide +kernel
theorem nat_and16 (a : Nat) (h : a < 256) : a &&& 16 = a / 16 % 2 * 16 := by revert a; decide +kernel
theorem nat_x65 (a : Nat) (h : a < 256) : (a / 64 ^^^ a / 32) &&& 1 = (a / 64 + a / 32) % 2 := by revert a; decide +kernel
theorem nat_x65' (a : Nat) (h : a < 256) : a / 64 ^^^ a / 32 < 256 := by revert a; decide +kernel
theorem nat_x6 (t : Nat) (h : t < 256) (c : Bool) : (t ^^^ (t / 2 + 128 * c.toNat)) &&& 64 = (t / 64 + (t / 2 + 128 * c.toNat) / 64) % 2 * 64 := by revert t c; decide +kernel
theorem nat_x6' (t : Nat) (h : t < 256) (c : Bool) : t ^^^ (t / 2 + 128 * c.toNat) < 256 := by revert t c; decide +kernel
theorem nat_join (h : Nat) (hh : h < 16) (y : Nat) (hy : y < 16) : h * 16 ||| y = h * 16 + y := by
  have : ∀ h : Nat, h < 16 → ∀ y : Nat, y < 16 → h * 16 ||| y = h * 16 + y := by decide +kernel
  exact this h hh y hy
theorem u8_and64 (a : Int) (h0 : 0 ≤ a) (h1 : a ≤ 255) : bits .and .u8 a 64 = a / 64 % 2 * 64 := by
  obtain ⟨A, rfl⟩ := Int.eq_ofNat_of_zero_le h0
  have h := bits_and A 64 (by omega) (by decide)
  rw [nat_and64 A (by omega)] at h
  exact h.trans (by omega)
theorem u8_and16 (a : Int) (h0 : 0 ≤ a) (h1 : a ≤ 255) : bits .and .u8 a 16 = a / 16 % 2 * 16 := by
  obtain ⟨A, rfl⟩ := Int.eq_ofNat_of_zero_le h0
  have h := bits_and A 16 (by omega) (by decide)
  rw [nat_and16 A (by omega)] at h
  exact h.trans (by omega)
theorem u8_x65 (a : Int) (h0 : 0 ≤ a) (h1 : a ≤ 255) : bits .and .u8 (bits .xor .u8 (a / 64) (a / 32)) 1 = (a / 64 + a / 32) % 2 := by
  obtain ⟨A, rfl⟩ := Int.eq_ofNat_of_zero_le h0
  have e1 : ((A : Int) / 64) = ((A / 64 : Nat) : Int) := by omega
  have e2 : ((A : Int) / 32) = ((A / 32 : Nat) : Int) := by omega
  rw [e1, e2, bits_xor (A / 64) (A / 32) (by omega) (by omega)]
  have h := bits_and (A / 64 ^^^ A / 32) 1 (nat_x65' A (by omega)) (by decide)
  rw [nat_x65 A (by omega)] at h
  exact h.trans (by omega)
theorem u8_x6 (t : Int) (h0 : 0 ≤ t) (h1 : t ≤ 255) (c : Bool) : bits .and .u8 (bits .xor .u8 t (t / 2 + 128 * ci c)) 64 = (t / 64 + (t / 2 + 128 * ci c) / 64) % 2 * 64 := by
  obtain ⟨T, rfl⟩ := Int.eq_ofNat_of_zero_le h0
  have hb : c.toNat ≤ 1 := Bool.toNat_le c
  have e1 : ((T : Int) / 2 + 128 * ci c) = ((T / 2 + 128 * c.toNat : Nat) : Int) := by rw [← ci_toNat]; omega
  rw [e1, bits_xor T _ (by omega) (by omega)]
  have h := bits_and (T ^^^ (T / 2 + 128 * c.toNat)) 64 (nat_x6' T (by omega) c) (by decide)
  rw [nat_x6 T (by omega) c] at h
  exact h.trans (by omega)
theorem u8_join (x y : Int) (x0 : 0 ≤ x) (x1 : x ≤ 255) (y0 : 0 ≤ y) (y1 : y < 16) : bits .or .u8 (x / 16 * 16) y = x / 16 * 16 + y := by
  obtain ⟨X, rfl⟩ := Int.eq_ofNat_of_zero_le x0
  obtain ⟨Y, rfl⟩ := Int.eq_ofNat_of_zero_le y0
  have e : ((X : Int) / 16 * 16) = ((X / 16 * 16 : Nat) : Int) := by omega
  rw [e, bits_or (X / 16 * 16) Y (by omega) (by omega), nat_join (X / 16) (by omega) Y (by omega)]
  omega
theorem xor_bool (x y : Int) : ((x + y) % 2 != 0) = ((x % 2 == 1) != (y % 2 == 1)) := by
  have hx : x % 2 = 0 ∨ x % 2 = 1 := by omega
  have hy : y % 2 = 0 ∨ y % 2 = 1 := by omega
  rcases hx with hx | hx <;> rcases hy with hy | hy <;> rw [hx, hy] <;> (first | rw [show (x + y) % 2 = 0 by omega] | rw [show (x + y) % 2 = 1 by omega]) <;> rfl
theorem xor_bool64 (x y : Int) : ((x + y) % 2 * 64 != 0) = ((x % 2 == 1) != (y % 2 == 1)) := by
  rw [← xor_bool, Bool.eq_iff_iff]; simp
/-- The document's ARR: what is turned, the answers. -/
def arrQ (t r : Int) : Int := if 5 < t % 16 + t % 2 then r / 16 * 16 + (r + 6) % 16 else r
def arrW (t r : Int) : Int := if 80 < t / 16 * 16 + t / 16 % 2 * 16 then (arrQ t r + 96) % 256 else arrQ t r
def arrV (t : Int) (F : Fl) : Int := if F.d then arrW t (t / 2 + 128 * ci F.c) else t / 2 + 128 * ci F.c
def arrB (r : Int) (F : Fl) : Fl := nzF r ((F.put 1 (r / 64 % 2 == 1)).put 64 ((r / 64 % 2 == 1) != (r / 32 % 2 == 1)))
def arrD (t r : Int) (F : Fl) : Fl := nzF r ((F.put 64 ((t / 64 % 2 == 1) != (r / 64 % 2 == 1))).put 1 (decide (80 < t / 16 * 16 + t / 16 % 2 * 16)))
def arrF (t : Int) (F : Fl) : Fl := if F.d then arrD t (t / 2 + 128 * ci F.c) F else arrB (t / 2 + 128 * ci F.c) F
theorem arrDecimal_any (t : Int) (c : Bool) (F : Fl) (w : World) (t0 : 0 ≤ t) (t1 : t ≤ 255) :
    Calls Tryd.prog 81 #[.int .u8 t, .int .u8 (t / 2 + 128 * ci c), .int .u8 (F.val : Nat)] w fun e w' =>
      e = .returned (.tuple #[.int .u8 (arrW t (t / 2 + 128 * ci c)), .int .u8 ((arrD t (t / 2 + 128 * ci c) F).val : Nat)]) ∧ w' = w := by
  have hb := ci_bd c
  have hx := u8_x6 t t0 t1 c
  have HX : Hid _ := xor_bool64 (t / 64) ((t / 2 + 128 * ci c) / 64)
  have r0 : 0 ≤ t / 2 + 128 * ci c := by omega
  have r1 : t / 2 + 128 * ci c ≤ 255 := by omega
  generalize t / 2 + 128 * ci c = r at *
  have h1 := u8_and1 t t0 t1
  have h2 := u8_and240 r r0 r1
  have h3 := u8_and240 t t0 t1
  have h4 := u8_and16 t t0 t1
  have h5 : bits .and .u8 ((r + 6) % 256) 15 = (r + 6) % 16 := by
    rw [u8_and15 _ (by omega) (by omega)]; omega
  have h6 := u8_join r ((r + 6) % 16) r0 r1 (by omega) (by omega)
  have EQ : Hid (arrQ t r = if 5 < t % 16 + t % 2 then r / 16 * 16 + (r + 6) % 16 else r) := rfl
  have ED : Hid (arrD t r F = nzF r ((F.put 64 ((t / 64 % 2 == 1) != (r / 64 % 2 == 1))).put 1 (decide (80 < t / 16 * 16 + t / 16 % 2 * 16)))) := rfl
  have EW : Hid (arrW t r = if 80 < t / 16 * 16 + t / 16 % 2 * 16 then (arrQ t r + 96) % 256 else arrQ t r) := rfl
  generalize arrW t r = W at *
  generalize arrQ t r = q at *
  generalize arrD t r F = D at *
  by_cases g1 : 5 < t % 16 + t % 2
  all_goals
    simp only [g1, if_true, if_false] at EQ
    by_cases g2 : 80 < t / 16 * 16 + t / 16 % 2 * 16
    all_goals
      simp only [g2, if_true, if_false, decide_true, decide_false] at ED EW
      go_enter Tryd.func81, Tryd.ntmps81
      go_wp2_with (first | (go_at_call 39; refine (putF_any _ _ _ _ (by decide)).mono ?_; rintro e w' ⟨rfl, rfl⟩) | (go_at_call 38; refine (nz_any _ _ _).mono ?_; rintro e w' ⟨rfl, rfl⟩))
      go_ret2
      exact ⟨two8 (by rw [EW.out, EQ.out]) (flv (by rw [ED.out, ← HX.out])), rfl⟩
theorem arrF_b {t r : Int} {F : Fl} {b1 b2 : Bool} (hd : F.d = false) (hr : t / 2 + 128 * ci F.c = r) (h1 : b1 = (r / 64 % 2 == 1)) (h2 : b2 = ((r / 64 % 2 == 1) != (r / 32 % 2 == 1))) : nzF r ((F.put 1 b1).put 64 b2) = arrF t F := by
  subst hr; subst h1; subst h2
  unfold arrF; rw [hd]; rfl
theorem arr_any (a m : Int) (F : Fl) (w : World) (a0 : 0 ≤ a) (a1 : a ≤ 255) (m0 : 0 ≤ m) (m1 : m ≤ 255) :
    Calls Tryd.prog 71 #[.int .u8 a, .int .u8 m, .int .u8 (F.val : Nat)] w fun e w' => e = .returned (.tuple #[.int .u8 (arrV (bits .and .u8 a m) F), .int .u8 ((arrF (bits .and .u8 a m) F).val : Nat)]) ∧ w' = w := by
  obtain ⟨t0, t1⟩ := and_bd a m a0 a1 m0 m1
  generalize ht : bits .and .u8 a m = t at *
  have hb := ci_bd F.c
  have hc := bit_c F
  have hd := bit_d F
  have hs : bits .or .u8 (t / 2) (ci F.c * 128 % 256) = t / 2 + 128 * ci F.c := by
    cases F.c
    · exact (u8_or0 (t / 2) (by omega) (by omega)).trans (by rw [show ci false = 0 from rfl]; omega)
    · exact (u8_or128' (t / 2) (by omega) (by omega)).trans (by rw [show ci true = 1 from rfl]; omega)
  have hs' : bits .or .u8 (t / 2) (ci F.c * 128) = t / 2 + 128 * ci F.c := by
    rw [← hs]; congr 1; omega
  have HR : Hid (0 ≤ t / 2 + 128 * ci F.c ∧ t / 2 + 128 * ci F.c ≤ 255) := by unfold Hid; omega
  cases hD : F.d
  · have HV : Hid (arrV t F = t / 2 + 128 * ci F.c) := by unfold Hid arrV; rw [hD]; rfl
    have HF : Hid (F.d = false) := hD
    rw [hD, show 8 * ci false = 0 from rfl] at hd
    clear hD
    have h64 := u8_and64 _ HR.out.1 HR.out.2
    have h65 := u8_x65 _ HR.out.1 HR.out.2
    have r0 := HR.out.1
    have r1 := HR.out.2
    have HE : Hid (t / 2 + 128 * ci F.c = t / 2 + 128 * ci F.c) := rfl
    have HX : Hid _ := xor_bool ((t / 2 + 128 * ci F.c) / 64) ((t / 2 + 128 * ci F.c) / 32)
    generalize hr : t / 2 + 128 * ci F.c = r at h64 h65 r0 r1 HV HX hs hs'
    have HRR : Hid _ := hr
    clear hr HE
    go_enter Tryd.func71, Tryd.ntmps71
    go_wp2_with (first | (go_at_call 39; refine (putF_any _ _ _ _ (by decide)).mono ?_; rintro e w' ⟨rfl, rfl⟩) | (go_at_call 38; refine (nz_any _ _ _).mono ?_; rintro e w' ⟨rfl, rfl⟩))
    go_ret2
    exact ⟨two8 HV.out.symm (flv (arrF_b HF.out HRR.out (by rw [Bool.eq_iff_iff]; simp; omega) HX.out)), rfl⟩
  · have HV : Hid (arrV t F = arrW t (t / 2 + 128 * ci F.c)) := by unfold Hid arrV; rw [hD]; rfl
    have HF : Hid (arrF t F = arrD t (t / 2 + 128 * ci F.c) F) := by unfold Hid arrF; rw [hD]; rfl
    rw [hD, show 8 * ci true = 8 from rfl] at hd
    clear hD
    go_enter Tryd.func71, Tryd.ntmps71
    go_wp2_with (go_at_call 81; refine (arrDecimal_any _ _ _ _ (by omega) (by omega)).mono ?_; rintro e w' ⟨rfl, rfl⟩)
    go_ret2
    exact ⟨two8 HV.out.symm (flv HF.out.symm), rfl⟩
end Go.Proofs.YtgnhaicogdnebaaDoor
