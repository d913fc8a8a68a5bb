/-
  Flags turned; what it is to be free of a flag, and to keep one: plain facts.
-/
import Derived.Test.YtgnhaicogdnebaaDoorAFlgT
import Derived.Test.YtgnhaicogdnebaaDoorAFl
set_option linter.unusedSimpArgs false
set_option linter.unusedVariables false
namespace Go.Proofs.YtgnhaicogdnebaaDoor
open Go.RowKit
/-- Is a bit of a byte set? -/
def gt (p f : Int) : Bool := bits .and .u8 p f != 0
/-- Is it a shift? -/
def sh (op : Int) : Bool := op == 2 || op == 32 || op == 39 || op == 40
/-- A flag's bit. -/
def fb (k : Nat) : Int := ((2 ^ k : Nat) : Int)
/-- P with a flag turned. -/
def flip (k : Nat) (F : Fl) : Fl :=
  match k with
  | 0 => { F with c := !F.c }
  | 1 => { F with z := !F.z }
  | 2 => { F with i := !F.i }
  | 3 => { F with d := !F.d }
  | 4 => { F with b := !F.b }
  | 5 => { F with u := !F.u }
  | 6 => { F with v := !F.v }
  | _ => { F with n := !F.n }
theorem flip_nat (k : Nat) (hk : k < 8) (F : Fl) : F.val ^^^ 2 ^ k = (flip k F).val := by
  obtain ⟨n, v, u, b, d, i, z, c⟩ := F
  obtain rfl | rfl | rfl | rfl | rfl | rfl | rfl | rfl : k = 0 ∨ k = 1 ∨ k = 2 ∨ k = 3 ∨ k = 4 ∨ k = 5 ∨ k = 6 ∨ k = 7 := by omega
  all_goals
    revert n v u b d i z c
    decide +kernel
theorem flip_xor (k : Nat) (hk : k < 8) (F : Fl) : bits .xor .u8 (F.val : Nat) (fb k) = ((flip k F).val : Nat) := by
  have h := bits_xor F.val (2 ^ k) F.lt (Nat.pow_lt_pow_right (by decide) hk)
  rw [flip_nat k hk F] at h
  exact h
theorem flip_flip (k : Nat) (hk : k < 8) (F : Fl) : flip k (flip k F) = F := by
  obtain ⟨n, v, u, b, d, i, z, c⟩ := F
  obtain rfl | rfl | rfl | rfl | rfl | rfl | rfl | rfl : k = 0 ∨ k = 1 ∨ k = 2 ∨ k = 3 ∨ k = 4 ∨ k = 5 ∨ k = 6 ∨ k = 7 := by omega
  all_goals simp [flip]
theorem fb_of (k : Nat) (hk : k < 8) : (2 : Int) ^ k % 256 = fb k := by
  obtain rfl | rfl | rfl | rfl | rfl | rfl | rfl | rfl : k = 0 ∨ k = 1 ∨ k = 2 ∨ k = 3 ∨ k = 4 ∨ k = 5 ∨ k = 6 ∨ k = 7 := by omega
  all_goals rfl
theorem tk_3 (p : Int) : tk 3 p = (bits .and .u8 p 1 == 0) := by
  unfold tk
  rw [if_pos rfl]
theorem tk_4 (p : Int) : tk 4 p = (bits .and .u8 p 1 != 0) := by
  unfold tk
  rw [if_neg (by decide), if_pos rfl]
theorem tk_8 (p : Int) : tk 8 p = (bits .and .u8 p 2 == 0) := by
  unfold tk
  rw [if_neg (by decide), if_neg (by decide), if_pos rfl]
theorem tk_5 (p : Int) : tk 5 p = (bits .and .u8 p 2 != 0) := by
  unfold tk
  rw [if_neg (by decide), if_neg (by decide), if_neg (by decide), if_pos rfl]
theorem tk_9 (p : Int) : tk 9 p = (bits .and .u8 p 128 == 0) := by
  unfold tk
  rw [if_neg (by decide), if_neg (by decide), if_neg (by decide), if_neg (by decide), if_pos rfl]
theorem tk_7 (p : Int) : tk 7 p = (bits .and .u8 p 128 != 0) := by
  unfold tk
  rw [if_neg (by decide), if_neg (by decide), if_neg (by decide), if_neg (by decide), if_neg (by decide), if_pos rfl]
theorem tk_11 (p : Int) : tk 11 p = (bits .and .u8 p 64 == 0) := by
  unfold tk
  rw [if_neg (by decide), if_neg (by decide), if_neg (by decide), if_neg (by decide), if_neg (by decide), if_neg (by decide), if_pos rfl]
theorem tk_12 (p : Int) : tk 12 p = (bits .and .u8 p 64 != 0) := by
  unfold tk
  rw [if_neg (by decide), if_neg (by decide), if_neg (by decide), if_neg (by decide), if_neg (by decide), if_neg (by decide), if_neg (by decide), if_pos rfl]
theorem tk_flip (op : Int) (k : Nat) (hk : k < 8) (hN : gt (nd op) (fb k) = false) (F : Fl) : tk op (F.val : Nat) = tk op ((flip k F).val : Nat) := by
  by_cases h3 : op = 3
  · subst h3
    obtain rfl | rfl | rfl | rfl | rfl | rfl | rfl | rfl : k = 0 ∨ k = 1 ∨ k = 2 ∨ k = 3 ∨ k = 4 ∨ k = 5 ∨ k = 6 ∨ k = 7 := by omega
    · exact absurd hN (by decide +kernel)
    · rw [tk_3, tk_3, bit_c, bit_c]; rfl
    · rw [tk_3, tk_3, bit_c, bit_c]; rfl
    · rw [tk_3, tk_3, bit_c, bit_c]; rfl
    · rw [tk_3, tk_3, bit_c, bit_c]; rfl
    · rw [tk_3, tk_3, bit_c, bit_c]; rfl
    · rw [tk_3, tk_3, bit_c, bit_c]; rfl
    · rw [tk_3, tk_3, bit_c, bit_c]; rfl
  by_cases h4 : op = 4
  · subst h4
    obtain rfl | rfl | rfl | rfl | rfl | rfl | rfl | rfl : k = 0 ∨ k = 1 ∨ k = 2 ∨ k = 3 ∨ k = 4 ∨ k = 5 ∨ k = 6 ∨ k = 7 := by omega
    · exact absurd hN (by decide +kernel)
    · rw [tk_4, tk_4, bit_c, bit_c]; rfl
    · rw [tk_4, tk_4, bit_c, bit_c]; rfl
    · rw [tk_4, tk_4, bit_c, bit_c]; rfl
    · rw [tk_4, tk_4, bit_c, bit_c]; rfl
    · rw [tk_4, tk_4, bit_c, bit_c]; rfl
    · rw [tk_4, tk_4, bit_c, bit_c]; rfl
    · rw [tk_4, tk_4, bit_c, bit_c]; rfl
  by_cases h8 : op = 8
  · subst h8
    obtain rfl | rfl | rfl | rfl | rfl | rfl | rfl | rfl : k = 0 ∨ k = 1 ∨ k = 2 ∨ k = 3 ∨ k = 4 ∨ k = 5 ∨ k = 6 ∨ k = 7 := by omega
    · rw [tk_8, tk_8, bit_z, bit_z]; rfl
    · exact absurd hN (by decide +kernel)
    · rw [tk_8, tk_8, bit_z, bit_z]; rfl
    · rw [tk_8, tk_8, bit_z, bit_z]; rfl
    · rw [tk_8, tk_8, bit_z, bit_z]; rfl
    · rw [tk_8, tk_8, bit_z, bit_z]; rfl
    · rw [tk_8, tk_8, bit_z, bit_z]; rfl
    · rw [tk_8, tk_8, bit_z, bit_z]; rfl
  by_cases h5 : op = 5
  · subst h5
    obtain rfl | rfl | rfl | rfl | rfl | rfl | rfl | rfl : k = 0 ∨ k = 1 ∨ k = 2 ∨ k = 3 ∨ k = 4 ∨ k = 5 ∨ k = 6 ∨ k = 7 := by omega
    · rw [tk_5, tk_5, bit_z, bit_z]; rfl
    · exact absurd hN (by decide +kernel)
    · rw [tk_5, tk_5, bit_z, bit_z]; rfl
    · rw [tk_5, tk_5, bit_z, bit_z]; rfl
    · rw [tk_5, tk_5, bit_z, bit_z]; rfl
    · rw [tk_5, tk_5, bit_z, bit_z]; rfl
    · rw [tk_5, tk_5, bit_z, bit_z]; rfl
    · rw [tk_5, tk_5, bit_z, bit_z]; rfl
  by_cases h9 : op = 9
  · subst h9
    obtain rfl | rfl | rfl | rfl | rfl | rfl | rfl | rfl : k = 0 ∨ k = 1 ∨ k = 2 ∨ k = 3 ∨ k = 4 ∨ k = 5 ∨ k = 6 ∨ k = 7 := by omega
    · rw [tk_9, tk_9, bit_n, bit_n]; rfl
    · rw [tk_9, tk_9, bit_n, bit_n]; rfl
    · rw [tk_9, tk_9, bit_n, bit_n]; rfl
    · rw [tk_9, tk_9, bit_n, bit_n]; rfl
    · rw [tk_9, tk_9, bit_n, bit_n]; rfl
    · rw [tk_9, tk_9, bit_n, bit_n]; rfl
    · rw [tk_9, tk_9, bit_n, bit_n]; rfl
    · exact absurd hN (by decide +kernel)
  by_cases h7 : op = 7
  · subst h7
    obtain rfl | rfl | rfl | rfl | rfl | rfl | rfl | rfl : k = 0 ∨ k = 1 ∨ k = 2 ∨ k = 3 ∨ k = 4 ∨ k = 5 ∨ k = 6 ∨ k = 7 := by omega
    · rw [tk_7, tk_7, bit_n, bit_n]; rfl
    · rw [tk_7, tk_7, bit_n, bit_n]; rfl
    · rw [tk_7, tk_7, bit_n, bit_n]; rfl
    · rw [tk_7, tk_7, bit_n, bit_n]; rfl
    · rw [tk_7, tk_7, bit_n, bit_n]; rfl
    · rw [tk_7, tk_7, bit_n, bit_n]; rfl
    · rw [tk_7, tk_7, bit_n, bit_n]; rfl
    · exact absurd hN (by decide +kernel)
  by_cases h11 : op = 11
  · subst h11
    obtain rfl | rfl | rfl | rfl | rfl | rfl | rfl | rfl : k = 0 ∨ k = 1 ∨ k = 2 ∨ k = 3 ∨ k = 4 ∨ k = 5 ∨ k = 6 ∨ k = 7 := by omega
    · rw [tk_11, tk_11, bit_v, bit_v]; rfl
    · rw [tk_11, tk_11, bit_v, bit_v]; rfl
    · rw [tk_11, tk_11, bit_v, bit_v]; rfl
    · rw [tk_11, tk_11, bit_v, bit_v]; rfl
    · rw [tk_11, tk_11, bit_v, bit_v]; rfl
    · rw [tk_11, tk_11, bit_v, bit_v]; rfl
    · exact absurd hN (by decide +kernel)
    · rw [tk_11, tk_11, bit_v, bit_v]; rfl
  by_cases h12 : op = 12
  · subst h12
    obtain rfl | rfl | rfl | rfl | rfl | rfl | rfl | rfl : k = 0 ∨ k = 1 ∨ k = 2 ∨ k = 3 ∨ k = 4 ∨ k = 5 ∨ k = 6 ∨ k = 7 := by omega
    · rw [tk_12, tk_12, bit_v, bit_v]; rfl
    · rw [tk_12, tk_12, bit_v, bit_v]; rfl
    · rw [tk_12, tk_12, bit_v, bit_v]; rfl
    · rw [tk_12, tk_12, bit_v, bit_v]; rfl
    · rw [tk_12, tk_12, bit_v, bit_v]; rfl
    · rw [tk_12, tk_12, bit_v, bit_v]; rfl
    · exact absurd hN (by decide +kernel)
    · rw [tk_12, tk_12, bit_v, bit_v]; rfl
  rw [tk_no op _ ⟨h3, h4, h5, h7, h8, h9, h11, h12⟩, tk_no op _ ⟨h3, h4, h5, h7, h8, h9, h11, h12⟩]
theorem acc_flip (op a : Int) (k : Nat) (hk : k < 8) (hN : gt (nd op) (fb k) = false) (F : Fl) :
    shV op a (flip k F).c = shV op a F.c ∧ shF op a (flip k F) = bif sh op && gt (st op) (fb k) then shF op a F else flip k (shF op a F) := by
  by_cases h2 : op = 2
  · subst h2
    obtain rfl | rfl | rfl | rfl | rfl | rfl | rfl | rfl : k = 0 ∨ k = 1 ∨ k = 2 ∨ k = 3 ∨ k = 4 ∨ k = 5 ∨ k = 6 ∨ k = 7 := by omega
    · refine ⟨rfl, ?_⟩; rw [show (sh 2 && gt (st 2) (fb 0)) = true by decide +kernel]; rfl
    · refine ⟨rfl, ?_⟩; rw [show (sh 2 && gt (st 2) (fb 1)) = true by decide +kernel]; rfl
    · refine ⟨rfl, ?_⟩; rw [show (sh 2 && gt (st 2) (fb 2)) = false by decide +kernel]; rfl
    · refine ⟨rfl, ?_⟩; rw [show (sh 2 && gt (st 2) (fb 3)) = false by decide +kernel]; rfl
    · refine ⟨rfl, ?_⟩; rw [show (sh 2 && gt (st 2) (fb 4)) = false by decide +kernel]; rfl
    · refine ⟨rfl, ?_⟩; rw [show (sh 2 && gt (st 2) (fb 5)) = false by decide +kernel]; rfl
    · refine ⟨rfl, ?_⟩; rw [show (sh 2 && gt (st 2) (fb 6)) = false by decide +kernel]; rfl
    · refine ⟨rfl, ?_⟩; rw [show (sh 2 && gt (st 2) (fb 7)) = true by decide +kernel]; rfl
  by_cases h32 : op = 32
  · subst h32
    obtain rfl | rfl | rfl | rfl | rfl | rfl | rfl | rfl : k = 0 ∨ k = 1 ∨ k = 2 ∨ k = 3 ∨ k = 4 ∨ k = 5 ∨ k = 6 ∨ k = 7 := by omega
    · refine ⟨rfl, ?_⟩; rw [show (sh 32 && gt (st 32) (fb 0)) = true by decide +kernel]; rfl
    · refine ⟨rfl, ?_⟩; rw [show (sh 32 && gt (st 32) (fb 1)) = true by decide +kernel]; rfl
    · refine ⟨rfl, ?_⟩; rw [show (sh 32 && gt (st 32) (fb 2)) = false by decide +kernel]; rfl
    · refine ⟨rfl, ?_⟩; rw [show (sh 32 && gt (st 32) (fb 3)) = false by decide +kernel]; rfl
    · refine ⟨rfl, ?_⟩; rw [show (sh 32 && gt (st 32) (fb 4)) = false by decide +kernel]; rfl
    · refine ⟨rfl, ?_⟩; rw [show (sh 32 && gt (st 32) (fb 5)) = false by decide +kernel]; rfl
    · refine ⟨rfl, ?_⟩; rw [show (sh 32 && gt (st 32) (fb 6)) = false by decide +kernel]; rfl
    · refine ⟨rfl, ?_⟩; rw [show (sh 32 && gt (st 32) (fb 7)) = true by decide +kernel]; rfl
  by_cases h39 : op = 39
  · subst h39
    obtain rfl | rfl | rfl | rfl | rfl | rfl | rfl | rfl : k = 0 ∨ k = 1 ∨ k = 2 ∨ k = 3 ∨ k = 4 ∨ k = 5 ∨ k = 6 ∨ k = 7 := by omega
    · exact absurd hN (by decide +kernel)
    · refine ⟨rfl, ?_⟩; rw [show (sh 39 && gt (st 39) (fb 1)) = true by decide +kernel]; rfl
    · refine ⟨rfl, ?_⟩; rw [show (sh 39 && gt (st 39) (fb 2)) = false by decide +kernel]; rfl
    · refine ⟨rfl, ?_⟩; rw [show (sh 39 && gt (st 39) (fb 3)) = false by decide +kernel]; rfl
    · refine ⟨rfl, ?_⟩; rw [show (sh 39 && gt (st 39) (fb 4)) = false by decide +kernel]; rfl
    · refine ⟨rfl, ?_⟩; rw [show (sh 39 && gt (st 39) (fb 5)) = false by decide +kernel]; rfl
    · refine ⟨rfl, ?_⟩; rw [show (sh 39 && gt (st 39) (fb 6)) = false by decide +kernel]; rfl
    · refine ⟨rfl, ?_⟩; rw [show (sh 39 && gt (st 39) (fb 7)) = true by decide +kernel]; rfl
  by_cases h40 : op = 40
  · subst h40
    obtain rfl | rfl | rfl | rfl | rfl | rfl | rfl | rfl : k = 0 ∨ k = 1 ∨ k = 2 ∨ k = 3 ∨ k = 4 ∨ k = 5 ∨ k = 6 ∨ k = 7 := by omega
    · exact absurd hN (by decide +kernel)
    · refine ⟨rfl, ?_⟩; rw [show (sh 40 && gt (st 40) (fb 1)) = true by decide +kernel]; rfl
    · refine ⟨rfl, ?_⟩; rw [show (sh 40 && gt (st 40) (fb 2)) = false by decide +kernel]; rfl
    · refine ⟨rfl, ?_⟩; rw [show (sh 40 && gt (st 40) (fb 3)) = false by decide +kernel]; rfl
    · refine ⟨rfl, ?_⟩; rw [show (sh 40 && gt (st 40) (fb 4)) = false by decide +kernel]; rfl
    · refine ⟨rfl, ?_⟩; rw [show (sh 40 && gt (st 40) (fb 5)) = false by decide +kernel]; rfl
    · refine ⟨rfl, ?_⟩; rw [show (sh 40 && gt (st 40) (fb 6)) = false by decide +kernel]; rfl
    · refine ⟨rfl, ?_⟩; rw [show (sh 40 && gt (st 40) (fb 7)) = true by decide +kernel]; rfl
  have e : sh op = false := by simp [sh, h2, h32, h39, h40]
  rw [e]
  have e2 : ∀ G : Fl, shF op a G = G := fun G => by unfold shF; rw [if_neg (by omega)]
  refine ⟨by unfold shV; simp only [h2, h32, h39, h40, if_false], ?_⟩
  rw [e2, e2]
  rfl
/-- What Do answers is free of every flag that isn't needed. -/
def Free (op : Int) (P : Fl → Fl) (O0 O1 O2 O3 O5 : Fl → Int) : Prop :=
  ∀ k, k < 8 → gt (nd op) (fb k) = false → ∀ F : Fl, O0 (flip k F) = O0 F ∧ O1 (flip k F) = O1 F ∧ O2 (flip k F) = O2 F ∧ O3 (flip k F) = O3 F ∧ O5 (flip k F) = O5 F ∧ P (flip k F) = bif gt (st op) (fb k) then P F else flip k (P F)
/-- A flag by its number. -/
def fld (k : Nat) (F : Fl) : Bool :=
  match k with
  | 0 => F.c
  | 1 => F.z
  | 2 => F.i
  | 3 => F.d
  | 4 => F.b
  | 5 => F.u
  | 6 => F.v
  | _ => F.n
/-- Every flag that isn't set stays. -/
def Keep (op : Int) (P : Fl → Fl) : Prop := ∀ k, k < 8 → gt (st op) (fb k) = false → ∀ F : Fl, fld k (P F) = fld k F
theorem st_bd9 (op : Int) : 0 ≤ st op ∧ st op ≤ 255 := by
  unfold st
  split
  · rename_i hb
    obtain ⟨j, rfl⟩ := Int.eq_ofNat_of_zero_le hb.1
    have key : ∀ j : Nat, j < 70 → 0 ≤ stL.getD j 0 ∧ stL.getD j 0 ≤ 255 := by decide +kernel
    exact key j (by omega)
  · decide
theorem gt_fld (k : Nat) (hk : k < 8) (S : Fl) : gt (S.val : Nat) (fb k) = fld k S := by
  have h := bits_and S.val (2 ^ k) S.lt (Nat.pow_lt_pow_right (by decide) hk)
  unfold gt fb
  rw [h]
  obtain ⟨n, v, u, b, d, i, z, c⟩ := S
  obtain rfl | rfl | rfl | rfl | rfl | rfl | rfl | rfl : k = 0 ∨ k = 1 ∨ k = 2 ∨ k = 3 ∨ k = 4 ∨ k = 5 ∨ k = 6 ∨ k = 7 := by omega
  all_goals
    clear h hk
    revert n v u b d i z c
    decide +kernel
theorem andNot_fl (X S : Fl) : X.val &&& (255 - S.val) = (⟨X.n && !S.n, X.v && !S.v, X.u && !S.u, X.b && !S.b, X.d && !S.d, X.i && !S.i, X.z && !S.z, X.c && !S.c⟩ : Fl).val := by
  obtain ⟨n, v, u, b, d, i, z, c⟩ := X
  obtain ⟨n', v', u', b', d', i', z', c'⟩ := S
  revert n v u b d i z c n' v' u' b' d' i' z' c'
  decide +kernel
theorem keep_bits (s : Int) (hs : 0 ≤ s ∧ s ≤ 255) (X Y : Fl) (h : ∀ k, k < 8 → gt s (fb k) = false → fld k X = fld k Y) : bits .andNot .u8 (X.val : Nat) s = bits .andNot .u8 (Y.val : Nat) s := by
  obtain ⟨S, rfl⟩ := Fl.ofInt s hs.1 hs.2
  rw [bits_andNot X.val S.val X.lt S.lt, bits_andNot Y.val S.val Y.lt S.lt, andNot_fl, andNot_fl]
  have g : ∀ k, k < 8 → fld k S = false → fld k X = fld k Y := fun k hk e => h k hk ((gt_fld k hk S).trans e)
  have g0 := g 0 (by decide)
  have g1 := g 1 (by decide)
  have g2 := g 2 (by decide)
  have g3 := g 3 (by decide)
  have g4 := g 4 (by decide)
  have g5 := g 5 (by decide)
  have g6 := g 6 (by decide)
  have g7 := g 7 (by decide)
  simp only [fld] at g0 g1 g2 g3 g4 g5 g6 g7
  have q : ∀ s x y : Bool, (s = false → x = y) → (x && !s) = (y && !s) := by decide
  rw [q _ _ _ g0, q _ _ _ g1, q _ _ _ g2, q _ _ _ g3, q _ _ _ g4, q _ _ _ g5, q _ _ _ g6, q _ _ _ g7]
theorem xor_flip (k : Nat) (hk : k < 8) (X : Fl) : bits .xor .u8 (X.val : Nat) ((flip k X).val : Nat) = fb k := by
  have h := bits_xor X.val (flip k X).val X.lt (flip k X).lt
  unfold fb
  rw [h]
  obtain ⟨n, v, u, b, d, i, z, c⟩ := X
  obtain rfl | rfl | rfl | rfl | rfl | rfl | rfl | rfl : k = 0 ∨ k = 1 ∨ k = 2 ∨ k = 3 ∨ k = 4 ∨ k = 5 ∨ k = 6 ∨ k = 7 := by omega
  all_goals
    clear h hk
    revert n v u b d i z c
    decide +kernel
/-- Shifts of A: what is kept. -/
theorem acc_keep (op a : Int) (hs : sh op = true) : Keep op (fun F => shF op a F) := by
  intro k hk hN F
  have hh : op = 2 ∨ op = 32 ∨ op = 39 ∨ op = 40 := by simpa [sh, or_assoc] using hs
  rcases hh with rfl | rfl | rfl | rfl
  all_goals
    obtain rfl | rfl | rfl | rfl | rfl | rfl | rfl | rfl : k = 0 ∨ k = 1 ∨ k = 2 ∨ k = 3 ∨ k = 4 ∨ k = 5 ∨ k = 6 ∨ k = 7 := by omega
    all_goals first | rfl | exact absurd hN (by decide +kernel)
theorem acc_free (op a x y s m : Int) (hs : sh op = true) : Free op (fun F => shF op a F) (fun F => shV op a F.c) (fun _ => x) (fun _ => y) (fun _ => s) (fun _ => m) := by
  intro k hk hN F
  obtain ⟨c0, c1⟩ := acc_flip op a k hk hN F
  rw [hs] at c1
  exact ⟨c0, rfl, rfl, rfl, rfl, c1⟩
end Go.Proofs.YtgnhaicogdnebaaDoor
