/-
  Flags turned; the law AluFreed by what Do answers, for every flag.
-/
import Derived.Test.YthdmkmbgncbmgaaDoorAFreed
import Derived.Test.YthdmkmbgncbmgaaDoorADoC
import Derived.Test.YthdmkmbgncbmgaaDoorADoT
namespace Go.Proofs.YthdmkmbgncbmgaaDoor
open Go.RowKit
/-- A flag's bit. -/
def fb (k : Nat) : Int := ((2 ^ k : Nat) : Int)
/-- P with a flag turned. -/
def flip (k : Nat) (F : Fl) : Fl :=
  match k with
  | 0 => { F with c := !F.c }
  | 1 => { F with z := !F.z }
  | 2 => { F with i := !F.i }
  | 3 => { F with d := !F.d }
  | 4 => { F with b := !F.b }
  | 5 => { F with u := !F.u }
  | 6 => { F with v := !F.v }
  | _ => { F with n := !F.n }
theorem flip_nat (k : Nat) (hk : k < 8) (F : Fl) : F.val ^^^ 2 ^ k = (flip k F).val := by
  obtain ⟨n, v, u, b, d, i, z, c⟩ := F
  obtain rfl | rfl | rfl | rfl | rfl | rfl | rfl | rfl : k = 0 ∨ k = 1 ∨ k = 2 ∨ k = 3 ∨ k = 4 ∨ k = 5 ∨ k = 6 ∨ k = 7 := by omega
  all_goals
    revert n v u b d i z c
    decide +kernel
theorem flip_xor (k : Nat) (hk : k < 8) (F : Fl) : bits .xor .u8 (F.val : Nat) (fb k) = ((flip k F).val : Nat) := by
  have h := bits_xor F.val (2 ^ k) F.lt (Nat.pow_lt_pow_right (by decide) hk)
  rw [flip_nat k hk F] at h
  exact h
theorem flip_flip (k : Nat) (hk : k < 8) (F : Fl) : flip k (flip k F) = F := by
  obtain ⟨n, v, u, b, d, i, z, c⟩ := F
  obtain rfl | rfl | rfl | rfl | rfl | rfl | rfl | rfl : k = 0 ∨ k = 1 ∨ k = 2 ∨ k = 3 ∨ k = 4 ∨ k = 5 ∨ k = 6 ∨ k = 7 := by omega
  all_goals simp [flip]
theorem fb_of (k : Nat) (hk : k < 8) : (2 : Int) ^ k % 256 = fb k := by
  obtain rfl | rfl | rfl | rfl | rfl | rfl | rfl | rfl : k = 0 ∨ k = 1 ∨ k = 2 ∨ k = 3 ∨ k = 4 ∨ k = 5 ∨ k = 6 ∨ k = 7 := by omega
  all_goals rfl
theorem tk_3 (p : Int) : tk 3 p = (bits .and .u8 p 1 == 0) := by
  unfold tk
  rw [if_pos rfl]
theorem tk_4 (p : Int) : tk 4 p = (bits .and .u8 p 1 != 0) := by
  unfold tk
  rw [if_neg (by decide), if_pos rfl]
theorem tk_8 (p : Int) : tk 8 p = (bits .and .u8 p 2 == 0) := by
  unfold tk
  rw [if_neg (by decide), if_neg (by decide), if_pos rfl]
theorem tk_5 (p : Int) : tk 5 p = (bits .and .u8 p 2 != 0) := by
  unfold tk
  rw [if_neg (by decide), if_neg (by decide), if_neg (by decide), if_pos rfl]
theorem tk_9 (p : Int) : tk 9 p = (bits .and .u8 p 128 == 0) := by
  unfold tk
  rw [if_neg (by decide), if_neg (by decide), if_neg (by decide), if_neg (by decide), if_pos rfl]
theorem tk_7 (p : Int) : tk 7 p = (bits .and .u8 p 128 != 0) := by
  unfold tk
  rw [if_neg (by decide), if_neg (by decide), if_neg (by decide), if_neg (by decide), if_neg (by decide), if_pos rfl]
theorem tk_11 (p : Int) : tk 11 p = (bits .and .u8 p 64 == 0) := by
  unfold tk
  rw [if_neg (by decide), if_neg (by decide), if_neg (by decide), if_neg (by decide), if_neg (by decide), if_neg (by decide), if_pos rfl]
theorem tk_12 (p : Int) : tk 12 p = (bits .and .u8 p 64 != 0) := by
  unfold tk
  rw [if_neg (by decide), if_neg (by decide), if_neg (by decide), if_neg (by decide), if_neg (by decide), if_neg (by decide), if_neg (by decide), if_pos rfl]
theorem tk_flip (op : Int) (k : Nat) (hk : k < 8) (hN : gt (nd op) (fb k) = false) (F : Fl) : tk op (F.val : Nat) = tk op ((flip k F).val : Nat) := by
  by_cases h3 : op = 3
  · subst h3
    obtain rfl | rfl | rfl | rfl | rfl | rfl | rfl | rfl : k = 0 ∨ k = 1 ∨ k = 2 ∨ k = 3 ∨ k = 4 ∨ k = 5 ∨ k = 6 ∨ k = 7 := by omega
    · exact absurd hN (by decide +kernel)
    · rw [tk_3, tk_3, bit_c, bit_c]; rfl
    · rw [tk_3, tk_3, bit_c, bit_c]; rfl
    · rw [tk_3, tk_3, bit_c, bit_c]; rfl
    · rw [tk_3, tk_3, bit_c, bit_c]; rfl
    · rw [tk_3, tk_3, bit_c, bit_c]; rfl
    · rw [tk_3, tk_3, bit_c, bit_c]; rfl
    · rw [tk_3, tk_3, bit_c, bit_c]; rfl
  by_cases h4 : op = 4
  · subst h4
    obtain rfl | rfl | rfl | rfl | rfl | rfl | rfl | rfl : k = 0 ∨ k = 1 ∨ k = 2 ∨ k = 3 ∨ k = 4 ∨ k = 5 ∨ k = 6 ∨ k = 7 := by omega
    · exact absurd hN (by decide +kernel)
    · rw [tk_4, tk_4, bit_c, bit_c]; rfl
    · rw [tk_4, tk_4, bit_c, bit_c]; rfl
    · rw [tk_4, tk_4, bit_c, bit_c]; rfl
    · rw [tk_4, tk_4, bit_c, bit_c]; rfl
    · rw [tk_4, tk_4, bit_c, bit_c]; rfl
    · rw [tk_4, tk_4, bit_c, bit_c]; rfl
    · rw [tk_4, tk_4, bit_c, bit_c]; rfl
  by_cases h8 : op = 8
  · subst h8
    obtain rfl | rfl | rfl | rfl | rfl | rfl | rfl | rfl : k = 0 ∨ k = 1 ∨ k = 2 ∨ k = 3 ∨ k = 4 ∨ k = 5 ∨ k = 6 ∨ k = 7 := by omega
    · rw [tk_8, tk_8, bit_z, bit_z]; rfl
    · exact absurd hN (by decide +kernel)
    · rw [tk_8, tk_8, bit_z, bit_z]; rfl
    · rw [tk_8, tk_8, bit_z, bit_z]; rfl
    · rw [tk_8, tk_8, bit_z, bit_z]; rfl
    · rw [tk_8, tk_8, bit_z, bit_z]; rfl
    · rw [tk_8, tk_8, bit_z, bit_z]; rfl
    · rw [tk_8, tk_8, bit_z, bit_z]; rfl
  by_cases h5 : op = 5
  · subst h5
    obtain rfl | rfl | rfl | rfl | rfl | rfl | rfl | rfl : k = 0 ∨ k = 1 ∨ k = 2 ∨ k = 3 ∨ k = 4 ∨ k = 5 ∨ k = 6 ∨ k = 7 := by omega
    · rw [tk_5, tk_5, bit_z, bit_z]; rfl
    · exact absurd hN (by decide +kernel)
    · rw [tk_5, tk_5, bit_z, bit_z]; rfl
    · rw [tk_5, tk_5, bit_z, bit_z]; rfl
    · rw [tk_5, tk_5, bit_z, bit_z]; rfl
    · rw [tk_5, tk_5, bit_z, bit_z]; rfl
    · rw [tk_5, tk_5, bit_z, bit_z]; rfl
    · rw [tk_5, tk_5, bit_z, bit_z]; rfl
  by_cases h9 : op = 9
  · subst h9
    obtain rfl | rfl | rfl | rfl | rfl | rfl | rfl | rfl : k = 0 ∨ k = 1 ∨ k = 2 ∨ k = 3 ∨ k = 4 ∨ k = 5 ∨ k = 6 ∨ k = 7 := by omega
    · rw [tk_9, tk_9, bit_n, bit_n]; rfl
    · rw [tk_9, tk_9, bit_n, bit_n]; rfl
    · rw [tk_9, tk_9, bit_n, bit_n]; rfl
    · rw [tk_9, tk_9, bit_n, bit_n]; rfl
    · rw [tk_9, tk_9, bit_n, bit_n]; rfl
    · rw [tk_9, tk_9, bit_n, bit_n]; rfl
    · rw [tk_9, tk_9, bit_n, bit_n]; rfl
    · exact absurd hN (by decide +kernel)
  by_cases h7 : op = 7
  · subst h7
    obtain rfl | rfl | rfl | rfl | rfl | rfl | rfl | rfl : k = 0 ∨ k = 1 ∨ k = 2 ∨ k = 3 ∨ k = 4 ∨ k = 5 ∨ k = 6 ∨ k = 7 := by omega
    · rw [tk_7, tk_7, bit_n, bit_n]; rfl
    · rw [tk_7, tk_7, bit_n, bit_n]; rfl
    · rw [tk_7, tk_7, bit_n, bit_n]; rfl
    · rw [tk_7, tk_7, bit_n, bit_n]; rfl
    · rw [tk_7, tk_7, bit_n, bit_n]; rfl
    · rw [tk_7, tk_7, bit_n, bit_n]; rfl
    · rw [tk_7, tk_7, bit_n, bit_n]; rfl
    · exact absurd hN (by decide +kernel)
  by_cases h11 : op = 11
  · subst h11
    obtain rfl | rfl | rfl | rfl | rfl | rfl | rfl | rfl : k = 0 ∨ k = 1 ∨ k = 2 ∨ k = 3 ∨ k = 4 ∨ k = 5 ∨ k = 6 ∨ k = 7 := by omega
    · rw [tk_11, tk_11, bit_v, bit_v]; rfl
    · rw [tk_11, tk_11, bit_v, bit_v]; rfl
    · rw [tk_11, tk_11, bit_v, bit_v]; rfl
    · rw [tk_11, tk_11, bit_v, bit_v]; rfl
    · rw [tk_11, tk_11, bit_v, bit_v]; rfl
    · rw [tk_11, tk_11, bit_v, bit_v]; rfl
    · exact absurd hN (by decide +kernel)
    · rw [tk_11, tk_11, bit_v, bit_v]; rfl
  by_cases h12 : op = 12
  · subst h12
    obtain rfl | rfl | rfl | rfl | rfl | rfl | rfl | rfl : k = 0 ∨ k = 1 ∨ k = 2 ∨ k = 3 ∨ k = 4 ∨ k = 5 ∨ k = 6 ∨ k = 7 := by omega
    · rw [tk_12, tk_12, bit_v, bit_v]; rfl
    · rw [tk_12, tk_12, bit_v, bit_v]; rfl
    · rw [tk_12, tk_12, bit_v, bit_v]; rfl
    · rw [tk_12, tk_12, bit_v, bit_v]; rfl
    · rw [tk_12, tk_12, bit_v, bit_v]; rfl
    · rw [tk_12, tk_12, bit_v, bit_v]; rfl
    · exact absurd hN (by decide +kernel)
    · rw [tk_12, tk_12, bit_v, bit_v]; rfl
  rw [tk_no op _ ⟨h3, h4, h5, h7, h8, h9, h11, h12⟩, tk_no op _ ⟨h3, h4, h5, h7, h8, h9, h11, h12⟩]
theorem acc_flip (op a : Int) (k : Nat) (hk : k < 8) (hN : gt (nd op) (fb k) = false) (F : Fl) :
    shV op a (flip k F).c = shV op a F.c ∧ shF op a (flip k F) = bif sh op && gt (st op) (fb k) then shF op a F else flip k (shF op a F) := by
  by_cases h2 : op = 2
  · subst h2
    obtain rfl | rfl | rfl | rfl | rfl | rfl | rfl | rfl : k = 0 ∨ k = 1 ∨ k = 2 ∨ k = 3 ∨ k = 4 ∨ k = 5 ∨ k = 6 ∨ k = 7 := by omega
    · refine ⟨rfl, ?_⟩; rw [show (sh 2 && gt (st 2) (fb 0)) = true by decide +kernel]; rfl
    · refine ⟨rfl, ?_⟩; rw [show (sh 2 && gt (st 2) (fb 1)) = true by decide +kernel]; rfl
    · refine ⟨rfl, ?_⟩; rw [show (sh 2 && gt (st 2) (fb 2)) = false by decide +kernel]; rfl
    · refine ⟨rfl, ?_⟩; rw [show (sh 2 && gt (st 2) (fb 3)) = false by decide +kernel]; rfl
    · refine ⟨rfl, ?_⟩; rw [show (sh 2 && gt (st 2) (fb 4)) = false by decide +kernel]; rfl
    · refine ⟨rfl, ?_⟩; rw [show (sh 2 && gt (st 2) (fb 5)) = false by decide +kernel]; rfl
    · refine ⟨rfl, ?_⟩; rw [show (sh 2 && gt (st 2) (fb 6)) = false by decide +kernel]; rfl
    · refine ⟨rfl, ?_⟩; rw [show (sh 2 && gt (st 2) (fb 7)) = true by decide +kernel]; rfl
  by_cases h32 : op = 32
  · subst h32
    obtain rfl | rfl | rfl | rfl | rfl | rfl | rfl | rfl : k = 0 ∨ k = 1 ∨ k = 2 ∨ k = 3 ∨ k = 4 ∨ k = 5 ∨ k = 6 ∨ k = 7 := by omega
    · refine ⟨rfl, ?_⟩; rw [show (sh 32 && gt (st 32) (fb 0)) = true by decide +kernel]; rfl
    · refine ⟨rfl, ?_⟩; rw [show (sh 32 && gt (st 32) (fb 1)) = true by decide +kernel]; rfl
    · refine ⟨rfl, ?_⟩; rw [show (sh 32 && gt (st 32) (fb 2)) = false by decide +kernel]; rfl
    · refine ⟨rfl, ?_⟩; rw [show (sh 32 && gt (st 32) (fb 3)) = false by decide +kernel]; rfl
    · refine ⟨rfl, ?_⟩; rw [show (sh 32 && gt (st 32) (fb 4)) = false by decide +kernel]; rfl
    · refine ⟨rfl, ?_⟩; rw [show (sh 32 && gt (st 32) (fb 5)) = false by decide +kernel]; rfl
    · refine ⟨rfl, ?_⟩; rw [show (sh 32 && gt (st 32) (fb 6)) = false by decide +kernel]; rfl
    · refine ⟨rfl, ?_⟩; rw [show (sh 32 && gt (st 32) (fb 7)) = true by decide +kernel]; rfl
  by_cases h39 : op = 39
  · subst h39
    obtain rfl | rfl | rfl | rfl | rfl | rfl | rfl | rfl : k = 0 ∨ k = 1 ∨ k = 2 ∨ k = 3 ∨ k = 4 ∨ k = 5 ∨ k = 6 ∨ k = 7 := by omega
    · exact absurd hN (by decide +kernel)
    · refine ⟨rfl, ?_⟩; rw [show (sh 39 && gt (st 39) (fb 1)) = true by decide +kernel]; rfl
    · refine ⟨rfl, ?_⟩; rw [show (sh 39 && gt (st 39) (fb 2)) = false by decide +kernel]; rfl
    · refine ⟨rfl, ?_⟩; rw [show (sh 39 && gt (st 39) (fb 3)) = false by decide +kernel]; rfl
    · refine ⟨rfl, ?_⟩; rw [show (sh 39 && gt (st 39) (fb 4)) = false by decide +kernel]; rfl
    · refine ⟨rfl, ?_⟩; rw [show (sh 39 && gt (st 39) (fb 5)) = false by decide +kernel]; rfl
    · refine ⟨rfl, ?_⟩; rw [show (sh 39 && gt (st 39) (fb 6)) = false by decide +kernel]; rfl
    · refine ⟨rfl, ?_⟩; rw [show (sh 39 && gt (st 39) (fb 7)) = true by decide +kernel]; rfl
  by_cases h40 : op = 40
  · subst h40
    obtain rfl | rfl | rfl | rfl | rfl | rfl | rfl | rfl : k = 0 ∨ k = 1 ∨ k = 2 ∨ k = 3 ∨ k = 4 ∨ k = 5 ∨ k = 6 ∨ k = 7 := by omega
    · exact absurd hN (by decide +kernel)
    · refine ⟨rfl, ?_⟩; rw [show (sh 40 && gt (st 40) (fb 1)) = true by decide +kernel]; rfl
    · refine ⟨rfl, ?_⟩; rw [show (sh 40 && gt (st 40) (fb 2)) = false by decide +kernel]; rfl
    · refine ⟨rfl, ?_⟩; rw [show (sh 40 && gt (st 40) (fb 3)) = false by decide +kernel]; rfl
    · refine ⟨rfl, ?_⟩; rw [show (sh 40 && gt (st 40) (fb 4)) = false by decide +kernel]; rfl
    · refine ⟨rfl, ?_⟩; rw [show (sh 40 && gt (st 40) (fb 5)) = false by decide +kernel]; rfl
    · refine ⟨rfl, ?_⟩; rw [show (sh 40 && gt (st 40) (fb 6)) = false by decide +kernel]; rfl
    · refine ⟨rfl, ?_⟩; rw [show (sh 40 && gt (st 40) (fb 7)) = true by decide +kernel]; rfl
  have e : sh op = false := by simp [sh, h2, h32, h39, h40]
  rw [e]
  have e2 : ∀ G : Fl, shF op a G = G := fun G => by unfold shF; rw [if_neg (by omega)]
  refine ⟨by unfold shV; simp only [h2, h32, h39, h40, if_false], ?_⟩
  rw [e2, e2]
  rfl
/-- What Do answers is free of every flag that isn't needed. -/
def Free (op : Int) (P : Fl → Fl) (O0 O1 O2 O3 O5 : Fl → Int) : Prop :=
  ∀ k, k < 8 → gt (nd op) (fb k) = false → ∀ F : Fl, O0 (flip k F) = O0 F ∧ O1 (flip k F) = O1 F ∧ O2 (flip k F) = O2 F ∧ O3 (flip k F) = O3 F ∧ O5 (flip k F) = O5 F ∧ P (flip k F) = bif gt (st op) (fb k) then P F else flip k (P F)
theorem back (k : Nat) (hk : k < 8) (z : Bool) (X Y : Fl) (h : Y = bif z then X else flip k X) : (bif z then ((Y.val : Nat) : Int) else bits .xor .u8 (Y.val : Nat) (fb k)) = (X.val : Nat) := by
  subst h
  cases z
  · show bits .xor .u8 ((flip k X).val : Nat) (fb k) = _
    rw [flip_xor k hk, flip_flip k hk]
  · rfl
set_option maxHeartbeats 1000000 in
theorem ldo_24 (a x y s m v : Int) (F : Fl) (w : World) :
    Calls Tryd.prog 9 #[.int .i64 24, .agg #[.int .u8 a, .int .u8 x, .int .u8 y, .int .u8 s, .int .u8 (F.val : Nat), .int .u8 m], .int .u8 v] w fun e w' => e = .returned (.agg #[.int .u8 (a), .int .u8 (x), .int .u8 (y), .int .u8 (s), .int .u8 ((nzF ((v + 1) % 256) F).val : Nat), .int .u8 ((v + 1) % 256)]) ∧ Below w.heap.size w w' := by
  go_enter Tryd.func9, Tryd.ntmps9
  go_wp2_with (go_at_call 11; refine (do_24 _ _ _ _ _ _ _).mono ?_; rintro e w1 ⟨rfl, hb1⟩; obtain ⟨hc1, hf1⟩ := bcell hb1)
  refine bodyPost_ret (v := .agg #[.int .u8 (a), .int .u8 (x), .int .u8 (y), .int .u8 (s), .int .u8 ((nzF ((v + 1) % 256) F).val : Nat), .int .u8 ((v + 1) % 256)]) (by simp [results, Tryd.results9, go_sem, hc1]) rfl ⟨rfl, ?_⟩
  clear hc1 hf1
  have hs := hb1.size
  simp at hs
  repeat (refine Below.setCell ?_ (by simp) _)
  exact (((Below.refl _ _).alloc (Nat.le_refl _) _).alloc (by simp) _).trans (hb1.mono (by simp; omega))
theorem law_freed2 (op a x y s m n : Int) (F : Fl) (w : World) (T : Tabs w) (n0 : 0 ≤ n) (n1 : n ≤ 255) (a0 : 0 ≤ a) (a1 : a ≤ 255) (P : Fl → Fl) (O0 O1 O2 O3 O5 : Fl → Int) (hF : Free op P O0 O1 O2 O3 O5)
    (hDo : ∀ F : Fl, ∀ W, STab W → Calls Tryd.prog 11 #[.int .i64 op, .agg #[.int .u8 a, .int .u8 x, .int .u8 y, .int .u8 s, .int .u8 (F.val : Nat), .int .u8 m]] W fun e w' => e = .returned (.agg #[.int .u8 (O0 F), .int .u8 (O1 F), .int .u8 (O2 F), .int .u8 (O3 F), .int .u8 ((P F).val : Nat), .int .u8 (O5 F)]) ∧ Below W.heap.size W w') :
    Calls Tryd.prog 8 #[.int .i64 op, .agg #[.int .u8 a, .int .u8 x, .int .u8 y, .int .u8 s, .int .u8 (F.val : Nat), .int .u8 m], .int .u8 n] w fun e w' => e = .returned (.bool true) ∧ Below w.heap.size w w' := by
  have hk : (n % 8).toNat < 8 := by omega
  have hf := fb_of _ hk
  have h7 : ∀ W, Calls Tryd.prog 9 #[.int .i64 24, .agg #[.int .u8 a, .int .u8 x, .int .u8 y, .int .u8 s, .int .u8 (F.val : Nat), .int .u8 m], .int .u8 7] W fun e w' => ∃ g : Int, e = .returned (.agg #[.int .u8 a, .int .u8 x, .int .u8 y, .int .u8 s, .int .u8 g, .int .u8 8]) ∧ Below W.heap.size W w' := fun W => by
    refine (ldo_24 a x y s m 7 F W).mono ?_
    rintro e w' ⟨rfl, hb⟩
    exact ⟨_, rfl, hb⟩
  cases hN : gt (nd op) (fb (n % 8).toNat)
  · obtain ⟨e0, e1, e2, e3, e5, eP⟩ := hF _ hk hN F
    obtain ⟨c0, c1⟩ := acc_flip op a _ hk hN F
    refine law_freed1 op a x y s m n _ (O0 F) (O1 F) (O2 F) (O3 F) ((P F).val : Nat) (O5 F) ((P (flip (n % 8).toNat F)).val : Nat) (shV op a F.c) ((shF op a F).val : Nat) ((shF op a (flip (n % 8).toNat F)).val : Nat) F (flip (n % 8).toNat F) w T n0 n1 hf (flip_xor _ hk F) hN (tk_flip op _ hk hN F) h7 (hDo F) ?_ (back _ hk _ _ _ eP) (fun W => acc_any op a x y s m F W a0 a1) ?_ (back _ hk _ _ _ c1)
    · intro W TW
      have h := hDo (flip (n % 8).toNat F) W TW
      rw [e0, e1, e2, e3, e5] at h
      exact h
    · intro W
      have h := acc_any op a x y s m (flip (n % 8).toNat F) W a0 a1
      rw [c0] at h
      exact h
  · exact law_freed0 op a x y s m n _ F w T n0 n1 hf hN h7
end Go.Proofs.YthdmkmbgncbmgaaDoor
