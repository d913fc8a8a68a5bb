/-
  What the laws' own do answers, with the flags that the programs look at.
-/
import Derived.Test.YthdmkmbgncbmgaaDoorALdo3
import Derived.Test.YthdmkmbgncbmgaaDoorAFlgT
namespace Go.Proofs.YthdmkmbgncbmgaaDoor
open Go.RowKit
theorem wCLD (a x y s m v : Int) (F : Fl) (w : World) (T : STab w) :
    Calls Tryd.prog 9 #[.int .i64 14, .agg #[.int .u8 a, .int .u8 x, .int .u8 y, .int .u8 s, .int .u8 (F.val : Nat), .int .u8 m], .int .u8 v] w fun e w' => ∃ G' : Fl, G'.c = F.c ∧ G'.d = false ∧ e = .returned (.agg #[.int .u8 (a), .int .u8 (x), .int .u8 y, .int .u8 s, .int .u8 (G'.val : Nat), .int .u8 (v)]) ∧ Below w.heap.size w w' := by
  refine (ldo_14 a x y s m v F w T).mono ?_
  rintro e w' ⟨rfl, hb⟩
  exact ⟨F.put 8 false, rfl, rfl, rfl, hb⟩
theorem wLDX (a x y s m v : Int) (F : Fl) (w : World) :
    Calls Tryd.prog 9 #[.int .i64 30, .agg #[.int .u8 a, .int .u8 x, .int .u8 y, .int .u8 s, .int .u8 (F.val : Nat), .int .u8 m], .int .u8 v] w fun e w' => ∃ G' : Fl, G'.c = F.c ∧ G'.d = F.d ∧ e = .returned (.agg #[.int .u8 (a), .int .u8 (v), .int .u8 y, .int .u8 s, .int .u8 (G'.val : Nat), .int .u8 (v)]) ∧ Below w.heap.size w w' := by
  refine (ldo_30 a x y s m v F w).mono ?_
  rintro e w' ⟨rfl, hb⟩
  exact ⟨nzF v F, rfl, rfl, rfl, hb⟩
theorem wLDA (a x y s m v : Int) (F : Fl) (w : World) :
    Calls Tryd.prog 9 #[.int .i64 29, .agg #[.int .u8 a, .int .u8 x, .int .u8 y, .int .u8 s, .int .u8 (F.val : Nat), .int .u8 m], .int .u8 v] w fun e w' => ∃ G' : Fl, G'.c = F.c ∧ G'.d = F.d ∧ e = .returned (.agg #[.int .u8 (v), .int .u8 (x), .int .u8 y, .int .u8 s, .int .u8 (G'.val : Nat), .int .u8 (v)]) ∧ Below w.heap.size w w' := by
  refine (ldo_29 a x y s m v F w).mono ?_
  rintro e w' ⟨rfl, hb⟩
  exact ⟨nzF v F, rfl, rfl, rfl, hb⟩
theorem wLSR (a x y s m v : Int) (F : Fl) (w : World) (v0 : 0 ≤ v) (v1 : v ≤ 255) :
    Calls Tryd.prog 9 #[.int .i64 32, .agg #[.int .u8 a, .int .u8 x, .int .u8 y, .int .u8 s, .int .u8 (F.val : Nat), .int .u8 m], .int .u8 v] w fun e w' => ∃ G' : Fl, G'.c = (v % 2 == 1) ∧ G'.d = F.d ∧ e = .returned (.agg #[.int .u8 (a), .int .u8 (x), .int .u8 y, .int .u8 s, .int .u8 (G'.val : Nat), .int .u8 (v / 2)]) ∧ Below w.heap.size w w' := by
  refine (ldo_32 a x y s m v F w v0 v1).mono ?_
  rintro e w' ⟨rfl, hb⟩
  exact ⟨shF 32 v F, rfl, rfl, rfl, hb⟩
theorem wCLC (a x y s m v : Int) (F : Fl) (w : World) (T : STab w) :
    Calls Tryd.prog 9 #[.int .i64 13, .agg #[.int .u8 a, .int .u8 x, .int .u8 y, .int .u8 s, .int .u8 (F.val : Nat), .int .u8 m], .int .u8 v] w fun e w' => ∃ G' : Fl, G'.c = false ∧ G'.d = F.d ∧ e = .returned (.agg #[.int .u8 (a), .int .u8 (x), .int .u8 y, .int .u8 s, .int .u8 (G'.val : Nat), .int .u8 (v)]) ∧ Below w.heap.size w w' := by
  refine (ldo_13 a x y s m v F w T).mono ?_
  rintro e w' ⟨rfl, hb⟩
  exact ⟨F.put 1 false, rfl, rfl, rfl, hb⟩
theorem wROR (a x y s m v : Int) (F : Fl) (w : World) (v0 : 0 ≤ v) (v1 : v ≤ 255) :
    Calls Tryd.prog 9 #[.int .i64 40, .agg #[.int .u8 a, .int .u8 x, .int .u8 y, .int .u8 s, .int .u8 (F.val : Nat), .int .u8 m], .int .u8 v] w fun e w' => ∃ G' : Fl, G'.c = (v % 2 == 1) ∧ G'.d = F.d ∧ e = .returned (.agg #[.int .u8 (a), .int .u8 (x), .int .u8 y, .int .u8 s, .int .u8 (G'.val : Nat), .int .u8 (v / 2 + 128 * ci F.c)]) ∧ Below w.heap.size w w' := by
  refine (ldo_40 a x y s m v F w v0 v1).mono ?_
  rintro e w' ⟨rfl, hb⟩
  exact ⟨shF 40 v F, rfl, rfl, rfl, hb⟩
theorem wASL (a x y s m v : Int) (F : Fl) (w : World) (v0 : 0 ≤ v) (v1 : v ≤ 255) :
    Calls Tryd.prog 9 #[.int .i64 2, .agg #[.int .u8 a, .int .u8 x, .int .u8 y, .int .u8 s, .int .u8 (F.val : Nat), .int .u8 m], .int .u8 v] w fun e w' => ∃ G' : Fl, G'.c = decide (128 ≤ v) ∧ G'.d = F.d ∧ e = .returned (.agg #[.int .u8 (a), .int .u8 (x), .int .u8 y, .int .u8 s, .int .u8 (G'.val : Nat), .int .u8 (v * 2 % 256)]) ∧ Below w.heap.size w w' := by
  refine (ldo_2 a x y s m v F w v0 v1).mono ?_
  rintro e w' ⟨rfl, hb⟩
  exact ⟨shF 2 v F, rfl, rfl, rfl, hb⟩
theorem wROL (a x y s m v : Int) (F : Fl) (w : World) (v0 : 0 ≤ v) (v1 : v ≤ 255) :
    Calls Tryd.prog 9 #[.int .i64 39, .agg #[.int .u8 a, .int .u8 x, .int .u8 y, .int .u8 s, .int .u8 (F.val : Nat), .int .u8 m], .int .u8 v] w fun e w' => ∃ G' : Fl, G'.c = decide (128 ≤ v) ∧ G'.d = F.d ∧ e = .returned (.agg #[.int .u8 (a), .int .u8 (x), .int .u8 y, .int .u8 s, .int .u8 (G'.val : Nat), .int .u8 (v * 2 % 256 + ci F.c)]) ∧ Below w.heap.size w w' := by
  refine (ldo_39 a x y s m v F w v0 v1).mono ?_
  rintro e w' ⟨rfl, hb⟩
  exact ⟨shF 39 v F, rfl, rfl, rfl, hb⟩
theorem wDEX (a x y s m v : Int) (F : Fl) (w : World) :
    Calls Tryd.prog 9 #[.int .i64 21, .agg #[.int .u8 a, .int .u8 x, .int .u8 y, .int .u8 s, .int .u8 (F.val : Nat), .int .u8 m], .int .u8 v] w fun e w' => ∃ G' : Fl, G'.c = F.c ∧ G'.d = F.d ∧ G'.z = ((x - 1) % 256 == 0) ∧ e = .returned (.agg #[.int .u8 (a), .int .u8 ((x - 1) % 256), .int .u8 y, .int .u8 s, .int .u8 (G'.val : Nat), .int .u8 (v)]) ∧ Below w.heap.size w w' := by
  refine (ldo_21 a x y s m v F w).mono ?_
  rintro e w' ⟨rfl, hb⟩
  exact ⟨nzF ((x - 1) % 256) F, rfl, rfl, rfl, rfl, hb⟩
theorem wCMP (a x y s m v : Int) (F : Fl) (w : World) :
    Calls Tryd.prog 9 #[.int .i64 17, .agg #[.int .u8 a, .int .u8 x, .int .u8 y, .int .u8 s, .int .u8 (F.val : Nat), .int .u8 m], .int .u8 v] w fun e w' => ∃ G' : Fl, G'.c = decide (v ≤ a) ∧ G'.d = F.d ∧ e = .returned (.agg #[.int .u8 (a), .int .u8 (x), .int .u8 y, .int .u8 s, .int .u8 (G'.val : Nat), .int .u8 (v)]) ∧ Below w.heap.size w w' := by
  refine (ldo_17 a x y s m v F w).mono ?_
  rintro e w' ⟨rfl, hb⟩
  exact ⟨nzF ((a - v) % 256) (F.put 1 (decide (v ≤ a))), rfl, rfl, rfl, hb⟩
theorem wINC (a x y s m v : Int) (F : Fl) (w : World) :
    Calls Tryd.prog 9 #[.int .i64 24, .agg #[.int .u8 a, .int .u8 x, .int .u8 y, .int .u8 s, .int .u8 (F.val : Nat), .int .u8 m], .int .u8 v] w fun e w' => ∃ G' : Fl, G'.c = F.c ∧ G'.d = F.d ∧ e = .returned (.agg #[.int .u8 (a), .int .u8 (x), .int .u8 y, .int .u8 s, .int .u8 (G'.val : Nat), .int .u8 ((v + 1) % 256)]) ∧ Below w.heap.size w w' := by
  refine (ldo_24 a x y s m v F w).mono ?_
  rintro e w' ⟨rfl, hb⟩
  exact ⟨nzF ((v + 1) % 256) F, rfl, rfl, rfl, hb⟩
theorem wADC (a x y s m v : Int) (F : Fl) (w : World) (a0 : 0 ≤ a) (a1 : a ≤ 255) (v0 : 0 ≤ v) (v1 : v ≤ 255) (hd : F.d = false) :
    Calls Tryd.prog 9 #[.int .i64 0, .agg #[.int .u8 a, .int .u8 x, .int .u8 y, .int .u8 s, .int .u8 (F.val : Nat), .int .u8 m], .int .u8 v] w fun e w' => ∃ G' : Fl, G'.c = decide (255 < a + v + ci F.c) ∧ G'.d = false ∧ e = .returned (.agg #[.int .u8 ((a + v + ci F.c) % 256), .int .u8 (x), .int .u8 y, .int .u8 s, .int .u8 (G'.val : Nat), .int .u8 (v)]) ∧ Below w.heap.size w w' := by
  have e1 : adcV a v F = (a + v + ci F.c) % 256 := by simp [adcV, hd]
  have e2 : adcF a v F = adcB a v F := by simp [adcF, hd]
  refine (ldo_0 a x y s m v F w a0 a1 v0 v1).mono ?_
  rintro e w' ⟨rfl, hb⟩
  exact ⟨adcF a v F, by rw [e2]; rfl, by rw [e2]; exact hd, by rw [e1], hb⟩
theorem wADC0 (a x y s m v : Int) (F : Fl) (w : World) (a0 : 0 ≤ a) (a1 : a ≤ 255) (v0 : 0 ≤ v) (v1 : v ≤ 255) (hd : F.d = false) (hc : F.c = false) :
    Calls Tryd.prog 9 #[.int .i64 0, .agg #[.int .u8 a, .int .u8 x, .int .u8 y, .int .u8 s, .int .u8 (F.val : Nat), .int .u8 m], .int .u8 v] w fun e w' => ∃ G' : Fl, G'.c = decide (255 < a + v) ∧ G'.d = false ∧ e = .returned (.agg #[.int .u8 ((a + v) % 256), .int .u8 (x), .int .u8 y, .int .u8 s, .int .u8 (G'.val : Nat), .int .u8 (v)]) ∧ Below w.heap.size w w' := by
  have h := wADC a x y s m v F w a0 a1 v0 v1 hd
  rw [hc, show ci false = 0 from rfl, Int.add_zero] at h
  exact h
theorem wSBC (a x y s m v : Int) (F : Fl) (w : World) (a0 : 0 ≤ a) (a1 : a ≤ 255) (v0 : 0 ≤ v) (v1 : v ≤ 255) (hd : F.d = false) :
    Calls Tryd.prog 9 #[.int .i64 43, .agg #[.int .u8 a, .int .u8 x, .int .u8 y, .int .u8 s, .int .u8 (F.val : Nat), .int .u8 m], .int .u8 v] w fun e w' => ∃ G' : Fl, G'.c = decide (0 ≤ a - v - (1 - ci F.c)) ∧ G'.d = false ∧ e = .returned (.agg #[.int .u8 ((a - v - (1 - ci F.c)) % 256), .int .u8 (x), .int .u8 y, .int .u8 s, .int .u8 (G'.val : Nat), .int .u8 (v)]) ∧ Below w.heap.size w w' := by
  have e1 : sbcV a v F = (a - v - (1 - ci F.c)) % 256 := by simp [sbcV, hd]
  refine (ldo_43 a x y s m v F w a0 a1 v0 v1).mono ?_
  rintro e w' ⟨rfl, hb⟩
  exact ⟨sbcF a v F, rfl, hd, by rw [e1], hb⟩
theorem wAccROR (a x y s m : Int) (F : Fl) (w : World) (a0 : 0 ≤ a) (a1 : a ≤ 255) :
    Calls Tryd.prog 12 #[.int .i64 40, .agg #[.int .u8 a, .int .u8 x, .int .u8 y, .int .u8 s, .int .u8 (F.val : Nat), .int .u8 m]] w fun e w' => ∃ G' : Fl, G'.c = (a % 2 == 1) ∧ G'.d = F.d ∧ e = .returned (.agg #[.int .u8 (a / 2 + 128 * ci F.c), .int .u8 (x), .int .u8 y, .int .u8 s, .int .u8 (G'.val : Nat), .int .u8 (m)]) ∧ Below w.heap.size w w' := by
  refine (acc_any 40 a x y s m F w a0 a1).mono ?_
  rintro e w' ⟨rfl, hb⟩
  exact ⟨shF 40 a F, rfl, rfl, rfl, hb⟩
theorem wAccROL (a x y s m : Int) (F : Fl) (w : World) (a0 : 0 ≤ a) (a1 : a ≤ 255) :
    Calls Tryd.prog 12 #[.int .i64 39, .agg #[.int .u8 a, .int .u8 x, .int .u8 y, .int .u8 s, .int .u8 (F.val : Nat), .int .u8 m]] w fun e w' => ∃ G' : Fl, G'.c = decide (128 ≤ a) ∧ G'.d = F.d ∧ e = .returned (.agg #[.int .u8 (a * 2 % 256 + ci F.c), .int .u8 (x), .int .u8 y, .int .u8 s, .int .u8 (G'.val : Nat), .int .u8 (m)]) ∧ Below w.heap.size w w' := by
  refine (acc_any 39 a x y s m F w a0 a1).mono ?_
  rintro e w' ⟨rfl, hb⟩
  exact ⟨shF 39 a F, rfl, rfl, rfl, hb⟩
theorem tk_bcs (F : Fl) : tk 4 (F.val : Nat) = F.c := by
  show (bits .and .u8 (F.val : Nat) 1 != 0) = F.c
  rw [bit_c]; cases F.c <;> rfl
theorem tk_bcc (F : Fl) : tk 3 (F.val : Nat) = !F.c := by
  show (bits .and .u8 (F.val : Nat) 1 == 0) = !F.c
  rw [bit_c]; cases F.c <;> rfl
theorem tk_bne (F : Fl) : tk 8 (F.val : Nat) = !F.z := by
  show (bits .and .u8 (F.val : Nat) 2 == 0) = !F.z
  rw [bit_z]; cases F.z <;> rfl
end Go.Proofs.YthdmkmbgncbmgaaDoor
