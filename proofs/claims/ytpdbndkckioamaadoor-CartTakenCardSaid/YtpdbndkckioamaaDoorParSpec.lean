/-
  What is read of the header of a NES 2.0 cartridge that may be printed; plain facts, no conditions.
-/
import Derived.Test.YtpdbndkckioamaaDoorPrtSpec
set_option linter.unusedSimpArgs false
set_option linter.unusedVariables false
namespace Go.Proofs.YtpdbndkckioamaaDoor
/-- What the check says besides. -/
structure H2 (c : CF) (x : HN) : Prop where
  nt : c.nt = 0 ∨ c.nt = 512
  kind : (x.kd : Int) ≤ Chk.kindTop x.k
  rest : (x.mi = 0 → c.nr = 0) ∧ x.mi ≤ c.nr
theorem h2_of {c : CF} {x : HN} (h : ckE c = 0) (X : Hb c x) (f2 : x.f = 2) : H2 c x := by
  obtain ⟨-, hm, -⟩ := ck_may h
  have g : ∀ (i : Nat) (b : Bool), (Chk.may c)[i]? = some b → b = true := fun i b hb => hm b (List.mem_of_getElem? hb)
  have h7 := g 7 _ rfl
  have h15 := g 15 _ rfl
  have h18 := g 18 _ rfl
  have cf : c.fmt = 2 := by rw [X.cf, f2]; rfl
  refine ⟨by simpa only [Bool.or_eq_true, decide_eq_true_eq] using h15, ?_, ?_⟩
  · unfold Chk.kindOk at h7
    rw [if_pos cf, X.ckd, X.ck] at h7
    obtain ⟨k, e, hk⟩ := within_nat h7
    rw [e]
    exact hk
  · unfold Chk.restOk at h18
    have cm := X.cmi
    by_cases h0 : x.mi = 0
    · rw [if_pos ⟨cf, by rw [cm, h0]; rfl⟩] at h18
      exact ⟨fun _ => of_decide_eq_true h18, by omega⟩
    · rw [if_neg (fun e => h0 (by have := e.2; omega)), if_neg (fun e => by have := e.1; omega), if_pos cf] at h18
      have := of_decide_eq_true h18
      exact ⟨fun e => absurd e h0, by omega⟩
theorem b7_fmt : ∀ a b : Nat, a < 16 → b < 4 → bits BinOp.and IntKind.u8 ((a * 16 + 8 + b : Nat) : Int) 12 = 8 ∧ bits BinOp.and IntKind.u8 ((a * 16 + 8 + b : Nat) : Int) 3 = (b : Int) ∧ bits BinOp.and IntKind.u8 ((a * 16 + 8 + b : Nat) : Int) 240 = ((a * 16 : Nat) : Int) := by
  have g : ∀ (a : Fin 16) (b : Fin 4), bits BinOp.and IntKind.u8 ((a.val * 16 + 8 + b.val : Nat) : Int) 12 = 8 ∧ bits BinOp.and IntKind.u8 ((a.val * 16 + 8 + b.val : Nat) : Int) 3 = ((b.val : Nat) : Int) ∧ bits BinOp.and IntKind.u8 ((a.val * 16 + 8 + b.val : Nat) : Int) 240 = ((a.val * 16 : Nat) : Int) := by decide +kernel
  exact fun a b ha hb => g ⟨a, ha⟩ ⟨b, hb⟩
theorem nib : ∀ a b : Nat, a < 16 → b < 16 → bits BinOp.and IntKind.u8 ((b + a * 16 : Nat) : Int) 15 = (b : Int) ∧ ((b + a * 16 : Nat) : Int) / 16 = (a : Int) := by
  have g : ∀ (a : Fin 16) (b : Fin 16), bits BinOp.and IntKind.u8 ((b.val + a.val * 16 : Nat) : Int) 15 = ((b.val : Nat) : Int) := by decide +kernel
  exact fun a b ha hb => ⟨g ⟨a, ha⟩ ⟨b, hb⟩, by omega⟩
theorem b6_bits : ∀ (y : Nat) (v b t f : Bool), y < 16 → (let n := y * 16 + (if v then 1 else 0) + (if b then 2 else 0) + (if t then 4 else 0) + (if f then 8 else 0)
    (bits BinOp.and IntKind.u8 ((n : Nat) : Int) 1 != 0) = v ∧ (bits BinOp.and IntKind.u8 ((n : Nat) : Int) 2 != 0) = b ∧ (bits BinOp.and IntKind.u8 ((n : Nat) : Int) 4 != 0) = t ∧ (bits BinOp.and IntKind.u8 ((n : Nat) : Int) 8 != 0) = f ∧ ((n : Nat) : Int) / 16 = (y : Int)) := by
  have g : ∀ (y : Fin 16) (v b t f : Bool), (let n := y.val * 16 + (if v then 1 else 0) + (if b then 2 else 0) + (if t then 4 else 0) + (if f then 8 else 0)
    (bits BinOp.and IntKind.u8 ((n : Nat) : Int) 1 != 0) = v ∧ (bits BinOp.and IntKind.u8 ((n : Nat) : Int) 2 != 0) = b ∧ (bits BinOp.and IntKind.u8 ((n : Nat) : Int) 4 != 0) = t ∧ (bits BinOp.and IntKind.u8 ((n : Nat) : Int) 8 != 0) = f ∧ ((n : Nat) : Int) / 16 = ((y.val : Nat) : Int)) := by decide +kernel
  exact fun y v b t f hy => g ⟨y, hy⟩ v b t f
theorem low_bits : (∀ t : Nat, t < 4 → bits BinOp.and IntKind.u8 (t : Int) 3 = (t : Int) ∧ bits BinOp.and IntKind.u8 (t : Int) 252 = 0) ∧ (∀ d : Nat, d < 64 → bits BinOp.and IntKind.u8 (d : Int) 63 = (d : Int) ∧ bits BinOp.and IntKind.u8 (d : Int) 192 = 0) := by
  have g1 : ∀ t : Fin 4, bits BinOp.and IntKind.u8 ((t.val : Nat) : Int) 3 = ((t.val : Nat) : Int) ∧ bits BinOp.and IntKind.u8 ((t.val : Nat) : Int) 252 = 0 := by decide +kernel
  have g2 : ∀ t : Fin 64, bits BinOp.and IntKind.u8 ((t.val : Nat) : Int) 63 = ((t.val : Nat) : Int) ∧ bits BinOp.and IntKind.u8 ((t.val : Nat) : Int) 192 = 0 := by decide +kernel
  exact ⟨fun t h => g1 ⟨t, h⟩, fun t h => g2 ⟨t, h⟩⟩
theorem and_zero (n : Nat) (h : n < 256) : bits BinOp.and IntKind.u8 (n : Int) 0 = 0 := by
  have g : ∀ t : Fin 256, bits BinOp.and IntKind.u8 ((t.val : Nat) : Int) 0 = 0 := by decide +kernel
  exact g ⟨n, h⟩
theorem kd_bits : ∀ kd : Nat, kd < 16 → bits BinOp.and IntKind.u8 (kd : Int) 240 = 0 := by
  have g : ∀ t : Fin 16, bits BinOp.and IntKind.u8 ((t.val : Nat) : Int) 240 = 0 := by decide +kernel
  exact fun k h => g ⟨k, h⟩
theorem map_or (m : Nat) (h : m < 4096) : bits BinOp.or IntKind.i64 ((m / 16 % 16 * 16 : Nat) : Int) ((m / 256 * 256 : Nat) : Int) = ((m / 16 * 16 : Nat) : Int) ∧ bits BinOp.or IntKind.i64 ((m % 16 : Nat) : Int) ((m / 16 * 16 : Nat) : Int) = (m : Int) := by
  have g : ∀ (a : Fin 64) (b : Fin 64), bits BinOp.or IntKind.i64 (((a.val * 64 + b.val) / 16 % 16 * 16 : Nat) : Int) (((a.val * 64 + b.val) / 256 * 256 : Nat) : Int) = (((a.val * 64 + b.val) / 16 * 16 : Nat) : Int) ∧ bits BinOp.or IntKind.i64 (((a.val * 64 + b.val) % 16 : Nat) : Int) (((a.val * 64 + b.val) / 16 * 16 : Nat) : Int) = ((a.val * 64 + b.val : Nat) : Int) := by decide +kernel
  have e := g ⟨m / 64, by omega⟩ ⟨m % 64, by omega⟩
  simp only [show m / 64 * 64 + m % 64 = m by omega] at e
  exact e
theorem lo_bits (k o : Nat) (hk : k < 64) (ho : o ≤ 7) : bits BinOp.and IntKind.u8 ((k * 4 + o / 2 : Nat) : Int) 3 = ((o / 2 : Nat) : Int) ∧ ((k * 4 + o / 2 : Nat) : Int) / 4 = (k : Int) := by
  have g : ∀ (k : Fin 64) (o : Fin 8), bits BinOp.and IntKind.u8 ((k.val * 4 + o.val / 2 : Nat) : Int) 3 = ((o.val / 2 : Nat) : Int) := by decide +kernel
  exact ⟨g ⟨k, hk⟩ ⟨o, by omega⟩, by omega⟩
theorem odd_of (n : Nat) (h0 : n ≠ 0) (h : n < 18446744073709551616) : ∀ f, n < 2 ^ f → Chk.oddPart f n % 2 = 1 := by
  intro f
  induction f generalizing n with
  | zero => intro hf; simp at hf; exact absurd hf h0
  | succ f ih =>
    intro hf
    rw [Chk.oddPart]
    by_cases h2 : n % 2 = 0
    · rw [if_pos h2]
      exact ih (n / 2) (by omega) (by omega) (by rw [Nat.pow_succ] at hf; omega)
    · rw [if_neg h2]; omega
/-- A header's bytes of NES 2.0, and what is read of them. -/
structure Hy (c : CF) (x : HN) (b4 b5 b6 b7 b8 b9 b10 b11 : Nat) : Prop where
  e4 : b4 = loB c.np 16384
  e5 : b5 = loB c.nq 8192
  l4 : b4 < 256
  l5 : b5 < 256
  l6 : b6 < 256
  l7 : b7 < 256
  l8 : b8 < 256
  l9 : b9 < 256
  l10 : b10 < 256
  l11 : b11 < 256
  f12 : bits BinOp.and IntKind.u8 (b7 : Int) 12 = 8
  f3 : bits BinOp.and IntKind.u8 (b7 : Int) 3 = (x.k : Int)
  f240 : bits BinOp.and IntKind.u8 (b7 : Int) 240 = ((x.m / 16 % 16 * 16 : Nat) : Int)
  m8a : bits BinOp.and IntKind.u8 (b8 : Int) 15 = ((x.m / 256 : Nat) : Int)
  m8b : (b8 : Int) / 16 = (x.s : Int)
  s9a : bits BinOp.and IntKind.u8 (b9 : Int) 15 = (hiB c.np 16384 : Int)
  s9b : (b9 : Int) / 16 = (hiB c.nq 8192 : Int)
  r10a : bits BinOp.and IntKind.u8 (b10 : Int) 15 = (x.a1 : Int)
  r10b : (b10 : Int) / 16 = (x.a2 : Int)
  r11a : bits BinOp.and IntKind.u8 (b11 : Int) 15 = (x.a3 : Int)
  r11b : (b11 : Int) / 16 = (x.a4 : Int)
  v1 : (bits BinOp.and IntKind.u8 (b6 : Int) 1 != 0) = c.vert
  v2 : (bits BinOp.and IntKind.u8 (b6 : Int) 2 != 0) = c.bat
  v4 : (bits BinOp.and IntKind.u8 (b6 : Int) 4 != 0) = decide (0 < c.nt)
  v8 : (bits BinOp.and IntKind.u8 (b6 : Int) 8 != 0) = c.four
  m6 : (b6 : Int) / 16 = ((x.m % 16 : Nat) : Int)
/-- The header of NES 2.0 as a list. -/
def lh (x : HN) (b4 b5 b6 b7 b8 b9 b10 b11 : Nat) : List Nat := [78, 69, 83, 26, b4, b5, b6, b7, b8, b9, b10, b11, x.t, x.kd, x.mi, x.d]
theorem hy_of {c : CF} {x : HN} (X : Hb c x) (f2 : x.f = 2) : ∃ b4 b5 b6 b7 b8 b9 b10 b11, hdL c x = lh x b4 b5 b6 b7 b8 b9 b10 b11 ∧ Hy c x b4 b5 b6 b7 b8 b9 b10 b11 := by
  have hm := X.m
  have hk := X.k
  have hs := X.s
  have h1 := X.np
  have h2 := X.nq
  obtain ⟨⟨-, z1⟩, ⟨-, z2⟩, ⟨-, z3⟩, ⟨-, z4⟩⟩ := X.r f2
  have hp : hiB c.np 16384 < 16 := by unfold hiB; split <;> decide
  have hq : hiB c.nq 8192 < 16 := by unfold hiB; split <;> decide
  obtain ⟨f12, f3, f240⟩ := b7_fmt (x.m / 16 % 16) x.k (Nat.mod_lt _ (by decide)) hk
  obtain ⟨m8a, m8b⟩ := nib x.s (x.m / 256) hs (by omega)
  obtain ⟨s9a, s9b⟩ := nib (hiB c.nq 8192) (hiB c.np 16384) hq hp
  obtain ⟨r10a, r10b⟩ := nib x.a2 x.a1 (by omega) (by omega)
  obtain ⟨r11a, r11b⟩ := nib x.a4 x.a3 (by omega) (by omega)
  obtain ⟨v1, v2, v4, v8, m6⟩ := b6_bits (x.m % 16) c.vert c.bat (decide (0 < c.nt)) c.four (Nat.mod_lt _ (by decide))
  have e6 : x.m % 16 * 16 + (if c.vert then 1 else 0) + (if c.bat then 2 else 0) + (if decide (0 < c.nt) = true then 4 else 0) + (if c.four then 8 else 0) = h6 c x := by
    unfold h6
    by_cases hn : 0 < c.nt <;> simp [hn]
  simp only [e6] at v1 v2 v4 v8 m6
  have l6 : h6 c x < 256 := by
    rw [← e6]
    have : x.m % 16 < 16 := Nat.mod_lt _ (by decide)
    cases c.vert <;> cases c.bat <;> cases c.four <;> by_cases hn : 0 < c.nt <;> simp [hn] <;> omega
  refine ⟨loB c.np 16384, loB c.nq 8192, h6 c x, x.m / 16 % 16 * 16 + 8 + x.k, x.m / 256 + x.s * 16, hiB c.np 16384 + hiB c.nq 8192 * 16, x.a1 + x.a2 * 16, x.a3 + x.a4 * 16, ?_, ?_⟩
  · unfold hdL lh
    rw [if_neg (by omega), if_neg (by omega), Nat.add_comm (x.m / 256)]
    rfl
  · exact ⟨rfl, rfl, lo_lt (fun h e => h (by rw [e])) X.np (by omega) (X.npu.imp id fun h => h.2), lo_lt (fun h e => h (by rw [e])) (by omega) (by omega) (X.nqu.imp id fun h => h.2), l6, by omega, by omega, by omega, by omega, by omega,
      f12, f3, f240, m8a, m8b, s9a, s9b, r10a, r10b, r11a, r11b, v1, v2, v4, v8, m6⟩
end Go.Proofs.YtpdbndkckioamaaDoor
