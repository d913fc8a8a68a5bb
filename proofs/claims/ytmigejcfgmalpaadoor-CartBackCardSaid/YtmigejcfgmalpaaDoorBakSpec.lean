/-
  A cartridge of NES 2.0 as the law makes it: the check lets it through; plain facts, no conditions.
-/
import Derived.Test.YtmigejcfgmalpaaDoorParSpec
import Derived.Test.YtmigejcfgmalpaaDoorThrSpec
import Derived.Test.YtmigejcfgmalpaaDoorBase
set_option linter.unusedSimpArgs false
set_option linter.unusedVariables false
namespace Go.Proofs.YtmigejcfgmalpaaDoor
open Go.RowKit
/-- A memory that four bits tell. -/
def Mm (v : Int) : Prop := ∃ k : Nat, k ≤ 15 ∧ v = ((if k = 0 then 0 else 64 * 2 ^ k : Nat) : Int)
/-- A length that NES 2.0 can tell. -/
def Sz (u n : Nat) : Prop := 1 ≤ n ∧ n ≤ 65536 ∧ (n % u = 0 ∨ Chk.oddPart 64 n ≤ 7)
/-- A cartridge of NES 2.0 that may be printed. -/
structure Wh (d : CF) : Prop where
  f : d.fmt = 2
  m : 0 ≤ d.map ∧ d.map ≤ 4095
  sub : 0 ≤ d.sub ∧ d.sub ≤ 15
  con : 0 ≤ d.con ∧ d.con ≤ 3
  kind : 0 ≤ d.kind ∧ d.kind ≤ Chk.kindTop d.con
  tim : 0 ≤ d.tim ∧ d.tim ≤ 3
  dev : 0 ≤ d.dev ∧ d.dev ≤ 63
  misc : 0 ≤ d.misc ∧ d.misc ≤ 3
  pr : Mm d.pr
  pn : Mm d.pn
  cr : Mm d.cr
  cn : Mm d.cn
  np : Sz 16384 d.np
  nq : d.nq = 0 ∨ Sz 8192 d.nq
  nt : d.nt = 0 ∨ d.nt = 512
  nr : d.misc = 0 ∧ d.nr = 0 ∨ d.misc ≠ 0 ∧ 3 ≤ d.nr ∧ d.nr ≤ 33
theorem mm_ok0 : ∀ k : Nat, k ≤ 15 → Chk.ramOk ((if k = 0 then 0 else 64 * 2 ^ k : Nat) : Int) = true := by decide +kernel
theorem mm_bd0 : ∀ k : Nat, k ≤ 15 → (if k = 0 then 0 else 64 * 2 ^ k : Nat) ≤ 2097152 := by decide
theorem Mm.ok {v : Int} (h : Mm v) : Chk.ramOk v = true := by
  obtain ⟨k, hk, rfl⟩ := h
  exact mm_ok0 k hk
theorem Mm.bd {v : Int} (h : Mm v) : 0 ≤ v ∧ v ≤ 2097152 := by
  obtain ⟨k, hk, rfl⟩ := h
  have := mm_bd0 k hk
  omega
theorem odd_small : ∀ s : Nat, s ≤ 3 → ∀ e : Nat, e ≤ 15 → Chk.oddPart 64 ((1 + 2 * s) * 2 ^ e) ≤ 7 := by decide +kernel
theorem Wh.ck {d : CF} (h : Wh d) : ckE d = 0 ∧ ckN d = 0 := by
  have hf := h.f
  have hr : Chk.row d.fmt = [4095, 15, 3, 3, 63, 3, 0] := by rw [hf]; rfl
  obtain ⟨n1, n2, n3⟩ := h.np
  have hnt := h.nt
  have hnr := h.nr
  have hmi := h.misc
  have hnq : d.nq ≤ 65536 := by rcases h.nq with e | ⟨_, e, _⟩ <;> omega
  refine ck_good _ (within_ok (by omega) (by omega)) ?_ (by unfold Chk.imageLen; omega)
  intro b hb
  simp only [Chk.may, List.mem_cons, List.not_mem_nil, or_false] at hb
  rcases hb with rfl | rfl | rfl | rfl | rfl | rfl | rfl | rfl | rfl | rfl | rfl | rfl | rfl | rfl | rfl | rfl | rfl | rfl | rfl
  · rfl
  · rw [hr]; exact within_ok h.m.1 h.m.2
  · rw [hr]; exact within_ok h.sub.1 h.sub.2
  · rfl
  · rfl
  · rfl
  · rw [hr]; exact within_ok h.con.1 h.con.2
  · unfold Chk.kindOk; rw [if_pos hf]; exact within_ok h.kind.1 h.kind.2
  · rw [hr]; exact within_ok h.tim.1 h.tim.2
  · rw [hr]; exact within_ok h.dev.1 h.dev.2
  · rw [hr]; exact within_ok h.misc.1 h.misc.2
  · unfold Chk.workOk; rw [if_pos hf]; exact h.pr.ok
  · unfold Chk.workOk; rw [if_pos hf]; exact h.pn.ok
  · unfold Chk.chrOk; rw [if_pos hf]; exact h.cr.ok
  · unfold Chk.chrOk; rw [if_pos hf]; exact h.cn.ok
  · rcases hnt with e | e <;> simp [e]
  · simp only [Chk.romOk, Bool.and_eq_true, Bool.or_eq_true, decide_eq_true_eq]
    exact ⟨by omega, by omega, n3.imp id fun e => ⟨hf, e⟩⟩
  · simp only [Chk.romOk, Bool.and_eq_true, Bool.or_eq_true, decide_eq_true_eq]
    refine ⟨by omega, ?_⟩
    rcases h.nq with e | ⟨_, _, e⟩
    · exact .inl (by rw [e])
    · exact e.imp id fun e => ⟨hf, e⟩
  · unfold Chk.restOk
    rcases hnr with ⟨e1, e2⟩ | ⟨e1, e2, e3⟩
    · rw [if_pos ⟨hf, e1⟩]; exact decide_eq_true e2
    · rw [if_neg (fun e => e1 e.2), if_neg (fun e => by have := e.1; omega), if_pos hf]; exact decide_eq_true (by omega)
theorem hd_bytes {c : CF} {x : HN} (X : Hb c x) (f2 : x.f = 2) : Bytes (hdL c x) := by
  obtain ⟨b4, b5, b6, b7, b8, b9, b10, b11, e, Y⟩ := hy_of X f2
  rw [e]
  have := X.t
  have := X.kd
  have := X.mi
  have := X.d
  have := Y.l4
  have := Y.l5
  have := Y.l6
  have := Y.l7
  have := Y.l8
  have := Y.l9
  have := Y.l10
  have := Y.l11
  intro y hy
  simp only [lh, List.mem_cons, List.not_mem_nil, or_false] at hy
  omega
end Go.Proofs.YtmigejcfgmalpaaDoor
