/-
  drop, both ways.
-/
import Derived.Test.YtpnalcbpdejpjaaXcDrop
set_option linter.unusedSimpArgs false
set_option linter.unusedVariables false
namespace Go.Proofs.Ytpnalcbpdejpjaa
open Go.RowKit Classical
theorem addP_same (cnt : Int → Int) (a d : Int) : addP cnt a a d = cnt := by
  funext x
  unfold addP
  rw [if_neg (by omega)]
theorem drop_none (base q ga kA m k N sl n fc : Nat) (fa : Option Addr) (A : List Nat) (es : List En) (cnt : Int → Int) (w : World) (H : Ca base q ga kA m k N (.slice fa n fc) A es cnt w) (hsl : A[sl]? = some 0) (hN : N ≤ 65536) (hes : es.length ≤ 65536) (hk : (k : Int) ≤ 140000000000000) (hc : ∀ p, -1000000 ≤ cnt p ∧ cnt p ≤ 1000000) :
    Calls Try.prog 37 #[.pointer (some ⟨q, 0, none⟩), .int .i64 ((sl : Nat) : Int)] w fun e w' => e = .returned (.tuple #[.agg #[.int .u16 0, .int .i64 0], .bool false]) ∧ Ca base q ga kA m k N (.slice fa n fc) A es cnt w' ∧ Fr (CaS q ga m (.slice fa n fc)) w w' := by
  have hb : Below w.heap.size w (w.alloc (.cells #[.int .u16 0, .int .i64 0] 24)) := (Below.refl _ _).alloc (Nat.le_refl _) _
  have h1 : Ca base q ga kA m k N (.slice fa n fc) A es cnt (w.alloc (.cells #[.int .u16 0, .int .i64 0] 24)) := H.on hb
  refine (drop_of base q ga kA m k N sl n fc fa A es cnt w (fun _ => False) 0 0 #[.int .u16 0, .int .i64 0, .string ⟨#[]⟩, .int .i64 0, .slice none 0 0, .int .i64 0, .int .i64 0, .int .i64 0, .int .i64 0] 0 0 false ⟨rfl, by kernel_rfl, rfl, rfl⟩ (by omega) (by omega) (by omega) (by omega) (by show (k : Int) + (0 - 0) ≤ _; omega) hc H.b.lt H.mr.lt (fun _ h => h.elim) ((take_none base q ga kA m k N sl _ A es cnt _ h1 hsl hN hes).mono ?_)).mono ?_
  · rintro e w' ⟨rfl, hb2⟩
    exact ⟨rfl, h1.on hb2, Fr.of_below hb2⟩
  · rintro e w' ⟨rfl, ⟨k', hk', ca⟩, fr⟩
    have hkk : k' = k := by
      have h2 : (k' : Int) = k + (0 - 0) := hk'
      omega
    subst hkk
    have hp : addP cnt (pg0 0 0) (pg1 0 0) (-1) = cnt := addP_same cnt 0 (-1)
    rw [hp] at ca
    exact ⟨rfl, ca, fr.mono (fun b h => h.elim False.elim (fun e => .inr (.inr (.inl e))))⟩
theorem drop_some (base q ga kA m k N sl i p fg fc : Nat) (A : List Nat) (es : List En) (cnt : Int → Int) (x l : En) (w : World) (H : Ca base q ga kA m k N (.slice (some ⟨fg, 0, none⟩) (p + 1) fc) A es cnt w) (hsl : A[sl]? = some (i + 1)) (hx : es[i]? = some x) (hl : es[p]? = some l) (hN : N ≤ 65536) (hes : es.length = p + 1) (hp : p < 65536)
    (f0 : 0 ≤ x.f) (f1 : x.f ≤ 1099511627776) (n0 : 0 ≤ x.sz) (n1 : x.sz ≤ 140737488355328) (hk : (k : Int) + (pg1 x.f x.sz - pg0 x.f x.sz) ≤ 140000000000000) (hc : ∀ p, -1000000 ≤ cnt p ∧ cnt p ≤ 1000000) :
    Calls Try.prog 37 #[.pointer (some ⟨q, 0, none⟩), .int .i64 ((sl : Nat) : Int)] w fun e w' => e = .returned (.tuple #[.agg x.key, .bool true]) ∧ (∃ k' : Nat, (k' : Int) = k + (pg1 x.f x.sz - pg0 x.f x.sz) ∧ Ca base q ga kA m k' N (.slice (some ⟨fg, 0, none⟩) p fc) ((A.set l.slot (i + 1)).set sl 0) ((es.set i l).take p) (addP cnt (pg0 x.f x.sz) (pg1 x.f x.sz) (-1)) w') ∧ Fr (CaS q ga m (.slice (some ⟨fg, 0, none⟩) p fc)) w w' := by
  have hb : Below w.heap.size w (w.alloc (.cells #[.int .u16 0, .int .i64 0] 24)) := (Below.refl _ _).alloc (Nat.le_refl _) _
  have h1 : Ca base q ga kA m k N (.slice (some ⟨fg, 0, none⟩) (p + 1) fc) A es cnt (w.alloc (.cells #[.int .u16 0, .int .i64 0] 24)) := H.on hb
  have hf : w.ownsRow base 113 12 (.slice (some ⟨fg, 0, none⟩) (p + 1) fc) (p + 1) (eflat es) := by
    have := H.f
    rw [hes] at this
    exact this
  have hfw := (orow_base hf).2.1
  have hgw := (orow_base H.a).2.1
  have hqw := H.b.lt
  refine (drop_of base q ga kA m k N sl p fc (some ⟨fg, 0, none⟩) ((A.set l.slot (i + 1)).set sl 0) ((es.set i l).take p) cnt w (CaS q ga m (.slice (some ⟨fg, 0, none⟩) (p + 1) fc)) x.pc x.tag x.held x.f x.sz true ⟨rfl, by kernel_rfl, rfl, rfl⟩ f0 f1 n0 n1 hk hc H.b.lt H.mr.lt (fun b h => by
    rcases h with h | h | h | h
    · omega
    · omega
    · have := H.mr.lt; omega
    · have : fg = b := by injection (show some fg = some b from h)
      omega) ((take_some base q ga kA m k N sl i p fg fc A es cnt _ h1 hsl hN hes hp).mono ?_)).mono ?_
  · rintro e w' ⟨x', l', hx', hs', hl', rfl, ca, fr⟩
    obtain rfl : x' = x := by rw [hx] at hx'; exact (Option.some.inj hx').symm
    obtain rfl : l' = l := by rw [hl] at hl'; exact (Option.some.inj hl').symm
    exact ⟨rfl, ca, fr⟩
  · rintro e w' ⟨rfl, hca, fr⟩
    exact ⟨rfl, hca, fr.mono (fun b h => by
      rcases h with h | h
      · exact h
      · exact .inr (.inr (.inl h)))⟩
end Go.Proofs.Ytpnalcbpdejpjaa
