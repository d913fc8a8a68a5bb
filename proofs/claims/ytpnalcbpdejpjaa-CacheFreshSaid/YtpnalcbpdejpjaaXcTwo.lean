/-
  Two caches beside each other.
-/
import Derived.Test.YtpnalcbpdejpjaaXcRise
set_option linter.unusedSimpArgs false
set_option linter.unusedVariables false
namespace Go.Proofs.Ytpnalcbpdejpjaa
open Go.RowKit Classical
/-- Two caches lie apart. -/
structure Ap (q ga m : Nat) (fa : Option Addr) (q' ga' m' : Nat) (fa' : Option Addr) : Prop where
  q : q ≠ q'
  g : ga ≠ ga'
  m : m ≠ m'
  f : ∀ b, fa = some ⟨b, 0, none⟩ → fa' = some ⟨b, 0, none⟩ → False
theorem Ap.symm {q ga m q' ga' m' : Nat} {fa fa' : Option Addr} (h : Ap q ga m fa q' ga' m' fa') : Ap q' ga' m' fa' q ga m fa := ⟨fun e => h.q e.symm, fun e => h.g e.symm, fun e => h.m e.symm, fun b e e' => h.f b e' e⟩
theorem Ca.row {base q ga kA m k N n fc : Nat} {fa : Option Addr} {A : List Nat} {es : List En} {cnt : Int → Int} {w : World} (h : Ca base q ga kA m k N (.slice fa n fc) A es cnt w) : n = es.length ∧ w.ownsRow base 113 12 (.slice fa n fc) n (eflat es) ∧ ∀ b, (Value.slice fa n fc).ownBlock = some b → fa = some ⟨b, 0, none⟩ := by
  obtain ⟨a9, c9, e9, hfa⟩ := orow_form h.f
  have hne : n = es.length := by cases e9; rfl
  have hf := h.f
  rw [← hne] at hf
  refine ⟨hne, hf, fun b e => ?_⟩
  cases fa with
  | none => exact absurd (show (none : Option Nat) = some b from e) (by simp)
  | some ad =>
    obtain ⟨g, rfl⟩ := orow_where hf
    have e1 : g = b := by injection (show some g = some b from e)
    rw [e1]
/-- What one of two caches that lie apart does leaves the other as it is. -/
theorem Ca.other {base q ga kA m k N n fc base' q' ga' kA' m' k' N' n' fc' : Nat} {fa fa' : Option Addr} {A A' : List Nat} {es es' : List En} {cnt cnt' : Int → Int} {w v : World} (h : Ca base q ga kA m k N (.slice fa n fc) A es cnt w) (h' : Ca base' q' ga' kA' m' k' N' (.slice fa' n' fc') A' es' cnt' w) (ap : Ap q ga m fa q' ga' m' fa') (g : Fr (CaS q' ga' m' (.slice fa' n' fc')) w v) : Ca base q ga kA m k N (.slice fa n fc) A es cnt v := by
  obtain ⟨-, hf, -⟩ := h.row
  obtain ⟨-, hf', ho'⟩ := h'.row
  refine h.fr g ?_ ?_ ?_ ?_
  · rintro (e | e | e | e)
    · exact ap.q e
    · exact orow_blk h'.a h.b (by decide) e.symm
    · exact h'.mr.apart h.b e.symm
    · exact orow_type hf' h.b (by decide) e
  · rintro (e | e | e | e)
    · exact orow_blk h.a h'.b (by decide) e
    · exact ap.g e
    · exact h'.mr.row h.a e.symm
    · have e1 := ho' _ e
      rw [e1] at hf'
      exact orow_apart h.a hf' (by decide) rfl
  · rintro (e | e | e | e)
    · exact h.mr.apart h'.b e
    · exact h.mr.row h'.a e
    · exact ap.m e
    · have e1 := ho' _ e
      rw [e1] at hf'
      exact h.mr.row hf' rfl
  · intro b eb
    rw [eb] at hf
    rintro (e | e | e | e)
    · exact orow_blk hf h'.b (by decide) e
    · exact orow_apart hf h'.a (by decide) e
    · exact h'.mr.row hf e.symm
    · exact ap.f b eb (ho' b e)
/-- .. and they go on lying apart when the list of the other one grows. -/
theorem Ap.grow {base q ga kA m k N n fc q' ga' m' n' fc' n2 fc2 : Nat} {fa fa' fa2 : Option Addr} {A : List Nat} {es : List En} {cnt : Int → Int} {w : World} (h : Ca base q ga kA m k N (.slice fa n fc) A es cnt w) (ap : Ap q ga m fa q' ga' m' fa')
    (ho : ∀ b, (Value.slice fa' n' fc').ownBlock = some b → fa' = some ⟨b, 0, none⟩) (hg : (Value.slice fa2 n2 fc2).ownBlock = (Value.slice fa' n' fc').ownBlock ∨ ∃ b, w.heap.size ≤ b ∧ (Value.slice fa2 n2 fc2).ownBlock = some b) : Ap q ga m fa q' ga' m' fa2 := by
  obtain ⟨-, hf, -⟩ := h.row
  refine ⟨ap.q, ap.g, ap.m, fun b e e2 => ?_⟩
  subst e e2
  rcases hg with hg | ⟨c, hc, hg⟩
  · exact ap.f b rfl (ho b (hg.symm.trans rfl))
  · have e1 : b = c := by injection (show some b = some c from hg)
    have := (orow_base hf).2.1
    omega
end Go.Proofs.Ytpnalcbpdejpjaa
