/-
  rising.
-/
import Derived.Test.YtpnalcbpdejpjaaXcKeys
set_option linter.unusedSimpArgs false
set_option linter.unusedVariables false
namespace Go.Proofs.Ytpnalcbpdejpjaa
open Go.RowKit Classical
theorem kflat_len : ∀ l : List En, (kflat l).length = l.length * 2
  | [] => rfl
  | m :: l => by
    show (m.key.toList ++ kflat l).length = _
    rw [List.length_append, kflat_len l, List.length_cons]
    show 2 + l.length * 2 = (l.length + 1) * 2
    omega
theorem kflat_at : ∀ (l : List En) (j : Nat) (x : En), l[j]? = some x → ∀ t, t < 2 → (kflat l)[j * 2 + t]? = x.key[t]?
  | [], j, x, h, _, _ => by simp at h
  | m :: l, 0, x, h, t, ht => by
    simp at h; subst h
    show (m.key.toList ++ kflat l)[0 * 2 + t]? = _
    rw [Nat.zero_mul, Nat.zero_add, List.getElem?_append_left (by show t < 2; exact ht)]
    simp
  | m :: l, j + 1, x, h, t, ht => by
    simp at h
    show (m.key.toList ++ kflat l)[(j + 1) * 2 + t]? = _
    rw [List.getElem?_append_right (by show 2 ≤ _; omega), ← kflat_at l j x h t ht]
    congr 1
    show (j + 1) * 2 + t - 2 = _
    omega
set_option maxRecDepth 100000 in
set_option maxHeartbeats 4000000 in
theorem rising_yes (base n : Nat) (v : Value) (L : List En) (w : World) (H : w.ownsRow base 24 2 v n (kflat L)) (hn : n ≤ 65536) (hL : n = L.length) (hs : ∀ i x y, L[i]? = some x → L[i + 1]? = some y → x.pc < y.pc ∨ (x.pc = y.pc ∧ x.tag < y.tag)) :
    Calls Try.prog 17 #[v] w fun e w' => e = .returned (.bool true) ∧ Below w.heap.size w w' := by
  obtain ⟨ad, c, rfl, -⟩ := orow_form H
  have HH : Hid (w.ownsRow base 24 2 (.slice ad n c) n (kflat L)) := H
  have HS : Hid (n = L.length ∧ ∀ i x y, L[i]? = some x → L[i + 1]? = some y → x.pc < y.pc ∨ (x.pc = y.pc ∧ x.tag < y.tag)) := ⟨hL, hs⟩
  clear H hL hs
  go_enter Try.func17, Try.ntmps17
  go_upto_region 2 with fail
  go_loopw [3] (fun i wr => ∃ p : Nat, (p ≤ n ∨ p = 1) ∧ i = .int .i64 ((p + 1 : Nat) : Int) ∧ p + 1 ≤ 65537 ∧ Below w.heap.size w wr) (fun i _ => ((n : Int) + 1 - intOf i).toNat)
  case atStart => exact ⟨0, by omega, rfl, by omega, Below.refl _ _⟩
  case round =>
    obtain ⟨p, hp, rfl, hp2, hb⟩ := hrel
    by_cases hlt : p + 1 < n
    · obtain ⟨x, hx⟩ : ∃ x, L[p]? = some x := ⟨_, List.getElem?_eq_getElem (by have := HS.out.1; omega)⟩
      obtain ⟨y, hy⟩ : ∃ y, L[p + 1]? = some y := ⟨_, List.getElem?_eq_getElem (by have := HS.out.1; omega)⟩
      obtain ⟨g, rfl⟩ : ∃ g, ad = some ⟨g, 0, none⟩ := by
        cases ad with
        | none => have := (orow_none HH.out).1; omega
        | some ad => obtain ⟨g, rfl⟩ := orow_where HH.out; exact ⟨g, rfl⟩
      have cx : ∀ j z, L[j]? = some z → j < n → ∀ t, t < 2 → wr.cell? ⟨g, j * 2 + t, none⟩ = z.key[t]? := fun j z hz hj t ht => by
        have h1 := orow_cell HH.out (j * 2 + t) (by omega)
        rw [kflat_at L j z hz t ht] at h1
        have h2 : ∃ u, z.key[t]? = some u := ⟨_, Array.getElem?_eq_getElem (by show t < 2; exact ht)⟩
        obtain ⟨u, hu⟩ := h2
        rw [hu] at h1 ⊢
        exact (hb.cell (p := ⟨g, j * 2 + t, none⟩) (cell_lt h1)).trans h1
      have d0 : wr.cell? ⟨g, p * 2, none⟩ = some (.int .u16 x.pc) := cx p x hx (by omega) 0 (by omega)
      have d1 : wr.cell? ⟨g, p * 2 + 1, none⟩ = some (.int .i64 x.tag) := cx p x hx (by omega) 1 (by omega)
      have d2 : wr.cell? ⟨g, (p + 1) * 2, none⟩ = some (.int .u16 y.pc) := cx (p + 1) y hy (by omega) 0 (by omega)
      have d3 : wr.cell? ⟨g, (p + 1) * 2 + 1, none⟩ = some (.int .i64 y.tag) := cx (p + 1) y hy (by omega) 1 (by omega)
      have hxy := HS.out.2 p x y hx hy
      clear cx hx hy
      generalize x.pc = a at *
      generalize y.pc = b at *
      generalize x.tag = s1 at *
      generalize y.tag = s2 at *
      have hw1 : IntKind.i64.wrap (p : Int) = (p : Int) := by rw [IntKind.wrap_i64]; omega
      have hl1 : (p : Int) < (n : Int) := by omega
      have hl2 : (p : Int) + 1 < (n : Int) := by omega
      go_upto_region 4 with fail
      rcases hxy with h | ⟨rfl, h⟩
      · have q1 : decide (b < a) = false := by simp; omega
        have q2 : (a == b) = false := by simp; omega
        go_quiet (fail)
        go_wp2
        go_roundw
        case rel => exact ⟨p + 1, by omega, by go_num, by omega, below_drawsX hb nq⟩
        case measure => simp [intOf]; omega
      · have q1 : decide (a < a) = false := by simp
        have q2 : (a == a) = true := by simp
        have q3 : decide (s2 ≤ s1) = false := by simp; omega
        go_quiet (fail)
        go_wp2
        go_roundw
        case rel => exact ⟨p + 1, by omega, by go_num, by omega, below_drawsX hb nq⟩
        case measure => simp [intOf]; omega
    · go_wp2
      go_ret
      exact ⟨rfl, hb⟩
end Go.Proofs.Ytpnalcbpdejpjaa
