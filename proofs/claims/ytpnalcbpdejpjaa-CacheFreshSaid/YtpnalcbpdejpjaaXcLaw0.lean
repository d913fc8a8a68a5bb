/-
  The lists of the law CacheFresh.
-/
import Derived.Test.YtpnalcbpdejpjaaXcFr
set_option linter.unusedSimpArgs false
set_option linter.unusedVariables false
namespace Go.Proofs.Ytpnalcbpdejpjaa
open Go.RowKit Classical
/-- The marks in a list of micro-ops, and in a list of keys. -/
def Mkd (cells : List Value) (n : Nat) (x : Int) : Prop := ∀ i, i < n → cells[i * 7 + 6]? = some (.int .i64 (x + (i : Int)))
def Tgd (cells : List Value) (n : Nat) (x : Int) : Prop := ∀ i, i < n → cells[i * 2 + 1]? = some (.int .i64 x)
theorem own_fr {w w' : World} {v : Value} {B : Nat} (g : Fr (fun k => v.ownBlock = some k) w w') (hb : ∀ k, v.ownBlock = some k → B ≤ k) (hB : B ≤ w.heap.size) : Below B w w' := g.below hb hB
set_option maxRecDepth 100000 in
set_option maxHeartbeats 4000000 in
theorem marked_any (base n : Nat) (v : Value) (cells : List Value) (x : Int) (w : World) (H : w.ownsRow base 54 7 v n cells) (hn : n ≤ 2932031007317) (x0 : -1000000000 ≤ x) (x1 : x ≤ 1000000000) :
    Calls Try.prog 22 #[v, .int .i64 x] w fun e w' => e = .returned (.tuple #[]) ∧ (∃ cells', w'.ownsRow base 54 7 v n cells' ∧ Mkd cells' n x) ∧ Fr (fun k => v.ownBlock = some k) w w' := by
  obtain ⟨ad, c, rfl, -⟩ := orow_form H
  go_enter Try.func22, Try.ntmps22
  go_upto_region 1 with fail
  go_loopw [4] (fun i wr => ∃ (p : Nat) (cs : List Value), p ≤ n ∧ i = .int .i64 ((p : Nat) : Int) ∧ wr.ownsRow base 54 7 (.slice ad n c) n cs ∧ Mkd cs p x ∧ Fr (fun k => (Value.slice ad n c).ownBlock = some k) w wr) (fun i _ => ((n : Int) - intOf i).toNat)
  case atStart => exact ⟨0, cells, by omega, rfl, H, fun i hi => by omega, Fr.refl _ _⟩
  case round =>
    obtain ⟨p, cs, hp, rfl, hr, hd, hf⟩ := hrel
    clear H
    by_cases hlt : p < n
    · obtain ⟨g, rfl⟩ : ∃ g, ad = some ⟨g, 0, none⟩ := by
        cases ad with
        | none => have := (orow_none hr).1; omega
        | some ad => obtain ⟨g, rfl⟩ := orow_where hr; exact ⟨g, rfl⟩
      have hlen := hr.1
      obtain ⟨u, hu⟩ : ∃ u, cs[p * 7 + 6]? = some u := ⟨_, List.getElem?_eq_getElem (by omega)⟩
      have e1 : wr.cell? ⟨g, p * 7 + 6, none⟩ = some u := (orow_cell hr (p * 7 + 6) (by omega)).trans hu
      have e2 : wr.frozen? ⟨g, p * 7 + 6, none⟩ = false := orow_free hr _
      have hpi : (p : Int) < (n : Int) := by omega
      have hwx : IntKind.i64.wrap (x + ((p : Nat) : Int)) = x + ((p : Nat) : Int) := by rw [IntKind.wrap_i64]; omega
      have HR : Hid (wr.ownsRow base 54 7 (.slice (some ⟨g, 0, none⟩) n c) n cs) := hr
      clear hu hr
      go_wp2
      go_roundw
      case rel =>
        refine ⟨p + 1, cs.set (p * 7 + 6) (.int .i64 (x + ((p : Nat) : Int))), by omega, by go_num, orow_set HR.out (p * 7 + 6) (by omega) _, fun i hi => ?_, hf.setCell (.inl rfl) _ _⟩
        by_cases hip : i = p
        · subst hip; exact List.getElem?_set_self (by omega)
        · rw [List.getElem?_set_ne (by omega)]; exact hd i (by omega)
      case measure => simp [intOf]; omega
    · obtain rfl : p = n := by omega
      go_wp2
      refine bodyPost_end (v := .tuple #[]) (by kernel_rfl) (by kernel_rfl) ?_
      exact ⟨rfl, ⟨cs, hr, hd⟩, hf⟩
set_option maxRecDepth 100000 in
set_option maxHeartbeats 4000000 in
theorem shows_yes (base n : Nat) (v : Value) (cells : List Value) (x : Int) (w : World) (H : w.ownsRow base 54 7 v n cells) (hd : Mkd cells n x) (hn : n ≤ 2932031007317) (x0 : -1000000000 ≤ x) (x1 : x ≤ 1000000000) :
    Calls Try.prog 24 #[v, .int .i64 x] w fun e w' => e = .returned (.bool true) ∧ w' = w := by
  obtain ⟨ad, c, rfl, -⟩ := orow_form H
  have HD : Hid (Mkd cells n x) := hd
  have HR : Hid (w.ownsRow base 54 7 (.slice ad n c) n cells) := H
  clear hd H
  go_enter Try.func24, Try.ntmps24
  go_upto_region 2 with fail
  go_loopw [5] (fun i wr => wr = w ∧ ∃ p : Nat, p ≤ n ∧ i = .int .i64 ((p : Nat) : Int)) (fun i _ => ((n : Int) - intOf i).toNat)
  case atStart => exact ⟨rfl, 0, by omega, rfl⟩
  case round =>
    obtain ⟨rfl, p, hp, rfl⟩ := hrel
    by_cases hlt : p < n
    · obtain ⟨g, rfl⟩ : ∃ g, ad = some ⟨g, 0, none⟩ := by
        cases ad with
        | none => have := (orow_none HR.out).1; omega
        | some ad => obtain ⟨g, rfl⟩ := orow_where HR.out; exact ⟨g, rfl⟩
      have e1 : wr.cell? ⟨g, p * 7 + 6, none⟩ = some (.int .i64 (x + ((p : Nat) : Int))) := (orow_cell HR.out (p * 7 + 6) (by omega)).trans (HD.out p hlt)
      have hpi : (p : Int) < (n : Int) := by omega
      have hwx : IntKind.i64.wrap (x + ((p : Nat) : Int)) = x + ((p : Nat) : Int) := by rw [IntKind.wrap_i64]; omega
      go_wp2
      go_roundw
      case rel => exact ⟨trivial, p + 1, by omega, by go_num⟩
      case measure => simp [intOf]; omega
    · obtain rfl : p = n := by omega
      go_wp2
      go_ret
      exact ⟨rfl, rfl⟩
set_option maxRecDepth 100000 in
set_option maxHeartbeats 4000000 in
theorem tagged_any (base n : Nat) (v : Value) (cells : List Value) (x : Int) (w : World) (H : w.ownsRow base 24 2 v n cells) (hn : n ≤ 2932031007317) :
    Calls Try.prog 23 #[v, .int .i64 x] w fun e w' => e = .returned (.tuple #[]) ∧ (∃ cells', w'.ownsRow base 24 2 v n cells' ∧ Tgd cells' n x) ∧ Fr (fun k => v.ownBlock = some k) w w' := by
  obtain ⟨ad, c, rfl, -⟩ := orow_form H
  go_enter Try.func23, Try.ntmps23
  go_upto_region 1 with fail
  go_loopw [4] (fun i wr => ∃ (p : Nat) (cs : List Value), p ≤ n ∧ i = .int .i64 ((p : Nat) : Int) ∧ wr.ownsRow base 24 2 (.slice ad n c) n cs ∧ Tgd cs p x ∧ Fr (fun k => (Value.slice ad n c).ownBlock = some k) w wr) (fun i _ => ((n : Int) - intOf i).toNat)
  case atStart => exact ⟨0, cells, by omega, rfl, H, fun i hi => by omega, Fr.refl _ _⟩
  case round =>
    obtain ⟨p, cs, hp, rfl, hr, hd, hf⟩ := hrel
    clear H
    by_cases hlt : p < n
    · obtain ⟨g, rfl⟩ : ∃ g, ad = some ⟨g, 0, none⟩ := by
        cases ad with
        | none => have := (orow_none hr).1; omega
        | some ad => obtain ⟨g, rfl⟩ := orow_where hr; exact ⟨g, rfl⟩
      have hlen := hr.1
      obtain ⟨u, hu⟩ : ∃ u, cs[p * 2 + 1]? = some u := ⟨_, List.getElem?_eq_getElem (by omega)⟩
      have e1 : wr.cell? ⟨g, p * 2 + 1, none⟩ = some u := (orow_cell hr (p * 2 + 1) (by omega)).trans hu
      have e2 : wr.frozen? ⟨g, p * 2 + 1, none⟩ = false := orow_free hr _
      have hpi : (p : Int) < (n : Int) := by omega
      have HR : Hid (wr.ownsRow base 24 2 (.slice (some ⟨g, 0, none⟩) n c) n cs) := hr
      clear hu hr
      go_wp2
      go_roundw
      case rel =>
        refine ⟨p + 1, cs.set (p * 2 + 1) (.int .i64 x), by omega, by go_num, orow_set HR.out (p * 2 + 1) (by omega) _, fun i hi => ?_, hf.setCell (.inl rfl) _ _⟩
        by_cases hip : i = p
        · subst hip; exact List.getElem?_set_self (by omega)
        · rw [List.getElem?_set_ne (by omega)]; exact hd i (by omega)
      case measure => simp [intOf]; omega
    · obtain rfl : p = n := by omega
      go_wp2
      refine bodyPost_end (v := .tuple #[]) (by kernel_rfl) (by kernel_rfl) ?_
      exact ⟨rfl, ⟨cs, hr, hd⟩, hf⟩
set_option maxRecDepth 100000 in
set_option maxHeartbeats 4000000 in
theorem all_yes (base n : Nat) (v : Value) (cells : List Value) (x : Int) (w : World) (H : w.ownsRow base 24 2 v n cells) (hd : Tgd cells n x) (hn : n ≤ 2932031007317) :
    Calls Try.prog 25 #[v, .int .i64 x] w fun e w' => e = .returned (.bool true) ∧ w' = w := by
  obtain ⟨ad, c, rfl, -⟩ := orow_form H
  have HD : Hid (Tgd cells n x) := hd
  have HR : Hid (w.ownsRow base 24 2 (.slice ad n c) n cells) := H
  clear hd H
  go_enter Try.func25, Try.ntmps25
  go_upto_region 2 with fail
  go_loopw [5] (fun i wr => wr = w ∧ ∃ p : Nat, p ≤ n ∧ i = .int .i64 ((p : Nat) : Int)) (fun i _ => ((n : Int) - intOf i).toNat)
  case atStart => exact ⟨rfl, 0, by omega, rfl⟩
  case round =>
    obtain ⟨rfl, p, hp, rfl⟩ := hrel
    by_cases hlt : p < n
    · obtain ⟨g, rfl⟩ : ∃ g, ad = some ⟨g, 0, none⟩ := by
        cases ad with
        | none => have := (orow_none HR.out).1; omega
        | some ad => obtain ⟨g, rfl⟩ := orow_where HR.out; exact ⟨g, rfl⟩
      have e1 : wr.cell? ⟨g, p * 2 + 1, none⟩ = some (.int .i64 x) := (orow_cell HR.out (p * 2 + 1) (by omega)).trans (HD.out p hlt)
      have hpi : (p : Int) < (n : Int) := by omega
      go_wp2
      go_roundw
      case rel => exact ⟨trivial, p + 1, by omega, by go_num⟩
      case measure => simp [intOf]; omega
    · obtain rfl : p = n := by omega
      go_wp2
      go_ret
      exact ⟨rfl, rfl⟩
end Go.Proofs.Ytpnalcbpdejpjaa
