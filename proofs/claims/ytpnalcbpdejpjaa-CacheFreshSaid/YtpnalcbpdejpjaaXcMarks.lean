/-
  The marks of a cache.
-/
import Derived.Test.YtpnalcbpdejpjaaXcSpan
import Derived.Maps.OwnSet
set_option linter.unusedSimpArgs false
set_option linter.unusedVariables false
namespace Go.Proofs.Ytpnalcbpdejpjaa
open Go.RowKit Classical
open Go.Maps
theorem lawI : Keyed Try.prog 3 := int_keyed Try.underlying3
theorem zeroI (w : World) : (zeroValue 3).run Try.prog w = .ok (.int .i64 0) w := by kernel_rfl
/-- The marks: block m is a map of at most k entries; cnt tells the number of each page. -/
def Mk (w : World) (m k : Nat) (cnt : Int → Int) : Prop := ∃ D : DataW Unit, w.ownsMap Try.prog 3 (plainElem Try.prog 3) m k D ∧ ∀ p, D.atKey (.int .i64 p) (.lit (.int .i64 0)) = .lit (.int .i64 (cnt p))
theorem Mk.made (w : World) : Mk (w.alloc (.map #[] 0)) w.heap.size 0 (fun _ => 0) := ⟨_, World.ownsMap_made _ _ _ _, fun p => rfl⟩
theorem Mk.keep {w w' : World} {m k : Nat} {cnt : Int → Int} (h : Mk w m k cnt) (hb : w'.heap[m]? = w.heap[m]?) : Mk w' m k cnt := by
  obtain ⟨D, ⟨es, clock, h1, h2⟩, h3⟩ := h
  exact ⟨D, ⟨es, clock, hb.trans h1, h2⟩, h3⟩
theorem Mk.lt {w : World} {m k : Nat} {cnt : Int → Int} (h : Mk w m k cnt) : m < w.heap.size := by
  obtain ⟨D, ⟨es, clock, h1, _⟩, _⟩ := h
  exact (Array.getElem?_eq_some_iff.1 h1).1
theorem Mk.on {w w' : World} {m k : Nat} {cnt : Int → Int} (h : Mk w m k cnt) (hb : Below w.heap.size w w') : Mk w' m k cnt := h.keep (hb.block m h.lt)
theorem wf_of {a : Int} (h0 : -9223372036854775808 ≤ a) (h1 : a ≤ 9223372036854775807) : (Lit.int .i64 a).wf = true := by
  simp [Lit.wf, IntKind.min, IntKind.max, IntKind.signed, IntKind.bits]; omega
def addP (cnt : Int → Int) (a b d : Int) : Int → Int := fun p => if a ≤ p ∧ p < b then cnt p + d else cnt p
theorem addP_step (cnt : Int → Int) (a p d : Int) (h : a ≤ p) : addP cnt a (p + 1) d = fun x => if x = p then cnt p + d else addP cnt a p d x := by
  funext x
  unfold addP
  by_cases e : x = p
  · subst e; rw [if_pos ⟨h, by omega⟩, if_pos rfl]
  · rw [if_neg e]
    by_cases g : a ≤ x ∧ x < p
    · rw [if_pos g, if_pos ⟨g.1, by omega⟩]
    · rw [if_neg g, if_neg (fun q => g ⟨q.1, by omega⟩)]
theorem addP_none (cnt : Int → Int) (a d : Int) : addP cnt a a d = cnt := by
  funext x; unfold addP; rw [if_neg (by omega)]
theorem lit_inj {a b : Int} (h : (DataW.lit (Lit.int .i64 a) : DataW Unit) = .lit (.int .i64 b)) : a = b := by
  simpa using h
theorem key_ne {p x : Int} (h : x ≠ p) : (Lit.int .i64 x) ≠ Lit.int .i64 p := fun e => h (by simpa using e)
set_option maxRecDepth 100000 in
set_option maxHeartbeats 4000000 in
theorem add_any (f n : Int) (m k : Nat) (cnt : Int → Int) (w : World) (f0 : 0 ≤ f) (f1 : f ≤ 1099511627776) (n0 : 0 ≤ n) (n1 : n ≤ 140737488355328) (hk : (k : Int) + (pg1 f n - pg0 f n) ≤ 140000000000000) (hc : ∀ p, -1000000 ≤ cnt p ∧ cnt p ≤ 1000000) (H : Mk w m k cnt) :
    Calls Try.prog 41 #[.map (some m), .agg #[.int .i64 f, .int .i64 n]] w fun e w' => e = .returned (.tuple #[]) ∧ (∃ k' : Nat, (k' : Int) = k + (pg1 f n - pg0 f n) ∧ Mk w' m k' (addP cnt (pg0 f n) (pg1 f n) (1))) ∧ w.grownBy w' (some m) := by
  have PG : Hid (∀ W, Calls _ _ _ W _) := fun W => pages_any f n W f0 f1 n0 n1
  have hp0 : 0 ≤ pg0 f n ∧ pg0 f n ≤ 4294967296 := by unfold pg0; split <;> omega
  have hp1 : pg0 f n ≤ pg1 f n ∧ pg1 f n ≤ 1000000000000 := by unfold pg0 pg1; split <;> omega
  generalize pg0 f n = a at *
  generalize pg1 f n = b at *
  have HH : Hid (Mk w m k cnt) := H
  have HC : Hid (∀ p, -1000000 ≤ cnt p ∧ cnt p ≤ 1000000) := hc
  clear H hc
  go_enter Try.func41, Try.ntmps41
  go_upto_region 3 with (go_at_call 64; go_must (refine (PG.out _).mono ?_; rintro e W1 ⟨rfl, hb1⟩))
  have hgB : w.grownBy W1 (some m) := ⟨hb1.os, hb1.tape, hb1.output, Nat.le_trans (by simp) hb1.size, fun i hi _ => (hb1.block i (by simp; omega)).trans (Below.heap_alloc w _ i hi)⟩
  have HM : Mk W1 m k cnt := HH.out.keep ((hb1.block m (by have := HH.out.lt; simp; omega)).trans (Below.heap_alloc w _ m HH.out.lt))
  clear hb1 HH PG
  go_loopw [6] (fun i wr => ∃ (p : Int) (kk : Nat), a ≤ p ∧ p ≤ b ∧ i = .int .i64 p ∧ (kk : Int) = k + (p - a) ∧ Mk wr m kk (addP cnt a p (1)) ∧ w.grownBy wr (some m)) (fun i _ => (b - intOf i).toNat)
  case atStart => exact ⟨a, k, by omega, by omega, rfl, by omega, by rw [addP_none]; exact HM, hgB⟩
  case round =>
    clear HM hgB
    obtain ⟨p, kk, hp2, hp3, rfl, hkk, HM, hg⟩ := hrel
    by_cases hlt : p < b
    · obtain ⟨D, hown, hD⟩ := HM
      have hkl : keyOf Try.prog 3 (.int .i64 p) = some (.int .i64 p) := keyOf_int_mk Try.underlying3 (wf_of (by omega) (by omega))
      have hDp : D.atKey (.int .i64 p) (.lit (.int .i64 0)) = .lit (.int .i64 (cnt p)) := by
        rw [hD p]; unfold addP; rw [if_neg (by omega)]
      have hcb := HC.out p
      have hkm : kk < maxLen := by unfold maxLen; omega
      have HST : Hid (∀ x, (D.put (.int .i64 p) (.lit (.int .i64 (cnt p + (1))))).atKey (.int .i64 x) (.lit (.int .i64 0)) = .lit (.int .i64 (addP cnt a (p + 1) (1) x))) := fun x => by
        rw [addP_step _ _ _ _ hp2]
        by_cases e : x = p
        · subst e; simp only [if_true]; exact atKey_put_same hown.isMap (show WideAt.IsKeyLit (Lit.int .i64 x) from trivial) _ _
        · simp only [if_neg e]; rw [atKey_put_other (key_ne e)]; exact hD x
      have HDp : Hid (D.atKey (.int .i64 p) (.lit (.int .i64 0)) = .lit (.int .i64 (cnt p))) := hDp
      have HDD : Hid (∀ x, D.atKey (.int .i64 x) (.lit (.int .i64 0)) = .lit (.int .i64 (addP cnt a p (1) x))) := hD
      clear hDp hD
      generalize hcp : cnt p = c0 at *
      have HCP : Hid (cnt p = c0) := hcp
      clear hcp
      go_wp2_with (first | (at_lookup; refine wpList_lookup_own_int _ rfl _ _ 86 rfl 3 3 .i64 lawI Try.underlying86 Try.underlying3 (zeroI _) m kk _ rfl hown _ _ rfl hkl ?_; intro c hat hwc; obtain rfl := lit_inj (hat.symm.trans HDp.out); clear hat hwc) | (at_mapUpdate; refine wpList_mapUpdate_own _ rfl _ _ _ 86 rfl 3 3 lawI Try.underlying86 _ m kk _ rfl hown hkm _ _ _ rfl rfl hkl _ [] (plainElem_int Try.underlying3 (wf_of (by omega) (by omega))) ?_; intro w1 hown1 hg1))
      go_roundw
      case rel => exact ⟨p + 1, kk + 1, by omega, by omega, by go_num, by omega, ⟨_, hown1, HST.out⟩, hg.trans hg1⟩
      case measure => simp [intOf]; omega
    · obtain rfl : p = b := by omega
      go_wp2
      refine bodyPost_end (v := .tuple #[]) (by kernel_rfl) (by kernel_rfl) ?_
      exact ⟨rfl, ⟨kk, hkk, HM⟩, hg⟩
set_option maxRecDepth 100000 in
set_option maxHeartbeats 4000000 in
theorem remove_any (f n : Int) (m k : Nat) (cnt : Int → Int) (w : World) (f0 : 0 ≤ f) (f1 : f ≤ 1099511627776) (n0 : 0 ≤ n) (n1 : n ≤ 140737488355328) (hk : (k : Int) + (pg1 f n - pg0 f n) ≤ 140000000000000) (hc : ∀ p, -1000000 ≤ cnt p ∧ cnt p ≤ 1000000) (H : Mk w m k cnt) :
    Calls Try.prog 63 #[.map (some m), .agg #[.int .i64 f, .int .i64 n]] w fun e w' => e = .returned (.tuple #[]) ∧ (∃ k' : Nat, (k' : Int) = k + (pg1 f n - pg0 f n) ∧ Mk w' m k' (addP cnt (pg0 f n) (pg1 f n) (-1))) ∧ w.grownBy w' (some m) := by
  have PG : Hid (∀ W, Calls _ _ _ W _) := fun W => pages_any f n W f0 f1 n0 n1
  have hp0 : 0 ≤ pg0 f n ∧ pg0 f n ≤ 4294967296 := by unfold pg0; split <;> omega
  have hp1 : pg0 f n ≤ pg1 f n ∧ pg1 f n ≤ 1000000000000 := by unfold pg0 pg1; split <;> omega
  generalize pg0 f n = a at *
  generalize pg1 f n = b at *
  have HH : Hid (Mk w m k cnt) := H
  have HC : Hid (∀ p, -1000000 ≤ cnt p ∧ cnt p ≤ 1000000) := hc
  clear H hc
  go_enter Try.func63, Try.ntmps63
  go_upto_region 3 with (go_at_call 64; go_must (refine (PG.out _).mono ?_; rintro e W1 ⟨rfl, hb1⟩))
  have hgB : w.grownBy W1 (some m) := ⟨hb1.os, hb1.tape, hb1.output, Nat.le_trans (by simp) hb1.size, fun i hi _ => (hb1.block i (by simp; omega)).trans (Below.heap_alloc w _ i hi)⟩
  have HM : Mk W1 m k cnt := HH.out.keep ((hb1.block m (by have := HH.out.lt; simp; omega)).trans (Below.heap_alloc w _ m HH.out.lt))
  clear hb1 HH PG
  go_loopw [6] (fun i wr => ∃ (p : Int) (kk : Nat), a ≤ p ∧ p ≤ b ∧ i = .int .i64 p ∧ (kk : Int) = k + (p - a) ∧ Mk wr m kk (addP cnt a p (-1)) ∧ w.grownBy wr (some m)) (fun i _ => (b - intOf i).toNat)
  case atStart => exact ⟨a, k, by omega, by omega, rfl, by omega, by rw [addP_none]; exact HM, hgB⟩
  case round =>
    clear HM hgB
    obtain ⟨p, kk, hp2, hp3, rfl, hkk, HM, hg⟩ := hrel
    by_cases hlt : p < b
    · obtain ⟨D, hown, hD⟩ := HM
      have hkl : keyOf Try.prog 3 (.int .i64 p) = some (.int .i64 p) := keyOf_int_mk Try.underlying3 (wf_of (by omega) (by omega))
      have hDp : D.atKey (.int .i64 p) (.lit (.int .i64 0)) = .lit (.int .i64 (cnt p)) := by
        rw [hD p]; unfold addP; rw [if_neg (by omega)]
      have hcb := HC.out p
      have hkm : kk < maxLen := by unfold maxLen; omega
      have HST : Hid (∀ x, (D.put (.int .i64 p) (.lit (.int .i64 (cnt p + (-1))))).atKey (.int .i64 x) (.lit (.int .i64 0)) = .lit (.int .i64 (addP cnt a (p + 1) (-1) x))) := fun x => by
        rw [addP_step _ _ _ _ hp2]
        by_cases e : x = p
        · subst e; simp only [if_true]; exact atKey_put_same hown.isMap (show WideAt.IsKeyLit (Lit.int .i64 x) from trivial) _ _
        · simp only [if_neg e]; rw [atKey_put_other (key_ne e)]; exact hD x
      have HDp : Hid (D.atKey (.int .i64 p) (.lit (.int .i64 0)) = .lit (.int .i64 (cnt p))) := hDp
      have HDD : Hid (∀ x, D.atKey (.int .i64 x) (.lit (.int .i64 0)) = .lit (.int .i64 (addP cnt a p (-1) x))) := hD
      clear hDp hD
      generalize hcp : cnt p = c0 at *
      have HCP : Hid (cnt p = c0) := hcp
      clear hcp
      obtain ⟨c1, hc1⟩ : ∃ c1, c0 - 1 = c1 := ⟨_, rfl⟩
      have he : c0 + (-1) = c1 := by omega
      rw [he] at HST
      have HST2 : Hid ((D.put (.int .i64 p) (.lit (.int .i64 c1))).atKey (.int .i64 p) (.lit (.int .i64 0)) = .lit (.int .i64 c1)) := atKey_put_same hown.isMap (show WideAt.IsKeyLit (Lit.int .i64 p) from trivial) _ _
      have HE : Hid (c0 + (-1) = c1) := he
      have hc1b : -1000001 ≤ c1 ∧ c1 ≤ 1000000 := by omega
      clear he
      by_cases hz : c1 = 0
      · subst hz
        have HDL : Hid (∀ x, ((D.put (.int .i64 p) (.lit (.int .i64 0))).del (.int .i64 p)).atKey (.int .i64 x) (.lit (.int .i64 0)) = .lit (.int .i64 (addP cnt a (p + 1) (-1) x))) := fun x => by
          by_cases e : x = p
          · subst e
            rw [atKey_del_same, addP_step _ _ _ _ hp2]
            simp only [if_true]
            rw [HCP.out, HE.out]
          · rw [atKey_del_other (key_ne e)]; exact HST.out x
        go_upto_region 6 with (first | (at_lookup; refine wpList_lookup_own_int _ rfl _ _ 86 rfl 3 3 .i64 lawI Try.underlying86 Try.underlying3 (zeroI _) m kk _ rfl hown _ _ rfl hkl ?_; intro c hat hwc; obtain rfl := lit_inj (hat.symm.trans HDp.out); clear hat hwc) | (at_mapUpdate; refine wpList_mapUpdate_own _ rfl _ _ _ 86 rfl 3 3 lawI Try.underlying86 _ m kk _ rfl hown hkm _ _ _ rfl rfl hkl _ [] (plainElem_int Try.underlying3 (wf_of (by omega) (by omega))) ?_; intro w1 hown1 hg1))
        go_wp2_with (first | (at_lookup; refine wpList_lookup_own_int _ rfl _ _ 86 rfl 3 3 .i64 lawI Try.underlying86 Try.underlying3 (zeroI _) m (kk + 1) _ rfl hown1 _ _ rfl hkl ?_; intro c hat hwc; obtain rfl := lit_inj (hat.symm.trans HST2.out); clear hat hwc) | (at_delete; refine wpList_delete_own _ rfl _ _ 86 3 rfl 3 lawI Try.underlying86 _ m (kk + 1) _ rfl hown1 _ _ rfl hkl ?_; intro w2 hown2 ht2))
        go_roundw
        case rel => exact ⟨p + 1, kk + 1, by omega, by omega, by go_num, by omega, ⟨_, hown2, HDL.out⟩, (hg.trans hg1).trans ht2.grown⟩
        case measure => simp [intOf]; omega
      · have hz2 : (c1 == 0) = false := by simpa using hz
        go_upto_region 6 with (first | (at_lookup; refine wpList_lookup_own_int _ rfl _ _ 86 rfl 3 3 .i64 lawI Try.underlying86 Try.underlying3 (zeroI _) m kk _ rfl hown _ _ rfl hkl ?_; intro c hat hwc; obtain rfl := lit_inj (hat.symm.trans HDp.out); clear hat hwc) | (at_mapUpdate; refine wpList_mapUpdate_own _ rfl _ _ _ 86 rfl 3 3 lawI Try.underlying86 _ m kk _ rfl hown hkm _ _ _ rfl rfl hkl _ [] (plainElem_int Try.underlying3 (wf_of (by omega) (by omega))) ?_; intro w1 hown1 hg1))
        go_wp2_with (at_lookup; refine wpList_lookup_own_int _ rfl _ _ 86 rfl 3 3 .i64 lawI Try.underlying86 Try.underlying3 (zeroI _) m (kk + 1) _ rfl hown1 _ _ rfl hkl ?_; intro c hat hwc; obtain rfl := lit_inj (hat.symm.trans HST2.out); clear hat hwc)
        go_roundw
        case rel => exact ⟨p + 1, kk + 1, by omega, by omega, by go_num, by omega, ⟨_, hown1, HST.out⟩, hg.trans hg1⟩
        case measure => simp [intOf]; omega
    · obtain rfl : p = b := by omega
      go_wp2
      refine bodyPost_end (v := .tuple #[]) (by kernel_rfl) (by kernel_rfl) ?_
      exact ⟨rfl, ⟨kk, hkk, HM⟩, hg⟩
end Go.Proofs.Ytpnalcbpdejpjaa
