/-
  What padded answers of a list of bytes, and alike of two lists that are equal.
-/
import Derived.Test.YtecaipakaaongaaXvSpec
import Derived.Laws.AppendOwnNone
import Derived.BigQuiet
import Derived.Deep.QuietTactic
set_option linter.unusedSimpArgs false
set_option linter.unusedVariables false
namespace Go.Proofs.Ytecaipakaaongaa
open Go.RowKit Classical
def valsV (l : List Nat) : List Value := l.map fun n : Nat => Value.int .u8 n
theorem valsV_len (l : List Nat) : (valsV l).length = l.length := by simp [valsV]
theorem valsV_at (l : List Nat) (k : Nat) (h : k < l.length) : (valsV l)[k]? = some (.int .u8 (l.getD k 0 : Nat)) := by
  unfold valsV; rw [List.getElem?_map, List.getElem?_eq_getElem h]; simp [h]
theorem valsV_one (l : List Nat) : ∀ u ∈ valsV l, u.oneCell' = true := by
  intro u hu
  obtain ⟨k, _, rfl⟩ := List.mem_map.1 hu
  rfl
def mksV : List Nat := [195, 60, 195, 60, 195, 60, 195, 60]
theorem Try.infoU8v : (Try.prog.info? 5).map (fun i => (i.zero, i.size, i.bytes)) = some (some (.int .u8 0), 1, 1) := by kernel_rfl
/-- A list of bytes that is handed in: nil, or a block's cells. -/
def RowV (w : World) (a : Option Addr) (n cap : Nat) (l : List Nat) : Prop :=
  (a = none ∧ n = 0 ∧ cap = 0) ∨ ∃ ad, a = some ad ∧ (n = 0 ∨ ∃ g off, ad = ⟨g, off, none⟩ ∧ g < w.heap.size ∧ ∀ k, k < n → w.cell? ⟨g, off + k, none⟩ = some (.int .u8 (l.getD k 0 : Nat)))
theorem RowV.below {w w' : World} {a : Option Addr} {n cap : Nat} {l : List Nat} (h : RowV w a n cap l) (hb : Below w.heap.size w w') : RowV w' a n cap l := by
  rcases h with h | ⟨ad, ea, h | ⟨g, off, e, hg, hc⟩⟩
  · exact .inl h
  · exact .inr ⟨ad, ea, .inl h⟩
  · exact .inr ⟨ad, ea, .inr ⟨g, off, e, Nat.lt_of_lt_of_le hg hb.size, fun k hk => (hb.cell (p := ⟨g, off + k, none⟩) hg).trans (hc k hk)⟩⟩
theorem RowV.cells {w : World} {ad : Addr} {n cap : Nat} {l : List Nat} (h : RowV w (some ad) n cap l) (k : Nat) (hk : k < n) : w.cell? (ad.add k) = some (.int .u8 (l.getD k 0 : Nat)) := by
  rcases h with ⟨e, _⟩ | ⟨ad', e, h⟩
  · cases e
  · cases e
    rcases h with h | ⟨g, off, rfl, hg, hc⟩
    · omega
    · rw [Addr.add_mid]; exact hc k hk
theorem RowV.two {w : World} {a : Option Addr} {n cap : Nat} {l : List Nat} (h : RowV w a n cap l) : n = 0 ∨ ∃ g off, a = some ⟨g, off, none⟩ ∧ g < w.heap.size ∧ ∀ k, k < n → w.cell? ⟨g, off + k, none⟩ = some (.int .u8 (l.getD k 0 : Nat)) := by
  rcases h with ⟨_, h, _⟩ | ⟨ad, rfl, h | ⟨g, off, rfl, hg, hc⟩⟩
  · exact .inl h
  · exact .inl h
  · exact .inr ⟨g, off, rfl, hg, hc⟩
theorem mks_blk (w : World) : Blk (w.alloc (.cells #[.int .u8 195, .int .u8 60, .int .u8 195, .int .u8 60, .int .u8 195, .int .u8 60, .int .u8 195, .int .u8 60] 5)) w.heap.size #[.int .u8 195, .int .u8 60, .int .u8 195, .int .u8 60, .int .u8 195, .int .u8 60, .int .u8 195, .int .u8 60] 5 := Blk.new w _ _
set_option maxRecDepth 100000 in
set_option maxHeartbeats 1000000 in
theorem padded_any (l : List Nat) (n cap : Nat) (hn : l.length = n) (hlen : n ≤ 140737488351232) (a : Option Addr) (w : World) (hr : RowV w a n cap l) :
    Calls Try.prog 7 #[.slice a n cap] w fun e w' => ∃ v, e = .returned v ∧ w'.ownsRow w.heap.size 5 1 v (n + 8) (valsV (l ++ mksV)) ∧ Below w.heap.size w w' := by
  obtain ⟨i0, hi, hz0, hz1, hz2⟩ := info_parts Try.infoU8v
  have h0 : w.ownsRow w.heap.size 5 1 (.slice none 0 0) 0 [] := ⟨by simp, .inl ⟨rfl, rfl⟩⟩
  have hL : Hid (l.length = n) := hn
  clear hn
  go_enter Try.func7, Try.ntmps7
  go_upto_region 2 with fail
  go_cut [3] (fun r wx => wx.ownsRow w.heap.size 5 1 r n (valsV l) ∧ Below w.heap.size w wx)
  case first =>
    have hrc := fun ad (e : a = some ad) => RowV.cells (e ▸ hr : RowV w (some ad) n cap l)
    rcases hr with ⟨rfl, rfl, rfl⟩ | ⟨ad, rfl, _⟩
    · have hl0 : l = [] := List.eq_nil_of_length_eq_zero hL.out
      subst hl0
      go_wp2_with (at_builtin; refine wpList_append_own_none rfl _ _ 29 rfl w.heap.size 5 i0 1 Try.underlying29 hi _ _ _ rfl h0 rfl ?_)
      go_meet
      exact ⟨h0, Below.refl _ _⟩
    · go_wp2_with (at_builtin; refine wpList_append_own _ rfl _ _ 29 rfl w.heap.size 5 i0 (.int .u8 0) 1 1 Try.underlying29 hi hz0 hz1 hz2 rfl (by decide) (.slice none 0 0) 0 [] rfl h0 ad n cap (valsV l) rfl (by rw [valsV_len, hL.out, Nat.mul_one]) (fun j u hj => by
        by_cases h : j < n
        · rw [valsV_at l j (by rw [hL.out]; exact h)] at hj; rw [← hj]; exact hrc ad rfl j h
        · rw [List.getElem?_eq_none (by rw [valsV_len, hL.out]; omega)] at hj; cases hj) (valsV_one l) (by unfold maxLen; omega) (by omega) (Nat.le_refl _) ?_; intro v' w1 hown' hgrow _)
      go_meet
      rw [Nat.zero_add, List.nil_append] at hown'
      exact ⟨hown', (Below.refl w.heap.size w).grown hgrow (Nat.le_refl _) (by simp [Value.ownBlock])⟩
  case rest =>
  obtain ⟨h1, hb1⟩ := hcut
  rename_i r3
  clear hr h0
  have hbz : w.heap.size ≤ wc.heap.size := hb1.size
  have hmk := mks_blk wc
  go_wp2_with (at_builtin; refine wpList_append_own _ rfl _ _ 29 rfl w.heap.size 5 i0 (.int .u8 0) 1 1 Try.underlying29 hi hz0 hz1 hz2 rfl (by decide) _ n (valsV l) rfl (World.ownsRow.alloc h1 _) ⟨wc.heap.size, 0, none⟩ 8 8 (valsV mksV) rfl rfl (fun j u hj => by
      rw [Addr.add_mid, Nat.zero_add, hmk.cell j]
      by_cases h : j < 8
      · rw [valsV_at mksV j h] at hj
        rw [← hj]
        have : j = 0 ∨ j = 1 ∨ j = 2 ∨ j = 3 ∨ j = 4 ∨ j = 5 ∨ j = 6 ∨ j = 7 := by omega
        rcases this with rfl | rfl | rfl | rfl | rfl | rfl | rfl | rfl <;> rfl
      · rw [List.getElem?_eq_none (by rw [valsV_len]; show 8 ≤ j; omega)] at hj; cases hj) (valsV_one mksV) (by unfold maxLen; omega) (by omega) (by rw [World.size_alloc]; omega) ?_; intro v' w2 hown' hgrow _)
  go_ret
  refine ⟨v', rfl, ?_, (hb1.alloc hbz _).grown hgrow (by rw [World.size_alloc]; omega) (fun k hk => (World.ownsRow.lt h1 k hk).1)⟩
  have e : valsV (l ++ mksV) = valsV l ++ valsV mksV := by simp [valsV]
  rw [e]
  exact hown'
set_option maxHeartbeats 1000000 in
theorem alike_true (l : List Nat) (n : Nat) (hlen : n ≤ 140737488355328) (g1 g2 c1 c2 : Nat) (w : World) (ra : ∀ k, k < n → w.cell? ⟨g1, k, none⟩ = some (.int .u8 (l.getD k 0 : Nat))) (rb : ∀ k, k < n → w.cell? ⟨g2, k, none⟩ = some (.int .u8 (l.getD k 0 : Nat))) :
    Calls Try.prog 10 #[.slice (some ⟨g1, 0, none⟩) n c1, .slice (some ⟨g2, 0, none⟩) n c2] w fun e w' => e = .returned (.bool true) ∧ ∃ m, w' = w.drewN m := by
  have hne : ((n : Int) != (n : Int)) = false := by simp
  go_enter Try.func10, Try.ntmps10
  go_wp2
  go_loopw [5] (fun i wr => ∃ k : Nat, k ≤ n ∧ i = .int .i64 k ∧ ∃ m, wr = w.drewN m) (fun i _ => n - (intOf i).toNat)
  case atStart => exact ⟨0, Nat.zero_le _, rfl, 0, rfl⟩
  case round =>
    obtain ⟨k, hk, rfl, m, rfl⟩ := hrel
    by_cases hkl : k < n
    · have cak := ra k hkl
      have cbk := rb k hkl
      have hee : (((l.getD k 0 : Nat) : Int) != ((l.getD k 0 : Nat) : Int)) = false := by simp
      clear ra rb
      generalize l.getD k 0 = y at *
      have hki : (k : Int) < (n : Int) := by omega
      go_wp2
      go_quiet (fail)
      go_wp2
      go_roundw
      case rel => exact ⟨k + 1, by omega, by go_num, _, rfl⟩
      case measure => simp [intOf]; omega
    · go_wp2
      go_ret
      exact ⟨rfl, m, rfl⟩
end Go.Proofs.Ytecaipakaaongaa
