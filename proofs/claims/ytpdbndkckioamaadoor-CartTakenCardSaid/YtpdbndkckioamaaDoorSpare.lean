/-
  What the functions spare, same and untouched answer; conditions: the bytes lie in the slices that are handed in.
-/
import Derived.Test.YtpdbndkckioamaaDoorBase
import Derived.BigQuiet
import Derived.Deep.QuietTactic
namespace Go.Proofs.YtpdbndkckioamaaDoor
open Go.RowKit
/-- The bytes with four marks behind them. -/
def marked (l : List Nat) : List Nat := l ++ [165, 165, 165, 165]
theorem marked_len (l : List Nat) : (marked l).length = l.length + 4 := by simp [marked]
theorem marked_lo (l : List Nat) (k : Nat) (h : k < l.length) : (marked l).getD k 0 = l.getD k 0 := by simp [marked, List.getElem?_append_left, h]
theorem marked_hi (l : List Nat) (k : Nat) (h : l.length ≤ k) (h' : k < l.length + 4) : (marked l).getD k 0 = 165 := by
  simp only [marked, List.getD_eq_getElem?_getD, List.getElem?_append_right h]
  match hj : k - l.length with
  | 0 => rfl
  | 1 => rfl
  | 2 => rfl
  | 3 => rfl
  | j + 4 => omega
theorem marked_bytes {l : List Nat} (h : Bytes l) : Bytes (marked l) := by
  intro x hx
  simp only [marked, List.mem_append] at hx
  rcases hx with hx | hx
  · exact h x hx
  · simp at hx; omega

set_option maxHeartbeats 400000 in
theorem spare_any (l : List Nat) (hl : Bytes l) (hlen : l.length ≤ 140737488351232) (a : Option Addr) (cap : Nat) (w : World) (hrow : Row w a l) :
    Calls Tryd.prog 7 #[.slice a l.length cap] w fun e w' => ∃ g, e = .returned (.slice (some ⟨g, 0, none⟩) (l.length + 4) (l.length + 4)) ∧ w.heap.size ≤ g ∧ Own w' g (marked l) ∧ Below w.heap.size w w' := by
  obtain ⟨i0, hi, hz0, hz1, hz2⟩ := info_parts Tryd.infoU8
  go_enter Tryd.func7, Tryd.ntmps7
  go_wp2_with (at_make; refine wpList_make_full _ rfl _ _ 22 rfl w.heap.size 5 i0 (.int .u8 0) 1 Tryd.underlying22 hi hz0 hz1 .i64 .i64 _ _ (l.length + 4) rfl rfl (by omega) (by omega) (by rw [hz2]; omega) (by unfold maxLen; omega) (Nat.le_refl _) ?_; intro w1 hown hgrow)
  have ho := Own.of_row (List.replicate (l.length + 4) 0) (vals_zero _) hown
  have hb := (Below.refl w.heap.size w).grown hgrow (Nat.le_refl _) (by simp)
  clear hown hgrow hi hz0 hz1 hz2
  have hML := marked_len l
  have HM : Hid ((marked l).length = l.length + 4) := hML
  clear hML
  go_loopw [4] (fun i wr => ∃ k : Nat, k ≤ l.length + 4 ∧ i = .int .i64 k ∧ Own wr w.heap.size ((marked l).take k ++ List.replicate ((marked l).length - k) 0) ∧ Below w.heap.size w wr) (fun i _ => l.length + 4 - (intOf i).toNat)
  case atStart => exact ⟨0, Nat.zero_le _, rfl, by rw [HM.out]; simpa using ho, hb⟩
  case round =>
    obtain ⟨k, hk, rfl, hor, hbr⟩ := hrel
    have hold := hor.free k
    have hlk : k < l.length + 4 → k < ((marked l).take k ++ List.replicate ((marked l).length - k) 0).length := fun h => by
      have := HM.out
      simp only [List.length_append, List.length_take, List.length_replicate]
      omega
    by_cases hkl : k < l.length
    · rcases hrow with rfl | ⟨b, off, rfl, hc⟩
      · simp at hkl
      have hB : b < w.heap.size := cell_lt (hc k hkl)
      have hcell : wr.cell? ⟨b, off + k, none⟩ = some (.int .u8 (l.getD k 0 : Nat)) := (hbr.cell (p := ⟨b, off + k, none⟩) hB).trans (hc k hkl)
      have c0 := hor.cell k (hlk (by omega))
      have hset1 := hor.set k 165
      have hset := hset1.set k (l.getD k 0)
      have f1 := hset1.free k
      have c1 := hset1.cell k (by rw [List.length_set]; exact hlk (by omega))
      have hcell1 : (wr.setCell ⟨w.heap.size, k, none⟩ (.int .u8 165)).cell? ⟨b, off + k, none⟩ = some (.int .u8 (l.getD k 0 : Nat)) :=
        (((Below.refl w.heap.size wr).setCell (p := ⟨w.heap.size, k, none⟩) (Nat.le_refl _) (.int .u8 165)).cell (p := ⟨b, off + k, none⟩) hB).trans hcell
      have hbs := (hbr.setCell (p := ⟨w.heap.size, k, none⟩) (Nat.le_refl _) (.int .u8 165)).setCell (p := ⟨w.heap.size, k, none⟩) (Nat.le_refl _) (.int .u8 (l.getD k 0 : Nat))
      rw [List.set_set, ← marked_lo l k hkl, copy_step (marked l) k (by rw [HM.out]; omega), marked_lo l k hkl] at hset
      have hne : b ≠ w.heap.size := by omega
      clear hc hor hbr ho hb hset1 hlk
      generalize l.getD k 0 = y at *
      go_wp2
      go_roundw
      case rel => exact ⟨k + 1, by omega, by go_num, hset, hbs⟩
      case measure => simp [intOf]; omega
    · by_cases hk4 : k < l.length + 4
      · have c0 := hor.cell k (hlk (by omega))
        have hset := hor.set k 165
        have hbs := hbr.setCell (p := ⟨w.heap.size, k, none⟩) (Nat.le_refl _) (.int .u8 165)
        have hs2 : Own (wr.setCell ⟨w.heap.size, k, none⟩ (.int .u8 165)) w.heap.size ((marked l).take (k + 1) ++ List.replicate ((marked l).length - (k + 1)) 0) := by
          rw [← copy_step (marked l) k (by rw [HM.out]; omega), marked_hi l k (by omega) hk4]
          exact hset
        clear hor hbr ho hb hset hlk
        go_wp2
        go_roundw
        case rel => exact ⟨k + 1, by omega, by go_num, hs2, hbs⟩
        case measure => simp [intOf]; omega
      · have e : (marked l).take k ++ List.replicate ((marked l).length - k) 0 = marked l := by
          have := HM.out
          rw [List.take_of_length_le (by omega), show (marked l).length - k = 0 by omega]; simp
        rw [e] at hor
        clear hlk
        go_wp2
        go_ret
        exact ⟨_, rfl, Nat.le_refl _, hor, hbr⟩

set_option maxHeartbeats 400000 in
theorem same_true (l : List Nat) (hlen : l.length ≤ 140737488355328) (a b : Option Addr) (capa capb : Nat) (w : World) (ra : Row w a l) (rb : Row w b l) :
    Calls Tryd.prog 14 #[.slice a l.length capa, .slice b l.length capb] w fun e w' => e = .returned (.bool true) ∧ ∃ m, w' = w.drewN m := by
  have hne : ((l.length : Int) != (l.length : Int)) = false := by simp
  go_enter Tryd.func14, Tryd.ntmps14
  go_wp2
  go_loopw [5] (fun i wr => ∃ k : Nat, k ≤ l.length ∧ i = .int .i64 k ∧ ∃ m, wr = w.drewN m) (fun i _ => l.length - (intOf i).toNat)
  case atStart => exact ⟨0, Nat.zero_le _, rfl, 0, rfl⟩
  case round =>
    obtain ⟨k, hk, rfl, m, rfl⟩ := hrel
    by_cases hkl : k < l.length
    · rcases ra with rfl | ⟨ab, aoff, rfl, ca⟩
      · simp at hkl
      rcases rb with rfl | ⟨bb, boff, rfl, cb⟩
      · simp at hkl
      have cak := ca k hkl
      have cbk := cb k hkl
      have hee : (((l.getD k 0 : Nat) : Int) != ((l.getD k 0 : Nat) : Int)) = false := by simp
      clear ca cb
      generalize l.getD k 0 = y at *
      have hki : (k : Int) < (l.length : Int) := by omega
      go_wp2
      go_quiet (fail)
      go_wp2
      go_roundw
      case rel => exact ⟨k + 1, by omega, by go_num, _, rfl⟩
      case measure => simp [intOf]; omega
    · go_wp2
      go_ret
      exact ⟨rfl, m, rfl⟩

theorem same_n (n m : Nat) (l : List Nat) (hn : l.length = n) (hm : l.length = m) (hlen : n ≤ 140737488355328) (a b : Option Addr) (capa capb : Nat) (w : World) (ra : Row w a l) (rb : Row w b l) :
    Calls Tryd.prog 14 #[.slice a n capa, .slice b m capb] w fun e w' => e = .returned (.bool true) ∧ ∃ m, w' = w.drewN m := by
  subst hn; subst hm; exact same_true l hlen a b capa capb w ra rb
theorem Row.drewN {w : World} {a : Option Addr} {l : List Nat} (h : Row w a l) (m : Nat) : Row (w.drewN m) a l := h

set_option maxHeartbeats 400000 in
theorem untouched_true (l : List Nat) (hlen : l.length ≤ 140737488351232) (g : Nat) (b : Option Addr) (capb : Nat) (w : World) (rm : Own w g (marked l)) (rb : Row w b l) :
    Calls Tryd.prog 11 #[.slice (some ⟨g, 0, none⟩) (l.length + 4) (l.length + 4), .slice b l.length capb] w fun e w' => e = .returned (.bool true) ∧ ∃ m, w' = w.drewN m := by
  have hne : (((l.length : Int) + 4) != ((l.length : Int) + 4)) = false := by simp
  have htk : (marked l).take l.length = l := by simp [marked]
  have rl : Row w (some ⟨g, 0, none⟩) l := by rw [← htk]; exact rm.row.take _
  have HC : Hid (∀ k, l.length ≤ k → k < l.length + 4 → w.cell? ⟨g, k, none⟩ = some (.int .u8 165)) := fun k h1 h2 => by
    have := rm.cell k (by rw [marked_len]; omega)
    rw [marked_hi l k h1 h2] at this
    exact this
  clear htk
  go_enter Tryd.func11, Tryd.ntmps11
  go_wp2_with fail
  refine (same_true l (by omega) (some ⟨g, 0, none⟩) b (l.length + 4) capb w rl rb).mono ?_
  rintro e w1 ⟨rfl, m, rfl⟩
  go_wp2
  go_loop [5] (fun i => ∃ k : Nat, l.length ≤ k ∧ k ≤ l.length + 4 ∧ i = .int .i64 k) (fun i => l.length + 4 - (intOf i).toNat)
  case atStart => exact ⟨l.length, Nat.le_refl _, by omega, rfl⟩
  case round =>
    obtain ⟨k, hk0, hk, rfl⟩ := hrel
    by_cases hkl : k < l.length + 4
    · have hc := HC.out k hk0 hkl
      go_wp2
      go_round
      case rel => exact ⟨k + 1, by omega, by omega, by go_num⟩
      case measure => simp [intOf]; omega
    · go_wp2
      go_ret
      exact ⟨rfl, m, rfl⟩
end Go.Proofs.YtpdbndkckioamaaDoor
