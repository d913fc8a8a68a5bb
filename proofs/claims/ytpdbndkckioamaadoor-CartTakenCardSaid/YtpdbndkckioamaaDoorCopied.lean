/-
  What the function copied answers: a new list of the same bytes; condition: the bytes lie in the slice.
-/
import Derived.Test.YtpdbndkckioamaaDoorRows
import Derived.Test.YtpdbndkckioamaaDoorBase
import Derived.WalkKit
import Derived.WalkSpells
import Derived.WalkLawsBesides
import Derived.Laws.BitsAllLaws
namespace Go.Proofs.YtpdbndkckioamaaDoor
open Go.RowKit
set_option maxHeartbeats 400000 in
theorem copied_any (l : List Nat) (hl : Bytes l) (hlen : l.length ≤ 140737488351232) (a : Option Addr) (cap : Nat) (w : World) (hrow : Row w a l) :
    Calls Tryd.prog 13 #[.slice a l.length cap] w fun e w' => ∃ g, e = .returned (.slice (some ⟨g, 0, none⟩) l.length l.length) ∧ w.heap.size ≤ g ∧ Own w' g l ∧ Below w.heap.size w w' := by
  obtain ⟨i0, hi, hz0, hz1, hz2⟩ := info_parts Tryd.infoU8
  go_enter Tryd.func13, Tryd.ntmps13
  go_wp2_with (at_make; refine wpList_make_full _ rfl _ _ 22 rfl w.heap.size 5 i0 (.int .u8 0) 1 Tryd.underlying22 hi hz0 hz1 .i64 .i64 _ _ l.length rfl rfl rfl rfl (by rw [hz2]; omega) (by unfold maxLen; omega) (Nat.le_refl _) ?_; intro w1 hown hgrow)
  have ho := Own.of_row (List.replicate l.length 0) (vals_zero _) hown
  have hb := (Below.refl w.heap.size w).grown hgrow (Nat.le_refl _) (by simp)
  clear hown hgrow hi hz0 hz1 hz2
  go_loopw [4] (fun i wr => ∃ k : Nat, k ≤ l.length ∧ i = .int .i64 k ∧ Own wr w.heap.size (l.take k ++ List.replicate (l.length - k) 0) ∧ Below w.heap.size w wr) (fun i _ => l.length - (intOf i).toNat)
  case atStart => exact ⟨0, Nat.zero_le _, rfl, by simpa using ho, hb⟩
  case round =>
    obtain ⟨k, hk, rfl, hor, hbr⟩ := hrel
    by_cases hkl : k < l.length
    · rcases hrow with rfl | ⟨b, off, rfl, hc⟩
      · simp at hkl
      have hB : b < w.heap.size := cell_lt (hc k hkl)
      have hcell : wr.cell? ⟨b, off + k, none⟩ = some (.int .u8 (l.getD k 0 : Nat)) := (hbr.cell (p := ⟨b, off + k, none⟩) hB).trans (hc k hkl)
      have hfr := hor.free k
      have hold := hor.cell k (by simp; omega)
      have hset := hor.set k (l.getD k 0)
      have hbs := hbr.setCell (p := ⟨w.heap.size, k, none⟩) (Nat.le_refl _) (.int .u8 (l.getD k 0 : Nat))
      rw [copy_step l k hkl] at hset
      clear hc hor hbr ho hb
      generalize l.getD k 0 = y at *
      go_wp2
      go_roundw
      case rel => exact ⟨k + 1, by omega, by go_num, hset, hbs⟩
      case measure => simp [intOf]; omega
    · have e : l.take k ++ List.replicate (l.length - k) 0 = l := by
        rw [List.take_of_length_le (by omega), show l.length - k = 0 by omega]; simp
      rw [e] at hor
      go_wp2
      go_ret
      exact ⟨_, rfl, Nat.le_refl _, hor, hbr⟩
end Go.Proofs.YtpdbndkckioamaaDoor
