/-
  What the functions feed and Crc answer; conditions: the bytes lie in the slice, the table of sixteen words in its variable.
-/
import Derived.Test.YtlckjbangdnejaaDoorBase
import Derived.Test.YtlckjbangdnejaaDoorMath
namespace Go.Proofs.YtlckjbangdnejaaDoor
open Go.RowKit
/-- The table. -/
def Tab (w : World) : Prop := ∀ i, i < 16 → w.cell? ⟨0, i, none⟩ = some (.int .u32 (CrcM.t i : Nat))


/-- What half a step shows in the walk. -/
theorem half (m : Nat) (hm : m < 4294967296) : bits .and .u32 (m : Int) 15 = ((m % 16 : Nat) : Int) ∧ bits .xor .u32 ((m : Int) / 16) (CrcM.t (m % 16) : Nat) = (CrcM.s4 m : Nat) := by
  constructor
  · have := u32_and_nat m 15 hm (by decide)
    rw [nat_mask4] at this
    exact this
  · rw [show (m : Int) / 16 = ((m / 16 : Nat) : Int) by omega]
    exact u32_xor_nat (m / 16) (CrcM.t (m % 16)) (by omega) (CrcM.t_lt _ (Nat.mod_lt _ (by decide)))
theorem feed_snoc (r : Nat) (l : List Nat) (k : Nat) (h : k < l.length) : CrcM.feed r (l.take (k + 1)) = CrcM.s4 (CrcM.s4 (CrcM.feed r (l.take k) ^^^ l.getD k 0)) := by
  rw [List.take_succ_eq_append_getElem h, CrcM.feed_append]
  simp [CrcM.feed, CrcM.step, h]
set_option maxHeartbeats 400000 in
theorem feed_some (r : Nat) (hr : r < 4294967296) (l : List Nat) (hl : Bytes l) (hlen : l.length ≤ 140737488351232) (b off cap : Nat) (w : World)
    (hc : ∀ i, i < l.length → w.cell? ⟨b, off + i, none⟩ = some (.int .u8 (l.getD i 0 : Nat))) (tab : Tab w) :
    Calls Tryd.prog 51 #[.int .u32 r, .slice (some ⟨b, off, none⟩) l.length cap] w fun e w' => e = .returned (.int .u32 (CrcM.feed r l : Nat)) ∧ w' = w := by
  go_enter Tryd.func51, Tryd.ntmps51
  go_wp2
  go_loop [0, 9] (fun x i => ∃ k : Nat, k ≤ l.length ∧ i = .int .i64 k ∧ x = .int .u32 (CrcM.feed r (l.take k) : Nat)) (fun _ i => l.length - (intOf i).toNat)
  case atStart => exact ⟨0, Nat.zero_le _, rfl, rfl⟩
  case round =>
    obtain ⟨k, hk, rfl, rfl⟩ := hrel
    by_cases hlt : k < l.length
    · have H : Hid (CrcM.feed r (l.take (k + 1)) = _) := feed_snoc r l k hlt
      have hcell := hc k hlt
      have hy := bytes_at hl k
      have hx := CrcM.feed_lt _ (bytes_take hl k) r hr
      clear hc
      generalize l.getD k 0 = y at *
      generalize CrcM.feed r (l.take k) = x at *
      have e0 : (y : Int) % 4294967296 = y := by omega
      have e1 := u32_xor_nat x y hx (by omega)
      have hm := Nat.xor_lt_two_pow (n := 32) hx (show y < 2 ^ 32 by omega)
      generalize x ^^^ y = m at *
      obtain ⟨e2, e3⟩ := half m hm
      obtain ⟨e4, e5⟩ := half (CrcM.s4 m) (CrcM.s4_lt m hm)
      have c1 := tab (m % 16) (Nat.mod_lt _ (by decide))
      have c2 := tab (CrcM.s4 m % 16) (Nat.mod_lt _ (by decide))
      have b1 : m % 16 < 16 := Nat.mod_lt _ (by decide)
      have b2 : CrcM.s4 m % 16 < 16 := Nat.mod_lt _ (by decide)
      have hm2 := CrcM.s4_lt m hm
      generalize CrcM.t (m % 16) = t1 at *
      generalize m % 16 = i1 at *
      generalize CrcM.s4 m = m2 at *
      generalize CrcM.t (m2 % 16) = t2 at *
      generalize m2 % 16 = i2 at *
      go_wp2
      go_round
      case rel => exact ⟨k + 1, by omega, by go_num, by rw [H.out]⟩
      case measure => simp [intOf]; omega
    · have : l.take k = l := List.take_of_length_le (by omega)
      rw [this]
      go_wp2
      go_ret
      exact ⟨rfl, rfl⟩

theorem feed_none (r : Nat) (a : Option Addr) (cap : Nat) (w : World) :
    Calls Tryd.prog 51 #[.int .u32 r, .slice a 0 cap] w fun e w' => e = .returned (.int .u32 (r : Nat)) ∧ w' = w := by
  go_enter Tryd.func51, Tryd.ntmps51
  go_wp2
  refine wp_loop_rounds 1 ?_
  rw [rounds_succ]
  go_wp2
  go_ret
  exact ⟨rfl, rfl⟩
theorem feed_any (r : Nat) (hr : r < 4294967296) (l : List Nat) (hl : Bytes l) (hlen : l.length ≤ 140737488351232) (a : Option Addr) (cap : Nat) (w : World) (hrow : Row w a l) (tab : Tab w) :
    Calls Tryd.prog 51 #[.int .u32 r, .slice a l.length cap] w fun e w' => e = .returned (.int .u32 (CrcM.feed r l : Nat)) ∧ w' = w := by
  rcases hrow with rfl | ⟨b, off, rfl, hc⟩
  · exact feed_none r a cap w
  · exact feed_some r hr l hl hlen b off cap w hc tab

/-- The check sum of bytes. -/
def crc (l : List Nat) : Nat := CrcM.feed 4294967295 l ^^^ 4294967295
theorem crc_any (l : List Nat) (hl : Bytes l) (hlen : l.length ≤ 140737488351232) (a : Option Addr) (cap : Nat) (w : World) (hrow : Row w a l) (tab : Tab w) :
    Calls Tryd.prog 37 #[.slice a l.length cap] w fun e w' => e = .returned (.int .u32 (crc l : Nat)) ∧ w' = w := by
  have hx := CrcM.feed_lt l hl 4294967295 (by decide)
  have H : Hid (bits .xor .u32 4294967295 ((CrcM.feed 4294967295 l : Nat) : Int) = (crc l : Nat)) := by
    have := u32_xor_nat 4294967295 (CrcM.feed 4294967295 l) (by decide) hx
    rw [Nat.xor_comm] at this
    exact this
  go_enter Tryd.func37, Tryd.ntmps37
  go_wp2_with fail
  refine (feed_any 4294967295 (by decide) l hl hlen a cap w hrow tab).mono ?_
  rintro e w' ⟨rfl, rfl⟩
  go_wp2
  go_ret
  exact ⟨congrArg (fun n => Ending.returned (.int .u32 n)) H.out, rfl⟩

theorem Tab.below {w w' : World} {B : Nat} (h : Tab w) (hB : 0 < B) (hb : Below B w w') : Tab w' := fun i hi => (hb.cell (p := ⟨0, i, none⟩) hB).trans (h i hi)
theorem Tab.lt {w : World} (h : Tab w) : 0 < w.heap.size := cell_lt (h 0 (by decide))
theorem crc_n (n : Nat) (l : List Nat) (hn : l.length = n) (hl : Bytes l) (hlen : n ≤ 140737488351232) (a : Option Addr) (cap : Nat) (w : World) (hrow : Row w a l) (tab : Tab w) :
    Calls Tryd.prog 37 #[.slice a n cap] w fun e w' => e = .returned (.int .u32 (crc l : Nat)) ∧ w' = w := by
  subst hn; exact crc_any l hl hlen a cap w hrow tab
theorem crc_lt {l : List Nat} (h : Bytes l) : crc l < 4294967296 := Nat.xor_lt_two_pow (n := 32) (CrcM.feed_lt l h _ (by decide)) (by decide)
end Go.Proofs.YtlckjbangdnejaaDoor
