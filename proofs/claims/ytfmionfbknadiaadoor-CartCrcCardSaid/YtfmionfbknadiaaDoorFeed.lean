/-
  What the functions feed, Crc, copied and span answer, over this translation; conditions: the bytes lie in the slice's cells and the table of sixteen words in its variable.
-/
import Derived.Test.YtfmionfbknadiaaDoorRows
import Derived.Test.YtfmionfbknadiaaDoorMath
import Derived.WalkKit
import Derived.WalkSpells
import Derived.WalkLawsBesides
import Derived.Laws.BitsAllLaws
namespace Go.Proofs.YtfmionfbknadiaaDoor
open Go.RowKit
/-- The bytes of a slice. -/
def Row (w : World) (a : Option Addr) (l : List Nat) : Prop :=
  l = [] ∨ ∃ b off, a = some ⟨b, off, none⟩ ∧ ∀ i, i < l.length → w.cell? ⟨b, off + i, none⟩ = some (.int .u8 (l.getD i 0 : Nat))
theorem cell_lt {w : World} {p : Addr} {v : Value} (h : w.cell? p = some v) : p.block < w.heap.size := by
  refine Nat.lt_of_not_le fun hle => ?_
  have : w.heap[p.block]? = none := by simp [hle]
  simp [World.cell?, this] at h
theorem Row.below {w w' : World} {a : Option Addr} {l : List Nat} (h : Row w a l) (hb : Below w.heap.size w w') : Row w' a l := by
  rcases h with h | ⟨b, off, e, hc⟩
  · exact .inl h
  · exact .inr ⟨b, off, e, fun i hi => (hb.cell (p := ⟨b, off + i, none⟩) (cell_lt (p := ⟨b, off + i, none⟩) (hc i hi))).trans (hc i hi)⟩
theorem Row.take {w : World} {a : Option Addr} {l : List Nat} (h : Row w a l) (n : Nat) : Row w a (l.take n) := by
  rcases h with h | ⟨b, off, e, hc⟩
  · exact .inl (by simp [h])
  · refine .inr ⟨b, off, e, fun i hi => ?_⟩
    simp only [List.length_take] at hi
    rw [hc i (by omega)]
    simp [show i < n by omega]
/-- The table. -/
def Tab (w : World) : Prop := ∀ i, i < 16 → w.cell? ⟨0, i, none⟩ = some (.int .u32 (CrcM.t i : Nat))


/-- What half a step shows in the walk. -/
theorem half (m : Nat) (hm : m < 4294967296) : bits .and .u32 (m : Int) 15 = ((m % 16 : Nat) : Int) ∧ bits .xor .u32 ((m : Int) / 16) (CrcM.t (m % 16) : Nat) = (CrcM.s4 m : Nat) := by
  constructor
  · have := u32_and_nat m 15 hm (by decide)
    rw [nat_mask4] at this
    exact this
  · rw [show (m : Int) / 16 = ((m / 16 : Nat) : Int) by omega]
    exact u32_xor_nat (m / 16) (CrcM.t (m % 16)) (by omega) (CrcM.t_lt _ (Nat.mod_lt _ (by decide)))
theorem feed_snoc (r : Nat) (l : List Nat) (k : Nat) (h : k < l.length) : CrcM.feed r (l.take (k + 1)) = CrcM.s4 (CrcM.s4 (CrcM.feed r (l.take k) ^^^ l.getD k 0)) := by
  rw [List.take_succ_eq_append_getElem h, CrcM.feed_append]
  simp [CrcM.feed, CrcM.step, h]
theorem bytes_take {l : List Nat} (h : CrcM.Bytes l) (k : Nat) : CrcM.Bytes (l.take k) := fun x hx => h x (List.mem_of_mem_take hx)
theorem bytes_at {l : List Nat} (h : CrcM.Bytes l) (k : Nat) : l.getD k 0 < 256 := by
  by_cases hk : k < l.length
  · have := h (l[k]) (List.getElem_mem hk)
    simpa [List.getD, hk] using this
  · simp [List.getD, hk]

set_option maxHeartbeats 400000 in
theorem feed_some (r : Nat) (hr : r < 4294967296) (l : List Nat) (hl : CrcM.Bytes l) (hlen : l.length ≤ 140737488351232) (b off cap : Nat) (w : World)
    (hc : ∀ i, i < l.length → w.cell? ⟨b, off + i, none⟩ = some (.int .u8 (l.getD i 0 : Nat))) (tab : Tab w) :
    Calls Tryd.prog 19 #[.int .u32 r, .slice (some ⟨b, off, none⟩) l.length cap] w fun e w' => e = .returned (.int .u32 (CrcM.feed r l : Nat)) ∧ w' = w := by
  go_enter Tryd.func19, Tryd.ntmps19
  go_wp2
  go_loop [0, 9] (fun x i => ∃ k : Nat, k ≤ l.length ∧ i = .int .i64 k ∧ x = .int .u32 (CrcM.feed r (l.take k) : Nat)) (fun _ i => l.length - (intOf i).toNat)
  case atStart => exact ⟨0, Nat.zero_le _, rfl, rfl⟩
  case round =>
    obtain ⟨k, hk, rfl, rfl⟩ := hrel
    by_cases hlt : k < l.length
    · have H : Hid (CrcM.feed r (l.take (k + 1)) = _) := feed_snoc r l k hlt
      have hcell := hc k hlt
      have hy := bytes_at hl k
      have hx := CrcM.feed_lt _ (bytes_take hl k) r hr
      clear hc
      generalize l.getD k 0 = y at *
      generalize CrcM.feed r (l.take k) = x at *
      have e0 : (y : Int) % 4294967296 = y := by omega
      have e1 := u32_xor_nat x y hx (by omega)
      have hm := Nat.xor_lt_two_pow (n := 32) hx (show y < 2 ^ 32 by omega)
      generalize x ^^^ y = m at *
      obtain ⟨e2, e3⟩ := half m hm
      obtain ⟨e4, e5⟩ := half (CrcM.s4 m) (CrcM.s4_lt m hm)
      have c1 := tab (m % 16) (Nat.mod_lt _ (by decide))
      have c2 := tab (CrcM.s4 m % 16) (Nat.mod_lt _ (by decide))
      have b1 : m % 16 < 16 := Nat.mod_lt _ (by decide)
      have b2 : CrcM.s4 m % 16 < 16 := Nat.mod_lt _ (by decide)
      have hm2 := CrcM.s4_lt m hm
      generalize CrcM.t (m % 16) = t1 at *
      generalize m % 16 = i1 at *
      generalize CrcM.s4 m = m2 at *
      generalize CrcM.t (m2 % 16) = t2 at *
      generalize m2 % 16 = i2 at *
      go_wp2
      go_round
      case rel => exact ⟨k + 1, by omega, by go_num, by rw [H.out]⟩
      case measure => simp [intOf]; omega
    · have : l.take k = l := List.take_of_length_le (by omega)
      rw [this]
      go_wp2
      go_ret
      exact ⟨rfl, rfl⟩

theorem feed_none (r : Nat) (a : Option Addr) (cap : Nat) (w : World) :
    Calls Tryd.prog 19 #[.int .u32 r, .slice a 0 cap] w fun e w' => e = .returned (.int .u32 (r : Nat)) ∧ w' = w := by
  go_enter Tryd.func19, Tryd.ntmps19
  go_wp2
  refine wp_loop_rounds 1 ?_
  rw [rounds_succ]
  go_wp2
  go_ret
  exact ⟨rfl, rfl⟩
theorem feed_any (r : Nat) (hr : r < 4294967296) (l : List Nat) (hl : CrcM.Bytes l) (hlen : l.length ≤ 140737488351232) (a : Option Addr) (cap : Nat) (w : World) (hrow : Row w a l) (tab : Tab w) :
    Calls Tryd.prog 19 #[.int .u32 r, .slice a l.length cap] w fun e w' => e = .returned (.int .u32 (CrcM.feed r l : Nat)) ∧ w' = w := by
  rcases hrow with rfl | ⟨b, off, rfl, hc⟩
  · exact feed_none r a cap w
  · exact feed_some r hr l hl hlen b off cap w hc tab

/-- The check sum of bytes. -/
def crc (l : List Nat) : Nat := CrcM.feed 4294967295 l ^^^ 4294967295
theorem crc_any (l : List Nat) (hl : CrcM.Bytes l) (hlen : l.length ≤ 140737488351232) (a : Option Addr) (cap : Nat) (w : World) (hrow : Row w a l) (tab : Tab w) :
    Calls Tryd.prog 6 #[.slice a l.length cap] w fun e w' => e = .returned (.int .u32 (crc l : Nat)) ∧ w' = w := by
  have hx := CrcM.feed_lt l hl 4294967295 (by decide)
  have H : Hid (bits .xor .u32 4294967295 ((CrcM.feed 4294967295 l : Nat) : Int) = (crc l : Nat)) := by
    have := u32_xor_nat 4294967295 (CrcM.feed 4294967295 l) (by decide) hx
    rw [Nat.xor_comm] at this
    exact this
  go_enter Tryd.func6, Tryd.ntmps6
  go_wp2_with fail
  refine (feed_any 4294967295 (by decide) l hl hlen a cap w hrow tab).mono ?_
  rintro e w' ⟨rfl, rfl⟩
  go_wp2
  go_ret
  exact ⟨congrArg (fun n => Ending.returned (.int .u32 n)) H.out, rfl⟩

/-- What span answers. -/
def spanV (n lo hi : Int) : Int := lo + (if n < 0 then -(n + 1) else n) % (hi - lo + 1)
theorem spanV_bd (n lo hi : Int) (h : lo ≤ hi) : lo ≤ spanV n lo hi ∧ spanV n lo hi ≤ hi := by
  unfold spanV
  have h1 := Int.emod_nonneg (if n < 0 then -(n + 1) else n) (show hi - lo + 1 ≠ 0 by omega)
  have h2 := Int.emod_lt_of_pos (if n < 0 then -(n + 1) else n) (show 0 < hi - lo + 1 by omega)
  omega
theorem span_any (n lo hi : Int) (w : World) (h1 : -9223372036854775808 ≤ n) (h2 : n ≤ 9223372036854775807) (h3 : 0 ≤ lo) (h4 : lo ≤ hi) (h5 : hi ≤ 1152921504606846976) :
    Calls Tryd.prog 8 #[.int .i64 n, .int .i64 lo, .int .i64 hi] w fun e w' => e = .returned (.int .i64 (spanV n lo hi)) ∧ w' = w := by
  have hb := spanV_bd n lo hi h4
  by_cases hn : n < 0
  · have e : spanV n lo hi = lo + -(n + 1).tmod (hi - lo + 1) := by
      unfold spanV
      rw [if_pos hn, ← Int.neg_tmod, Int.tmod_eq_emod_of_nonneg (by omega)]
    have H : Hid (wrap64 (lo + -(n + 1).tmod (hi - lo + 1)) = spanV n lo hi) := by
      rw [← e]
      exact IntWalk.wrap64_in _ ⟨by omega, by omega⟩
    clear e hb
    go_enter Tryd.func8, Tryd.ntmps8
    go_wp2
    go_ret
    exact ⟨congrArg (fun n => Ending.returned (.int .i64 n)) H.out, rfl⟩
  · have e : spanV n lo hi = lo + n % (hi - lo + 1) := by
      unfold spanV
      rw [if_neg hn]
    have H : Hid (wrap64 (lo + n % (hi - lo + 1)) = spanV n lo hi) := by
      rw [← e]
      exact IntWalk.wrap64_in _ ⟨by omega, by omega⟩
    clear e hb
    go_enter Tryd.func8, Tryd.ntmps8
    go_wp2
    go_ret
    exact ⟨congrArg (fun n => Ending.returned (.int .i64 n)) H.out, rfl⟩

/-- A block of its own holds the bytes. -/
def vals (l : List Nat) : List Value := l.map fun n : Nat => Value.int .u8 n
def Own (w : World) (g : Nat) (l : List Nat) : Prop := w.heap[g]? = some (.cells (vals l).toArray 5 (0, 0))
theorem Own.lt {w : World} {g : Nat} {l : List Nat} (h : Own w g l) : g < w.heap.size := (Array.getElem?_eq_some_iff.1 h).1
theorem Own.below {w w' : World} {g B : Nat} {l : List Nat} (h : Own w g l) (hB : g < B) (hb : Below B w w') : Own w' g l := (hb.block g hB).trans h
theorem Own.of_row {w : World} {base g n : Nat} {xs : List Value} (l : List Nat) (hx : xs = vals l) (h : w.ownsRow base 5 1 (.slice (some ⟨g, 0, none⟩) n n) n xs) : Own w g l := by
  obtain ⟨hlen, h⟩ := h
  rcases h with ⟨h, _⟩ | ⟨g', cap, cur, e, _, hh, _, _, hs, ht⟩
  · cases h
  · cases e
    have : cur.toList = xs := by rw [← ht, List.take_of_length_le (by simp [hs])]
    unfold Own
    rw [hh, ← hx, ← this]
theorem Own.cell {w : World} {g : Nat} {l : List Nat} (h : Own w g l) (i : Nat) (hi : i < l.length) : w.cell? ⟨g, i, none⟩ = some (.int .u8 (l.getD i 0 : Nat)) := by
  rw [cell_of_row w g i _ 5 (0, 0) h]
  simp [vals, hi]
theorem Own.row {w : World} {g : Nat} {l : List Nat} (h : Own w g l) : Row w (some ⟨g, 0, none⟩) l :=
  .inr ⟨g, 0, rfl, fun i hi => by rw [Nat.zero_add]; exact h.cell i hi⟩
theorem Own.free {w : World} {g : Nat} {l : List Nat} (h : Own w g l) (i : Nat) : w.frozen? ⟨g, i, none⟩ = false := frozen_of_row w g i _ 5 h
theorem Own.set {w : World} {g : Nat} {l : List Nat} (h : Own w g l) (i v : Nat) : Own (w.setCell ⟨g, i, none⟩ (.int .u8 v)) g (l.set i v) := by
  unfold Own
  rw [heap_setCell_same w g i _ 5 _ h]
  simp [vals, List.map_set]
theorem Tryd.info5 : (Tryd.prog.info? 5).map (fun i => (i.zero, i.size, i.bytes)) = some (some (.int .u8 0), 1, 1) := by kernel_rfl
theorem vals_zero (n : Nat) : (madeCells (Value.int .u8 0).cells (n * 1)).toList = vals (List.replicate n 0) := by
  rw [show (Value.int .u8 0).cells = #[.int .u8 0] from rfl, toList_madeCells_one]
  simp [vals]

theorem copy_step (l : List Nat) (k : Nat) (h : k < l.length) : (l.take k ++ List.replicate (l.length - k) 0).set k (l.getD k 0) = l.take (k + 1) ++ List.replicate (l.length - (k + 1)) 0 := by
  rw [List.take_succ_eq_append_getElem h, List.set_append_right _ _ (by simp; omega)]
  rw [List.length_take, Nat.min_eq_left (by omega), Nat.sub_self, show l.length - k = l.length - (k + 1) + 1 by omega, List.replicate_succ, List.set_cons_zero, List.append_assoc, show l.getD k 0 = l[k] by simp [h]]
  rfl
set_option maxHeartbeats 400000 in
theorem copied_any (l : List Nat) (hl : CrcM.Bytes l) (hlen : l.length ≤ 140737488351232) (a : Option Addr) (cap : Nat) (w : World) (hrow : Row w a l) :
    Calls Tryd.prog 7 #[.slice a l.length cap] w fun e w' => ∃ g, e = .returned (.slice (some ⟨g, 0, none⟩) l.length l.length) ∧ w.heap.size ≤ g ∧ Own w' g l ∧ Below w.heap.size w w' := by
  obtain ⟨i0, hi, hz0, hz1, hz2⟩ := info_parts Tryd.info5
  go_enter Tryd.func7, Tryd.ntmps7
  go_wp2_with (at_make; refine wpList_make_full _ rfl _ _ 22 rfl w.heap.size 5 i0 (.int .u8 0) 1 Tryd.underlying22 hi hz0 hz1 .i64 .i64 _ _ l.length rfl rfl rfl rfl (by rw [hz2]; omega) (by unfold maxLen; omega) (Nat.le_refl _) ?_; intro w1 hown hgrow)
  have ho := Own.of_row (List.replicate l.length 0) (vals_zero _) hown
  have hb := (Below.refl w.heap.size w).grown hgrow (Nat.le_refl _) (by simp)
  clear hown hgrow hi hz0 hz1 hz2
  go_loopw [4] (fun i wr => ∃ k : Nat, k ≤ l.length ∧ i = .int .i64 k ∧ Own wr w.heap.size (l.take k ++ List.replicate (l.length - k) 0) ∧ Below w.heap.size w wr) (fun i _ => l.length - (intOf i).toNat)
  case atStart => exact ⟨0, Nat.zero_le _, rfl, by simpa using ho, hb⟩
  case round =>
    obtain ⟨k, hk, rfl, hor, hbr⟩ := hrel
    by_cases hkl : k < l.length
    · rcases hrow with rfl | ⟨b, off, rfl, hc⟩
      · simp at hkl
      have hB : b < w.heap.size := cell_lt (hc k hkl)
      have hcell : wr.cell? ⟨b, off + k, none⟩ = some (.int .u8 (l.getD k 0 : Nat)) := (hbr.cell (p := ⟨b, off + k, none⟩) hB).trans (hc k hkl)
      have hfr := hor.free k
      have hold := hor.cell k (by simp; omega)
      have hset := hor.set k (l.getD k 0)
      have hbs := hbr.setCell (p := ⟨w.heap.size, k, none⟩) (Nat.le_refl _) (.int .u8 (l.getD k 0 : Nat))
      rw [copy_step l k hkl] at hset
      clear hc hor hbr ho hb
      generalize l.getD k 0 = y at *
      go_wp2
      go_roundw
      case rel => exact ⟨k + 1, by omega, by go_num, hset, hbs⟩
      case measure => simp [intOf]; omega
    · have e : l.take k ++ List.replicate (l.length - k) 0 = l := by
        rw [List.take_of_length_le (by omega), show l.length - k = 0 by omega]; simp
      rw [e] at hor
      go_wp2
      go_ret
      exact ⟨_, rfl, Nat.le_refl _, hor, hbr⟩
end Go.Proofs.YtfmionfbknadiaaDoor
