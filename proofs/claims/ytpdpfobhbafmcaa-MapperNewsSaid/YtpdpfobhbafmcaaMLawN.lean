/-
  The law MapperNews returns true for every shape; conditions: its numbers fit their kinds.
-/
import Derived.Test.YtpdpfobhbafmcaaNCart
import Derived.Test.YtpdpfobhbafmcaaMRefV
namespace Go.Proofs.Ytpdpfobhbafmcaa
open Go.RowKit Classical
set_option maxRecDepth 100000 in
set_option maxHeartbeats 1000000 in
theorem news_law (mp sub ram nv pr ch : Int) (vert four : Bool) (w : World) (hpr : -9223372036854775808 ≤ pr ∧ pr ≤ 9223372036854775807) (hch : -9223372036854775808 ≤ ch ∧ ch ≤ 9223372036854775807) :
    Calls Try.prog 3 #[.agg #[.int .i64 mp, .int .i64 sub, .int .i64 ram, .int .i64 nv, .int .i64 pr, .int .i64 ch, .bool vert, .bool four]] w fun e w' => e = .returned (.bool true) ∧ Below w.heap.size w w' := by
  obtain ⟨D, v, hD, HN⟩ := new_both mp sub ram nv vert four (pr % 1081344).toNat (ch % 540672).toNat (by omega) (by omega)
  have HDs : Hid _ := (isB D hD).size
  have HD1 : Hid _ := (isB D hD).one
  generalize hL : D.cells = L at *
  have HL : Hid _ := hL
  have HB : Hid _ := HN
  clear hL HN
  go_enter Try.func3, Try.ntmps3
  go_upto_region 1 with fail
  have b0 : Blk (w.alloc (.cells #[.int .i64 mp, .int .i64 sub, .int .i64 ram, .int .i64 nv, .int .i64 pr, .int .i64 ch, .bool vert, .bool four] 23)) w.heap.size #[.int .i64 mp, .int .i64 sub, .int .i64 ram, .int .i64 nv, .int .i64 pr, .int .i64 ch, .bool vert, .bool four] 23 := Blk.new w _ _
  have hb0 : Below w.heap.size w (w.alloc (.cells #[.int .i64 mp, .int .i64 sub, .int .i64 ram, .int .i64 nv, .int .i64 pr, .int .i64 ch, .bool vert, .bool four] 23)) := (Below.refl _ _).alloc (Nat.le_refl _) _
  generalize w.alloc (.cells #[.int .i64 mp, .int .i64 sub, .int .i64 ram, .int .i64 nv, .int .i64 pr, .int .i64 ch, .bool vert, .bool four] 23) = W0 at *
  have hcell := b0.cell
  go_cut [3, 4] (fun q3 q4 wx => ∃ b3, q3 = .pointer (some ⟨b3, 0, none⟩) ∧ q4 = .int .i64 v ∧ w.heap.size < b3 ∧ Blk wx b3 L 27 ∧ Blk wx w.heap.size #[.int .i64 mp, .int .i64 sub, .int .i64 ram, .int .i64 nv, .int .i64 pr, .int .i64 ch, .bool vert, .bool four] 23 ∧ Below w.heap.size w wx)
  case first =>
    go_wp2_with (first
      | (go_at_call 7; refine (cartridge_any mp sub ram nv pr ch vert four _ hpr hch).mono ?_; rintro e W1 ⟨cs, x1, x2, k1, k2, rfl, C1, hb1⟩; have N1 : Hid _ := (HB.out cs x1 x2 k1 k2 C1).1; clear C1)
      | (go_at_call 6; refine (N1.out _).mono ?_; rintro e W2 ⟨rfl, hb2⟩; have zn := Blk.new W2 Z31 27)
      | refine wpList_store_mid rfl 27 _ _ rfl W2.heap.size 0 L rfl rfl (by exact zn.there _ HDs.out.symm) (by rw [HDs.out]; exact Try.infoBoard) HD1.out ?_)
    go_meet
    have k1 := b0.below b0.lt hb1
    have k2 := k1.below k1.lt hb2
    have h1 := hb0.trans (hb1.mono hb0.size)
    have h2 := h1.trans (hb2.mono h1.size)
    exact ⟨_, rfl, rfl, k2.lt, zn.setAll L HDs.out, (k2.old _).below (B := W2.heap.size) k2.lt (setCells_below (Nat.le_refl _) _ _ _ _ (Below.refl _ _)), setCells_below h2.size _ _ _ _ (h2.alloc h2.size _)⟩
  case rest =>
  clear b0 hb0 hcell
  obtain ⟨b3, rfl, rfl, hb3, y0, b0, hb0⟩ := hcut
  have hcell := b0.cell
  go_upto_region 2 with fail
  go_cut [5, 6] (fun q3 q4 wx => ∃ b5, q3 = .pointer (some ⟨b5, 0, none⟩) ∧ q4 = .int .i64 v ∧ Blk wx b5 L 27 ∧ Blk wx b3 L 27 ∧ Below w.heap.size w wx)
  case first =>
    go_wp2_with (first
      | (go_at_call 7; refine (cartridge_any mp sub ram nv pr ch vert four _ hpr hch).mono ?_; rintro e W1 ⟨cs, x1, x2, k1, k2, rfl, C1, hb1⟩; have N1 : Hid _ := (HB.out cs x1 x2 k1 k2 C1).2; clear C1)
      | (go_at_call 8; refine (N1.out _).mono ?_; rintro e W2 ⟨rfl, hb2⟩; have zn := Blk.new W2 Z31 27)
      | refine wpList_store_mid rfl 27 _ _ rfl W2.heap.size 0 L rfl rfl (by exact zn.there _ HDs.out.symm) (by rw [HDs.out]; exact Try.infoBoard) HD1.out ?_)
    go_meet
    have k1 := y0.below y0.lt hb1
    have k2 := k1.below k1.lt hb2
    have h1 := hb0.trans (hb1.mono hb0.size)
    have h2 := h1.trans (hb2.mono h1.size)
    exact ⟨_, rfl, rfl, zn.setAll L HDs.out, (k2.old _).below (B := W2.heap.size) k2.lt (setCells_below (Nat.le_refl _) _ _ _ _ (Below.refl _ _)), setCells_below h2.size _ _ _ _ (h2.alloc h2.size _)⟩
  case rest =>
  clear b0 hb0 hcell y0
  obtain ⟨b5, rfl, rfl, y5, y3, hb0⟩ := hcut
  have ED : Hid (decide (D = D) = true) := decide_eq_true rfl
  go_wp2_with (first
    | refine wpList_load_mid rfl 27 _ rfl b3 0 rfl L.toList _ y3.range Try.underlying27 rfl (by rw [Array.length_toList, HDs.out]; exact Try.infoBoard) ?_
    | refine wpList_load_mid rfl 27 _ rfl b5 0 rfl L.toList _ y5.range Try.underlying27 rfl (by rw [Array.length_toList, HDs.out]; exact Try.infoBoard) ?_
    | (refine Try.wpEqlB D D hD hD _ _ _ rfl rfl (by rw [HL.out]; rfl) (by rw [HL.out]; rfl) ?_; rw [ED.out]))
  go_ret
  exact ⟨rfl, hb0⟩
end Go.Proofs.Ytpdpfobhbafmcaa
