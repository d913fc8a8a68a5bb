/-
  What readHead answers of an image that Print made.
-/
import Derived.Test.YtpdbndkckioamaaDoorParW
import Derived.Test.YtpdbndkckioamaaDoorPrtCode
import Derived.StillTactics
import Derived.Deep.DeepCutAuto
set_option linter.unusedSimpArgs false
set_option linter.unusedVariables false
namespace Go.Proofs.YtpdbndkckioamaaDoor
open Go.RowKit
theorem take_lh {x : HN} {b4 b5 b6 b7 b8 b9 b10 b11 : Nat} (rest : List Nat) : (lh x b4 b5 b6 b7 b8 b9 b10 b11 ++ rest).take 16 = lh x b4 b5 b6 b7 b8 b9 b10 b11 := by
  rw [List.take_append_of_le_length (by show 16 ≤ 16; decide)]
  rfl
theorem row_at {w : World} {b off : Nat} {I : List Nat} (h : Row w (some ⟨b, off, none⟩) I) (i v : Nat) (hi : i < I.length) (hv : I.getD i 0 = v) : w.cell? ⟨b, off + i, none⟩ = some (.int .u8 (v : Nat)) := by
  rcases h with e | ⟨b', off', e, hc⟩
  · rw [e] at hi; cases hi
  · obtain ⟨rfl, rfl⟩ : b = b' ∧ off = off' := by simpa using e
    rw [hc i hi, hv]
def rvA (r : Nat) : Array Value := #[.int .u8 0, .int .u8 0, .int .u8 0, .int .u8 0, .int .u8 0, .int .u8 0, .int .u8 0, .int .u8 0, .int .u8 0, .int .u8 0, .int .u8 0, .int .u8 0, .int .u8 252, .int .u8 ((r : Nat) : Int), .int .u8 252, .int .u8 192]
theorem reserved_e (hs : Array Value) (c : CF) (x : HN) (b4 b5 b6 b7 b8 b9 b10 b11 : Nat) (X : Hb c x) (f2 : x.f = 2) (Y : Hy c x b4 b5 b6 b7 b8 b9 b10 b11) (HH0 : hs = (vals (lh x b4 b5 b6 b7 b8 b9 b10 b11)).toArray) (w : World) (h2 : H2 c x) :
    Calls Tryd.prog 58 #[.agg hs] w fun e w' => ∃ r : Nat, e = .returned (.agg (rvA r)) ∧ r < 256 ∧ bits BinOp.and IntKind.u8 (x.kd : Int) (r : Int) = 0 ∧ Below w.heap.size w w' :=
  (reserved_any hs c x b4 b5 b6 b7 b8 b9 b10 b11 X f2 Y HH0 w h2).mono fun _ _ ⟨r, he, h1, h2, h3⟩ => ⟨r, he, h1, h2, h3⟩
set_option maxRecDepth 100000 in
set_option maxHeartbeats 3200000 in
theorem readHead_any (c : CF) (x : HN) (b4 b5 b6 b7 b8 b9 b10 b11 : Nat) (X : Hb c x) (f2 : x.f = 2) (Y : Hy c x b4 b5 b6 b7 b8 b9 b10 b11) (h2 : H2 c x) (rest : List Nat) (b off n k : Nat) (w : World)
    (hI : (lh x b4 b5 b6 b7 b8 b9 b10 b11 ++ rest).length = n) (hn : n ≤ 2097152) (hr : Row w (some ⟨b, off, none⟩) (lh x b4 b5 b6 b7 b8 b9 b10 b11 ++ rest)) :
    Calls Tryd.prog 41 #[.slice (some ⟨b, off, none⟩) n k] w fun e w' => e = .returned (.agg (vals (lh x b4 b5 b6 b7 b8 b9 b10 b11)).toArray) ∧ Below w.heap.size w w' := by
  have hn16 : 16 ≤ n := by
    rw [← hI, List.length_append]
    show 16 ≤ 16 + rest.length
    omega
  have HI : Hid ((lh x b4 b5 b6 b7 b8 b9 b10 b11 ++ rest).length = n) := hI
  have RW : Hid (∀ W : World, Below w.heap.size w W → Row W (some ⟨b, off, none⟩) (lh x b4 b5 b6 b7 b8 b9 b10 b11 ++ rest)) := fun W hb => hr.below hb
  clear hI hr
  go_enter Tryd.func41, Tryd.ntmps41
  go_upto_region 1 with fail
  have z0 : Blk (w.alloc (.cells Z16 67)) w.heap.size Z16 67 := Blk.new w Z16 _
  have hb0 : Below w.heap.size w (w.alloc (.cells Z16 67)) := (Below.refl _ _).alloc (Nat.le_refl _) _
  generalize w.alloc (.cells Z16 67) = W0 at *
  go_upto_region 2 with fail
  go_loopw [3, 7] (fun _ z wr => ∃ i : Nat, i ≤ 4 ∧ z = .int .i64 i ∧ Blk wr w.heap.size Z16 67 ∧ Below w.heap.size w wr) (fun _ z _ => 4 - (intOf z).toNat)
  case atStart => exact ⟨0, by omega, rfl, z0, hb0⟩
  case round =>
    clear z0 hb0
    obtain ⟨i, hi4, rfl, z0, hb0⟩ := hrel
    by_cases h4 : i < 4
    · rcases (show i = 0 ∨ i = 1 ∨ i = 2 ∨ i = 3 by omega) with rfl | rfl | rfl | rfl
      · have cm : wr.cell? ⟨b, off + 0, none⟩ = some (.int .u8 78) := row_at (RW.out _ hb0) 0 78 (by rw [HI.out]; omega) rfl
        have hlt : (0 : Int) < (n : Int) := by omega
        have hltN : 0 < n := by omega
        have cm0 : wr.cell? ⟨b, off, none⟩ = some (.int .u8 78) := cm
        have hge : ¬ (n : Int) ≤ 0 := by omega
        go_upto_region 6 with fail
        go_quiet (fail)
        go_wp2
        go_roundw
        case rel => exact ⟨1, by decide, by go_num, z0.below z0.lt (below_draws (Below.refl _ _) _), below_draws hb0 _⟩
        case measure => simp [intOf]
      · have cm : wr.cell? ⟨b, off + 1, none⟩ = some (.int .u8 69) := row_at (RW.out _ hb0) 1 69 (by rw [HI.out]; omega) rfl
        have hlt : (1 : Int) < (n : Int) := by omega
        have hltN : 1 < n := by omega
        have cm0 : wr.cell? ⟨b, off + 1, none⟩ = some (.int .u8 69) := cm
        have hge : ¬ (n : Int) ≤ 1 := by omega
        go_upto_region 6 with fail
        go_quiet (fail)
        go_wp2
        go_roundw
        case rel => exact ⟨2, by decide, by go_num, z0.below z0.lt (below_draws (Below.refl _ _) _), below_draws hb0 _⟩
        case measure => simp [intOf]
      · have cm : wr.cell? ⟨b, off + 2, none⟩ = some (.int .u8 83) := row_at (RW.out _ hb0) 2 83 (by rw [HI.out]; omega) rfl
        have hlt : (2 : Int) < (n : Int) := by omega
        have hltN : 2 < n := by omega
        have cm0 : wr.cell? ⟨b, off + 2, none⟩ = some (.int .u8 83) := cm
        have hge : ¬ (n : Int) ≤ 2 := by omega
        go_upto_region 6 with fail
        go_quiet (fail)
        go_wp2
        go_roundw
        case rel => exact ⟨3, by decide, by go_num, z0.below z0.lt (below_draws (Below.refl _ _) _), below_draws hb0 _⟩
        case measure => simp [intOf]
      · have cm : wr.cell? ⟨b, off + 3, none⟩ = some (.int .u8 26) := row_at (RW.out _ hb0) 3 26 (by rw [HI.out]; omega) rfl
        have hlt : (3 : Int) < (n : Int) := by omega
        have hltN : 3 < n := by omega
        have cm0 : wr.cell? ⟨b, off + 3, none⟩ = some (.int .u8 26) := cm
        have hge : ¬ (n : Int) ≤ 3 := by omega
        go_upto_region 6 with fail
        go_quiet (fail)
        go_wp2
        go_roundw
        case rel => exact ⟨4, by decide, by go_num, z0.below z0.lt (below_draws (Below.refl _ _) _), below_draws hb0 _⟩
        case measure => simp [intOf]
    · obtain rfl : i = 4 := by omega
      generalize wr = W1 at *
      clear h4 hi4
      have hge16 : ¬ (n : Int) < 16 := by omega
      go_upto_region 12 with fail
      clear hge16
      have bh : Blk (W1.alloc (.cells Z16 67)) W1.heap.size Z16 67 := Blk.new W1 Z16 _
      have hA : Below W1.heap.size W1 (W1.alloc (.cells Z16 67)) := (Below.refl _ _).alloc (Nat.le_refl _) _
      have hb1 := hb0.trans (hA.mono hb0.size)
      have z1 := z0.below z0.lt hA
      have hlt1 : w.heap.size < W1.heap.size := z0.lt
      clear hA z0 hb0
      generalize W1.alloc (.cells Z16 67) = W2 at *
      generalize W1.heap.size = m at *
      have HB : Hid (W2.heap[m]? = some (.cells (List.replicate 16 (.int .u8 0)).toArray 67 (0, 0))) := bh
      have F1 : Hid ((vals (lh x b4 b5 b6 b7 b8 b9 b10 b11)).length = Nat.min n 16) := by
        unfold Hid
        rw [show Nat.min n 16 = 16 from Nat.min_eq_right hn16]
        rfl
      have F2 : Hid (0 < (vals (lh x b4 b5 b6 b7 b8 b9 b10 b11)).length → (some ⟨m, 0, none⟩ : Option Addr) = some ⟨m, 0, none⟩ ∧ ∃ ad, (some ⟨b, off, none⟩ : Option Addr) = some ad ∧ ∀ j v, (vals (lh x b4 b5 b6 b7 b8 b9 b10 b11))[j]? = some v → W2.cell? (ad.add j) = some v) := by
        intro _
        refine ⟨rfl, _, rfl, fun j v hv => ?_⟩
        have hj : j < 16 := (List.getElem?_eq_some_iff.1 hv).1
        rw [Addr.add_lit, row_at (RW.out _ hb1) j _ (by rw [HI.out]; omega) rfl]
        have e2 : (lh x b4 b5 b6 b7 b8 b9 b10 b11 ++ rest).getD j 0 = (lh x b4 b5 b6 b7 b8 b9 b10 b11).getD j 0 := by
          rw [List.getD_eq_getElem?_getD, List.getElem?_append_left (by exact hj), ← List.getD_eq_getElem?_getD]
        rw [e2]
        have hv2 : (vals (lh x b4 b5 b6 b7 b8 b9 b10 b11))[j]? = some (.int .u8 ((lh x b4 b5 b6 b7 b8 b9 b10 b11).getD j 0 : Nat)) := by
          have hj' : j < (lh x b4 b5 b6 b7 b8 b9 b10 b11).length := hj
          simp [vals, hj']
        rw [← hv, hv2]
      have F3 : Hid (0 + (vals (lh x b4 b5 b6 b7 b8 b9 b10 b11)).length ≤ (List.replicate 16 (Value.int .u8 0)).length) := by unfold Hid; exact Nat.le_refl 16
      clear bh
      go_cut [35] (fun _ wx => Blk wx m (vals (lh x b4 b5 b6 b7 b8 b9 b10 b11)).toArray 67 ∧ Blk wx w.heap.size Z16 67 ∧ Below w.heap.size w wx)
      case first =>
        go_wp2_with (refine wpList_copy_splice rfl _ _ 22 22 rfl 5 (by kernel_rfl) (by kernel_rfl) (some ⟨m, 0, none⟩) (some ⟨b, off, none⟩) 16 16 n k rfl rfl m 0 (List.replicate 16 (.int .u8 0)) 67 HB.out (vals (lh x b4 b5 b6 b7 b8 b9 b10 b11)) F1.out F2.out F3.out (vals_one _) m W2 (Below.refl _ _) (Nat.le_refl _) ?_; intro w5 hg5 hb6)
        go_meet
        have hg := hg5.out
        rw [splice_full _ _ (by rfl)] at hg
        exact ⟨hg, z1.below hlt1 hb6, hb1.trans (hb6.mono (Nat.le_of_lt hlt1))⟩
      case rest =>
      clear HB F1 F2 F3 z1 hb1
      obtain ⟨bh, z1, hb1⟩ := hcut
      generalize wc = W3 at *
      go_upto_region 13 with fail
      have HL : Hid ((vals (lh x b4 b5 b6 b7 b8 b9 b10 b11)).toArray.size = 16 ∧ (vals (lh x b4 b5 b6 b7 b8 b9 b10 b11)).toArray.all (·.oneCell') = true) := ⟨rfl, vals_one' _⟩
      have RC : Hid (Calls _ _ _ _ _) := reserved_e (vals (lh x b4 b5 b6 b7 b8 b9 b10 b11)).toArray c x b4 b5 b6 b7 b8 b9 b10 b11 X f2 Y rfl W3 h2
      go_wp2_with (refine wpList_load_mid rfl 67 _ rfl m 0 rfl (vals (lh x b4 b5 b6 b7 b8 b9 b10 b11)).toArray.toList _ bh.range Tryd.underlying67 rfl (by exact infoHdr) ?_; rw [Array.toArray_toList])
      refine RC.out.mono ?_
      rintro e W4 ⟨r, rfl, hr1, hr2, hb4⟩
      have hr0 : Hid (r < 256 ∧ bits BinOp.and IntKind.u8 (x.kd : Int) (r : Int) = 0) := ⟨hr1, hr2⟩
      have bh4 := bh.below bh.lt hb4
      have z4 := z1.below z1.lt hb4
      have hb14 := hb1.trans (hb4.mono hb1.size)
      have FA : Hid (∀ i : Nat, i < 16 → bits BinOp.and IntKind.u8 (((lh x b4 b5 b6 b7 b8 b9 b10 b11).getD i 0 : Nat) : Int) ((([0, 0, 0, 0, 0, 0, 0, 0, 0, 0, 0, 0, 252, r, 252, 192] : List Nat).getD i 0 : Nat) : Int) = 0) := by
        intro i hi
        rcases (show i = 0 ∨ i = 1 ∨ i = 2 ∨ i = 3 ∨ i = 4 ∨ i = 5 ∨ i = 6 ∨ i = 7 ∨ i = 8 ∨ i = 9 ∨ i = 10 ∨ i = 11 ∨ i = 12 ∨ i = 13 ∨ i = 14 ∨ i = 15 by omega) with rfl | rfl | rfl | rfl | rfl | rfl | rfl | rfl | rfl | rfl | rfl | rfl | rfl | rfl | rfl | rfl
        · exact and_zero 78 (by decide)
        · exact and_zero 69 (by decide)
        · exact and_zero 83 (by decide)
        · exact and_zero 26 (by decide)
        · exact and_zero b4 Y.l4
        · exact and_zero b5 Y.l5
        · exact and_zero b6 Y.l6
        · exact and_zero b7 Y.l7
        · exact and_zero b8 Y.l8
        · exact and_zero b9 Y.l9
        · exact and_zero b10 Y.l10
        · exact and_zero b11 Y.l11
        · exact (low_bits.1 x.t X.t).2
        · exact hr0.out.2
        · exact (low_bits.1 x.mi X.mi).2
        · exact (low_bits.2 x.d X.d).2
      have IX : Hid (∀ (W : World) (r i : Nat), i < 16 → Sem.run Tryd.prog (Instr.index 67 (.agg (rvA r)) (.int .i64 (i : Nat))) W = .ok (.int .u8 (([0, 0, 0, 0, 0, 0, 0, 0, 0, 0, 0, 0, 252, r, 252, 192] : List Nat).getD i 0 : Nat)) W) := by
        intro W r i hi
        rcases (show i = 0 ∨ i = 1 ∨ i = 2 ∨ i = 3 ∨ i = 4 ∨ i = 5 ∨ i = 6 ∨ i = 7 ∨ i = 8 ∨ i = 9 ∨ i = 10 ∨ i = 11 ∨ i = 12 ∨ i = 13 ∨ i = 14 ∨ i = 15 by omega) with rfl | rfl | rfl | rfl | rfl | rfl | rfl | rfl | rfl | rfl | rfl | rfl | rfl | rfl | rfl | rfl <;> kernel_rfl
      clear RC hr1 hr2 bh z1 hb1 hb4
      go_upto_region 14 with fail
      go_loopw [5, 6, 38] (fun _ _ z wr => ∃ i : Nat, i ≤ 16 ∧ z = .int .i64 i ∧ Blk wr m (vals (lh x b4 b5 b6 b7 b8 b9 b10 b11)).toArray 67 ∧ Blk wr w.heap.size Z16 67 ∧ Below w.heap.size w wr) (fun _ _ z _ => 16 - (intOf z).toNat)
      case atStart => exact ⟨0, by omega, rfl, bh4, z4, hb14⟩
      case round =>
        clear bh4 z4 hb14
        obtain ⟨i, hi16, rfl, bh, z1, hb1⟩ := hrel
        by_cases h16 : i < 16
        · have fa := FA.out i h16
          have hx := IX.out wr r i h16
          have dh : wr.cell? ⟨m, i, none⟩ = some (.int .u8 ((lh x b4 b5 b6 b7 b8 b9 b10 b11).getD i 0 : Nat)) := by
            have hj' : i < (lh x b4 b5 b6 b7 b8 b9 b10 b11).length := h16
            rw [bh.cell i]
            simp [vals, hj']
          generalize (lh x b4 b5 b6 b7 b8 b9 b10 b11).getD i 0 = u at *
          generalize ([0, 0, 0, 0, 0, 0, 0, 0, 0, 0, 0, 0, 252, r, 252, 192] : List Nat).getD i 0 = q at *
          go_wp2
          go_roundw
          case rel => exact ⟨i + 1, by omega, by go_num, bh, z1, hb1⟩
          case measure => simp [intOf]; omega
        · obtain rfl : i = 16 := by omega
          generalize wr = W5 at *
          go_upto_region 19 with fail
          generalize hLL : (vals (lh x b4 b5 b6 b7 b8 b9 b10 b11)).toArray = L at *
          have HLL : Hid ((vals (lh x b4 b5 b6 b7 b8 b9 b10 b11)).toArray = L) := hLL
          clear hLL
          go_wp2_with (first
            | refine wpList_load_mid rfl 67 _ rfl m 0 rfl L.toList _ bh.range Tryd.underlying67 rfl (by rw [Array.length_toList, HL.out.1]; exact infoHdr) ?_
            | refine wpList_store_mid rfl 67 _ _ rfl w.heap.size 0 L rfl rfl (by exact z1.there _ HL.out.1.symm) (by rw [HL.out.1]; exact infoHdr) HL.out.2 ?_)
          refine ret_agg1 (m := w.heap.size) (L := L) Tryd.results41 (by rfl) (z1.setAll (L := L) (by rw [HL.out.1]; rfl)) Tryd.underlying67 rfl (by rw [HL.out.1]; exact infoHdr) ?_
          exact ⟨by rw [HLL.out], setCells_below (Nat.le_refl _) _ _ _ _ hb1⟩
end Go.Proofs.YtpdbndkckioamaaDoor
