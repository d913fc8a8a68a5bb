/-
  The functions of one instruction of a block of package xlate.
-/
import Derived.Test.YtfdiplgjiidnbaaDoorXlHand
set_option linter.unusedSimpArgs false
set_option linter.unusedVariables false
namespace Go.Proofs.YtfdiplgjiidnbaaDoor
open Go.RowKit Classical
theorem rem11 (x : Int) (h0 : 0 ≤ x) : IntKind.u16.wrap (((IntKind.u16.wrap (x + 2)).tmod 2048).tdiv 256) = (x + 2) % 2048 / 256 := by
  rw [wrap16 (x + 2)]
  have b1 : 0 ≤ (x + 2) % 65536 := Int.emod_nonneg _ (by decide)
  rw [Int.tmod_eq_emod_of_nonneg b1, show (x + 2) % 65536 % 2048 = (x + 2) % 2048 by omega]
  exact quo16 _ (by omega) (by omega)
set_option maxRecDepth 100000 in
set_option maxHeartbeats 2000000 in
theorem enter_any (op md kd ln cy cl at' : Int) (a : Option Addr) (n c : Nat) (num cyc lv : Int) (tag there : Int) (h0 : 0 ≤ at') (h1 : at' ≤ 65535) (w : World) :
    Calls Tryd.prog 40 #[.agg (pcC op md kd ln cy cl at' a n c num cyc lv), .int .i64 tag, .int .i64 there] w fun e w' => e = .returned (.bool (inI op ln at' tag there)) ∧ Below w.heap.size w w' := by
  have q1 := rem11 at' h0
  go_enter Tryd.func40, Tryd.ntmps40
  go_wp2
  all_goals go_ret
  all_goals (refine ⟨?_, (Below.refl _ _).alloc (Nat.le_refl _) _⟩; first | (simp_all [inI, barI, stackI]; done) | (simp_all [inI, barI, stackI]; omega) | (simp only [inI, barI, stackI, *]; first | rfl | simp))
set_option maxRecDepth 100000 in
set_option maxHeartbeats 2000000 in
theorem behind_any (op md kd ln cy cl at' : Int) (a : Option Addr) (n c : Nat) (num cyc lv : Int) (h0 : 0 ≤ at') (h1 : at' ≤ 65535) (l0 : 0 ≤ ln) (l1 : ln ≤ 3) (w : World) :
    Calls Tryd.prog 43 #[.agg (pcC op md kd ln cy cl at' a n c num cyc lv)] w fun e w' => e = .returned (.int .u16 ((at' + ln) % 65536)) ∧ Below w.heap.size w w' := by
  have q1 := wrapU ln l0 (by omega)
  have q2 := wrap16 (at' + ln)
  go_enter Tryd.func43, Tryd.ntmps43
  go_wp2
  all_goals go_ret
  all_goals (refine ⟨?_, (Below.refl _ _).alloc (Nat.le_refl _) _⟩; first | (simp_all [wrap16]; done) | (simp_all [wrap16]; omega) | (simp only [wrap16, *]; first | rfl | simp))
/-- The operand of bytes. -/
def opdN (ln c1 c2 : Nat) : Nat := if ln = 3 then c2 * 256 + c1 else if ln = 2 then c1 else 0
def opvN (ln c1 c2 j : Nat) : Nat := if j = 2 then 0 else if j = 1 then (if ln = 3 then c2 else 0) else opdN ln c1 c2
theorem orLo (h l : Nat) (hh : h < 256) (hl : l < 256) : bits .or .u16 ((h : Int) * 256) (l : Int) = ((h * 256 + l : Nat) : Int) := by
  have e : BitVec.ofInt 16 ((h : Int) * 256) = BitVec.ofNat 16 (h * 256) := by
    rw [show ((h : Int) * 256) = ((h * 256 : Nat) : Int) by omega]; rfl
  show IntKind.u16.wrap ((BitVec.ofInt 16 ((h : Int) * 256) ||| BitVec.ofInt 16 (l : Int)).toNat : Nat) = _
  rw [e, show BitVec.ofInt 16 (l : Int) = BitVec.ofNat 16 l from rfl, BitVec.toNat_or, BitVec.toNat_ofNat, BitVec.toNat_ofNat, Nat.mod_eq_of_lt (by omega), Nat.mod_eq_of_lt (by omega), wrap16]
  have := Nat.shiftLeft_add_eq_or_of_lt (b := l) (i := 8) hl h
  rw [Nat.shiftLeft_eq] at this
  rw [show (2 ^ 8 : Nat) = 256 from rfl] at this
  rw [← this]
  omega
set_option maxRecDepth 100000 in
set_option maxHeartbeats 2000000 in
theorem operand_any (op md kd cy cl at' : Int) (ln c1 c2 : Nat) (b o c : Nat) (num cyc lv : Int) (w : World) (hl : ln = 1 ∨ ln = 2 ∨ ln = 3) (h1 : 2 ≤ ln → w.cell? ⟨b, o + 1, none⟩ = some (.int .u8 (c1 : Nat))) (h2 : 3 ≤ ln → w.cell? ⟨b, o + 2, none⟩ = some (.int .u8 (c2 : Nat))) (k1 : c1 < 256) (k2 : c2 < 256) :
    Calls Tryd.prog 47 #[.agg (pcC op md kd (ln : Nat) cy cl at' (some ⟨b, o, none⟩) ln c num cyc lv)] w fun e w' => e = .returned (.int .u16 ((opdN ln c1 c2 : Nat) : Int)) ∧ Below w.heap.size w w' := by
  have hb0 : Below w.heap.size w (w.alloc (.cells (pcC op md kd (ln : Nat) cy cl at' (some ⟨b, o, none⟩) ln c num cyc lv) 56)) := (Below.refl _ _).alloc (Nat.le_refl _) _
  have g1 : 2 ≤ ln → (w.alloc (.cells (pcC op md kd (ln : Nat) cy cl at' (some ⟨b, o, none⟩) ln c num cyc lv) 56)).cell? ⟨b, o + 1, none⟩ = some (.int .u8 (c1 : Nat)) := fun h => (hb0.cell (p := ⟨b, o + 1, none⟩) (cell_lt (h1 h))).trans (h1 h)
  have g2 : 3 ≤ ln → (w.alloc (.cells (pcC op md kd (ln : Nat) cy cl at' (some ⟨b, o, none⟩) ln c num cyc lv) 56)).cell? ⟨b, o + 2, none⟩ = some (.int .u8 (c2 : Nat)) := fun h => (hb0.cell (p := ⟨b, o + 2, none⟩) (cell_lt (h2 h))).trans (h2 h)
  have B0 : Blk (w.alloc (.cells (pcC op md kd (ln : Nat) cy cl at' (some ⟨b, o, none⟩) ln c num cyc lv) 56)) w.heap.size (pcC op md kd (ln : Nat) cy cl at' (some ⟨b, o, none⟩) ln c num cyc lv) 56 := Blk.new w _ _
  clear h1 h2
  go_enter Tryd.func47, Tryd.ntmps47
  go_upto_region 3 with fail
  have d7 := B0.cell 7
  generalize w.alloc (.cells (pcC op md kd (ln : Nat) cy cl at' (some ⟨b, o, none⟩) ln c num cyc lv) 56) = W at *
  have d7' : W.cell? ⟨w.heap.size, 7, none⟩ = some (.slice (some ⟨b, o, none⟩) ln c) := d7
  clear d7 B0
  go_loopw [3, 4] (fun v i wr => ∃ j : Nat, j ≤ ln - 1 ∧ i = .int .i64 (j : Nat) ∧ v = .int .u16 ((opvN ln c1 c2 j : Nat) : Int) ∧ wr = W) (fun _ i _ => (intOf i).toNat)
  case atStart => exact ⟨ln - 1, Nat.le_refl _, by rcases hl with rfl | rfl | rfl <;> rfl, by rcases hl with rfl | rfl | rfl <;> rfl, rfl⟩
  case round =>
    obtain ⟨j, hj, rfl, rfl, rfl⟩ := hrel
    rcases (show j = 0 ∨ j = 1 ∨ j = 2 by omega) with rfl | rfl | rfl
    · clear g1 g2
      have HE : Hid (opvN ln c1 c2 0 = opdN ln c1 c2) := rfl
      generalize opvN ln c1 c2 0 = V at *
      go_wp2
      go_ret
      exact ⟨by rw [HE.out]; rfl, hb0⟩
    · have g := g1 (by omega)
      have hlt : 1 < ln := by omega
      have HB : Hid ((if ln = 3 then c2 else 0) < 256 ∧ opvN ln c1 c2 0 = (if ln = 3 then c2 else 0) * 256 + c1) := by
        refine ⟨by split <;> omega, ?_⟩
        rcases hl with rfl | rfl | rfl
        · omega
        · show c1 = 0 * 256 + c1; omega
        · rfl
      have e1 : opvN ln c1 c2 1 = (if ln = 3 then c2 else 0) := rfl
      rw [e1]
      generalize (if ln = 3 then c2 else 0) = V at *
      have ho := orLo V c1 HB.out.1 k1
      have hV : (V : Int) ≤ 255 := by have := HB.out.1; omega
      clear g1 g2 e1
      go_wp2
      go_roundw
      case rel => exact ⟨0, by omega, rfl, by rw [HB.out.2]; rfl, trivial⟩
      case measure => simp [intOf]
    · have g := g2 (by omega)
      have hlt : 2 < ln := by omega
      have ho : bits .or .u16 0 (c2 : Int) = ((0 * 256 + c2 : Nat) : Int) := orLo 0 c2 (by decide) k2
      have HB : Hid (opvN ln c1 c2 1 = 0 * 256 + c2) := by
        obtain rfl : ln = 3 := by omega
        show c2 = 0 * 256 + c2; omega
      have e2 : opvN ln c1 c2 2 = 0 := rfl
      rw [e2]
      clear g1 g2 e2
      go_wp2
      go_roundw
      case rel => exact ⟨1, by omega, rfl, by rw [HB.out, show 0 * 256 + c2 = c2 by omega], trivial⟩
      case measure => simp [intOf]
/-- Where a branch leads, of the place behind it and its byte. -/
def tgtI (n c1 : Int) : Int := (n + (if c1 < 128 then c1 else c1 - 256)) % 65536
theorem i8_wrap (c : Int) (h0 : 0 ≤ c) (h1 : c ≤ 255) : IntKind.u16.wrap (IntKind.i8.wrap c) = (if c < 128 then c else c + 65280) := by
  by_cases h : c < 128
  · rw [if_pos h]
    simp [IntKind.wrap, IntKind.signed, IntKind.bits]
    omega
  · rw [if_neg h]
    simp [IntKind.wrap, IntKind.signed, IntKind.bits]
    omega
set_option maxRecDepth 100000 in
set_option maxHeartbeats 2000000 in
theorem target_any (op md kd cy cl at' : Int) (c1 : Nat) (b o c : Nat) (num cyc lv : Int) (w : World) (h1 : w.cell? ⟨b, o + 1, none⟩ = some (.int .u8 (c1 : Nat))) (k1 : c1 < 256) (a0 : 0 ≤ at') (a1 : at' ≤ 65535) :
    Calls Tryd.prog 48 #[.agg (pcC op md kd ((2 : Nat) : Int) cy cl at' (some ⟨b, o, none⟩) 2 c num cyc lv)] w fun e w' => e = .returned (.int .u16 (tgtI ((at' + 2) % 65536) (c1 : Nat))) ∧ Below w.heap.size w w' := by
  obtain ⟨PC, hPC⟩ : ∃ PC, PC = pcC op md kd ((2 : Nat) : Int) cy cl at' (some ⟨b, o, none⟩) 2 c num cyc lv := ⟨_, rfl⟩
  have OB : Hid (∀ W, Below w.heap.size w W → Calls Tryd.prog 47 #[.agg PC] W fun e w' => e = .returned (.int .u16 ((c1 : Nat) : Int)) ∧ Below W.heap.size W w') := fun W hb => by
    rw [hPC]; exact operand_any op md kd cy cl at' 2 c1 0 b o c num cyc lv W (.inr (.inl rfl)) (fun _ => (hb.cell (p := ⟨b, o + 1, none⟩) (cell_lt h1)).trans h1) (fun h => absurd h (by decide)) k1 (by decide)
  have BB : Hid (∀ W, Calls Tryd.prog 43 #[.agg PC] W fun e w' => e = .returned (.int .u16 ((at' + 2) % 65536)) ∧ Below W.heap.size W w') := fun W => by
    rw [hPC]; exact behind_any op md kd ((2 : Nat) : Int) cy cl at' (some ⟨b, o, none⟩) 2 c num cyc lv a0 a1 (by decide) (by decide) W
  have HS : Hid (PC.size = 11) := by unfold Hid; rw [hPC]; rfl
  rw [← hPC]
  clear hPC h1
  obtain ⟨N, hN⟩ : ∃ N, (at' + 2) % 65536 = N := ⟨_, rfl⟩
  have HT : Hid (IntKind.u16.wrap (N + IntKind.u16.wrap (IntKind.i8.wrap ((c1 : Nat) : Int))) = tgtI N ((c1 : Nat) : Int)) := by
    unfold Hid tgtI
    rw [i8_wrap _ (by omega) (by omega), wrap16]
    split <;> omega
  rw [hN] at BB ⊢
  clear hN
  go_enter Tryd.func48, Tryd.ntmps48
  go_upto_region 1 with fail
  have b0 : Blk (w.alloc (.cells PC 56)) w.heap.size PC 56 := Blk.new w _ _
  have hb0 : Below w.heap.size w (w.alloc (.cells PC 56)) := (Below.refl _ _).alloc (Nat.le_refl _) _
  generalize w.alloc (.cells PC 56) = W0 at *
  have s0 : Pq w PC W0.drew := ⟨b0, hb0.drew⟩
  clear b0 hb0
  refine wp_region_held (S := fun v => Pq w PC v) (by kernel_rfl) ?_
  refine takeH (i := 0) (v := .agg PC.toList.toArray) _ rfl (by kernel_rfl) (by kernel_rfl) (by kernel_rfl) (fun _ _ _ h => h) (yieldsIf_load_mid (by kernel_rfl) 56 (.tmp 1) rfl w.heap.size 0 (by kernel_rfl) PC.toList _ (fun v hv => Blk.range' hv.b) Tryd.underlying56 rfl (by rw [Array.length_toList]; rw [HS.out]; kernel_rfl)) s0 rfl ?_
  refine takeH (i := 2) (v := .agg PC.toList.toArray) _ rfl (by kernel_rfl) (by kernel_rfl) (by kernel_rfl) (fun _ _ _ h => h) (yieldsIf_load_mid (by kernel_rfl) 56 (.tmp 1) rfl w.heap.size 0 (by kernel_rfl) PC.toList _ (fun v hv => Blk.range' hv.b) Tryd.underlying56 rfl (by rw [Array.length_toList]; rw [HS.out]; kernel_rfl)) s0 rfl ?_
  refine callH (i := 1) (f := 43) (v := .int .u16 N) _ (by kernel_rfl) rfl (by kernel_rfl) (by kernel_rfl) (BB.out _) rfl ?_
  intro Wq1 hbq1
  have sq1 : (fun v => Pq w PC v) Wq1 := s0.on hbq1
  clear hbq1
  refine ⟨sq1, ?_⟩
  refine callH (i := 3) (f := 47) (v := .int .u16 ((c1 : Nat) : Int)) _ (by kernel_rfl) rfl (by kernel_rfl) (by kernel_rfl) (OB.out _ sq1.hb) rfl ?_
  intro Wq2 hbq2
  have sq2 : (fun v => Pq w PC v) Wq2 := sq1.on hbq2
  clear hbq2
  refine ⟨sq2, ?_⟩
  refine takeH (i := 4) (v := .int .i8 (IntKind.i8.wrap ((c1 : Nat) : Int))) _ rfl (by kernel_rfl) (by kernel_rfl) (by kernel_rfl) (fun _ _ _ h => h) (.inl ⟨by kernel_rfl, fun _ _ => by kernel_rfl⟩) sq2 rfl ?_
  refine takeH (i := 5) (v := .int .u16 (IntKind.u16.wrap (IntKind.i8.wrap ((c1 : Nat) : Int)))) _ rfl (by kernel_rfl) (by kernel_rfl) (by kernel_rfl) (fun _ _ _ h => h) (.inl ⟨by kernel_rfl, fun _ _ => by kernel_rfl⟩) sq2 rfl ?_
  refine takeH (i := 6) (v := .int .u16 (IntKind.u16.wrap (N + IntKind.u16.wrap (IntKind.i8.wrap ((c1 : Nat) : Int))))) _ rfl (by kernel_rfl) (by kernel_rfl) (by kernel_rfl) (fun _ _ _ h => h) (.inl ⟨by kernel_rfl, fun _ _ => by kernel_rfl⟩) sq2 rfl ?_
  refine takeH (i := 7) (v := .int .u16 (IntKind.u16.wrap (N + IntKind.u16.wrap (IntKind.i8.wrap ((c1 : Nat) : Int))))) _ rfl (by kernel_rfl) (by kernel_rfl) (by kernel_rfl) (fun _ _ _ h => h) (.inl ⟨by kernel_rfl, fun _ _ => by kernel_rfl⟩) sq2 rfl ?_
  refine wpAnyH_done (by kernel_rfl) ?_ _
  go_wp2
  go_ret
  exact ⟨congrArg (fun x => Ending.returned (.int .u16 x)) HT.out, sq2.hb⟩
end Go.Proofs.YtfdiplgjiidnbaaDoor
