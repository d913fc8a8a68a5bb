/-
  What the header's sizes answers; conditions: the bytes are bytes.
-/
import Derived.Test.YtilhlbnicmmaoaaDoorPag1
import Derived.BigQuiet
set_option linter.unusedSimpArgs false
set_option linter.unusedVariables false
namespace Go.Proofs.YtilhlbnicmmaoaaDoor
open Go.RowKit
theorem i64_or_nat (a b : Nat) (ha : a < 4611686018427387904) (hb : b < 4611686018427387904) : bits BinOp.or IntKind.i64 (a : Int) (b : Int) = ((a ||| b : Nat) : Int) := by
  have hx : a ||| b < 2 ^ 62 := Nat.or_lt_two_pow (by omega) (by omega)
  show IntKind.i64.wrap ((BitVec.ofInt 64 (a : Int) ||| BitVec.ofInt 64 (b : Int)).toNat : Int) = _
  rw [BitVec.toNat_or, ofInt_u64 a (by omega), ofInt_u64 b (by omega), IntKind.wrap_i64]
  omega
theorem or_hl (hi lo : Nat) (h1 : hi < 16) (h2 : lo < 256) : bits BinOp.or IntKind.i64 ((hi : Int) * 256) (lo : Int) = ((hi * 256 + lo : Nat) : Int) := by
  have := i64_or_nat (hi * 256) lo (by omega) (by omega)
  rw [nat_join 8 (hi * 256) lo (by omega) h2] at this
  rw [← this]; simp
theorem sz_pow (low : Nat) (h : low < 256) : (2 * (low % 4) + 1) * 2 ^ (min (low / 4) 32) ≤ 30064771072 := by
  have h1 : 2 ^ (min (low / 4) 32) ≤ 2 ^ 32 := Nat.pow_le_pow_right (by decide) (Nat.min_le_right _ _)
  have h2 : 2 * (low % 4) + 1 ≤ 7 := by omega
  have h3 := Nat.mul_le_mul h2 h1
  have h4 : (7 : Nat) * 2 ^ 32 = 30064771072 := by decide
  omega
set_option maxHeartbeats 1000000 in
theorem romSize_g (low high unit : Nat) (h1 : low < 256) (h2 : high < 16) (hu : unit ≤ 16384) (w : World) :
    Calls Tryd.prog 62 #[.int .u8 (low : Nat), .int .u8 (high : Nat), .int .i64 (unit : Nat)] w fun e w' => e = .returned (.int .i64 ((Hq.sz low high unit : Nat) : Int)) ∧ w' = w := by
  by_cases h15 : high = 15
  · subst h15
    have e : Hq.sz low 15 unit = (2 * (low % 4) + 1) * 2 ^ (min (low / 4) 32) := rfl
    have hb := sz_pow low h1
    rw [e]
    have g1 := (by_and low h1).2.1
    have g2 : (low : Int) / 4 = ((low / 4 : Nat) : Int) := by omega
    have g3 : (2 : Int) * ((low % 4 : Nat) : Int) + 1 = ((2 * (low % 4) + 1 : Nat) : Int) := by omega
    have g4 : low % 4 < 4 := Nat.mod_lt _ (by decide)
    clear e
    by_cases hk : low / 4 ≤ 32
    · have em : min (low / 4) 32 = low / 4 := Nat.min_eq_left hk
      rw [em] at hb ⊢
      have g7 : ¬ (32 : Int) < ((low / 4 : Nat) : Int) := by omega
      have g8 : ((low / 4 : Nat) : Int) ≤ 32 := by omega
      have g5 : ((2 * (low % 4) + 1 : Nat) : Int) * 2 ^ (low / 4) = (((2 * (low % 4) + 1) * 2 ^ (low / 4) : Nat) : Int) := by simp
      have g6 : low / 4 < 64 := by omega
      generalize (2 * (low % 4) + 1) * 2 ^ (low / 4) = n at *
      have g9 : 2 * (low % 4) + 1 < 8 := by omega
      generalize 2 * (low % 4) + 1 = o at *
      generalize low / 4 = k at *
      generalize low % 4 = q at *
      clear em hk
      go_enter Tryd.func62, Tryd.ntmps62
      go_wp2
      go_ret
      exact ⟨by go_num, rfl⟩
    · have em : min (low / 4) 32 = 32 := Nat.min_eq_right (by omega)
      rw [em] at hb ⊢
      have g7 : (32 : Int) < ((low / 4 : Nat) : Int) := by omega
      have g7' : ¬ ((low / 4 : Nat) : Int) ≤ 32 := by omega
      have g6 : low / 4 < 64 := by omega
      have g9 : 2 * (low % 4) + 1 < 8 := by omega
      have g5 : (((2 * (low % 4) + 1) * 2 ^ 32 : Nat) : Int) = ((2 * (low % 4) + 1 : Nat) : Int) * 4294967296 := by simp
      rw [g5]
      clear g5 hb em hk
      generalize 2 * (low % 4) + 1 = o at *
      generalize low / 4 = k at *
      generalize low % 4 = q at *
      go_enter Tryd.func62, Tryd.ntmps62
      go_wp2
      go_ret
      exact ⟨by go_num, rfl⟩
  · have e : Hq.sz low high unit = (high * 256 + low) * unit := by unfold Hq.sz; rw [if_neg h15]
    rw [e]
    have g1 := or_hl high low h2 h1
    have g2 : ((high : Int) != 15) = true := by rw [bne_iff_ne]; omega
    have hb : (high * 256 + low) * unit ≤ 4096 * 16384 := Nat.mul_le_mul (by omega) hu
    have g3 : ((high * 256 + low : Nat) : Int) * (unit : Int) = (((high * 256 + low) * unit : Nat) : Int) := by simp
    have g4 : high * 256 + low < 4096 := by omega
    generalize (high * 256 + low) * unit = n at *
    generalize high * 256 + low = m at *
    clear e h15
    go_enter Tryd.func62, Tryd.ntmps62
    go_wp2
    go_ret
    exact ⟨by go_num, rfl⟩
set_option maxHeartbeats 1000000 in
theorem sizes_g (h : Hq) (B : h.Ok) (hs : Array Value) (HH0 : hs = hv h) (w : World) :
    Calls Tryd.prog 43 #[.agg hs] w fun e w' => e = .returned (.tuple #[.int .i64 ((h.prg : Nat) : Int), .int .i64 ((h.chr : Nat) : Int)]) ∧ Below w.heap.size w w' := by
  have HH : Hid (hs = _) := HH0
  have hsz : hs.size = 16 := by rw [HH0]; rfl
  have HSZ : Hid (hs.size = 16) := hsz
  have FC : Hid (∀ W : World, Calls _ _ _ _ _) := fun W => format_g h B hs HH0 W
  clear HH0
  have HD : Hid ((hs[4]? = some (.int .u8 ((h.b4 : Nat) : Int)) ∧ hs[5]? = some (.int .u8 ((h.b5 : Nat) : Int))) ∧ hs[9]? = some (.int .u8 ((h.b9 : Nat) : Int))) := by rw [HH.out]; exact ⟨⟨rfl, rfl⟩, rfl⟩
  obtain ⟨x9, hx9⟩ : ∃ x9, (if h.f = 2 then h.b9 else 0) = x9 := ⟨_, rfl⟩
  have h9 := B.k9
  have h4 := B.k4
  have h5 := B.k5
  have hx : x9 < 256 := by rw [← hx9]; split <;> omega
  have e1 : h.prg = Hq.sz h.b4 (x9 % 16) 16384 := by unfold Hq.prg; rw [← hx9]; split <;> rfl
  have e2 : h.chr = Hq.sz h.b5 (x9 / 16) 8192 := by unfold Hq.chr; rw [← hx9]; split <;> rfl
  rw [e1, e2]
  have R1 : Hid (∀ W : World, Calls _ _ _ _ _) := fun W => romSize_g h.b4 (x9 % 16) 16384 h4 (Nat.mod_lt _ (by decide)) (by decide) W
  have R2 : Hid (∀ W : World, Calls _ _ _ _ _) := fun W => romSize_g h.b5 (x9 / 16) 8192 h5 (by omega) (by decide) W
  have s9a := (by_and x9 hx).2.2.2.1
  have s9b : (x9 : Int) / 16 = ((x9 / 16 : Nat) : Int) := by omega
  have hm : x9 % 16 < 16 := Nat.mod_lt _ (by decide)
  generalize Hq.sz h.b4 (x9 % 16) 16384 = pp at *
  generalize Hq.sz h.b5 (x9 / 16) 8192 = qq at *
  generalize x9 % 16 = xa at *
  have hm2 : x9 / 16 < 16 := by omega
  generalize x9 / 16 = xb at *
  obtain ⟨ff, hff⟩ : ∃ ff, h.f = ff := ⟨_, rfl⟩
  rw [hff] at FC hx9
  have HX9 : Hid ((if ff = 2 then h.b9 else 0) = x9) := hx9
  clear hff hx9 e1 e2 HH B
  generalize h.b4 = y4 at *
  generalize h.b5 = y5 at *
  generalize h.b9 = y9 at *
  go_enter Tryd.func43, Tryd.ntmps43
  go_upto_region 2 with fail
  have hb0 : Below w.heap.size w (w.alloc (.cells hs 67)) := (Below.refl _ _).alloc (Nat.le_refl _) _
  have b0 : Blk (w.alloc (.cells hs 67)) w.heap.size hs 67 := Blk.new w hs _
  generalize w.alloc (.cells hs 67) = W0 at *
  clear hsz
  have FC1 : Hid (Calls _ _ _ _ _) := FC.out W0
  go_wp2_with (refine wpList_load_mid rfl 67 _ rfl w.heap.size 0 rfl hs.toList _ b0.range Tryd.underlying67 rfl (by rw [Array.length_toList, HSZ.out]; exact infoHdr) ?_; rw [Array.toArray_toList])
  refine FC1.out.mono ?_
  rintro e W1 ⟨rfl, hb1⟩
  have b1 := b0.below b0.lt hb1
  have hbw := hb0.trans (hb1.mono hb0.size)
  clear FC1 FC b0 hb0 hb1
  have c4 := (b1.cell 4).trans HD.out.1.1
  have c5 := (b1.cell 5).trans HD.out.1.2
  have c9 := (b1.cell 9).trans HD.out.2
  by_cases h2 : ff = 2
  · have h2' : ((ff : Int) == 2) = true := by rw [h2]; rfl
    have e : y9 = x9 := by rw [← HX9.out, if_pos h2]
    subst e
    clear h2 h9
    go_upto_region 4 with fail
    go_quiet (first
      | (go_at_call_of 62 (Value.int .i64 16384); exact Calls.quiet_of_same (R1.out _))
      | (go_at_call_of 62 (Value.int .i64 8192); exact Calls.quiet_of_same (R2.out _)))
    go_wp2
    go_ret2
    exact ⟨rfl, below_draws hbw _⟩
  · have h2' : ((ff : Int) == 2) = false := by rw [beq_eq_false_iff_ne]; omega
    have e : 0 = x9 := by rw [← HX9.out, if_neg h2]
    subst e
    have z1 : xa = 0 := by have : ((0 : Nat) : Int) = (xa : Int) := s9a; omega
    have z2 : xb = 0 := by omega
    subst z1
    subst z2
    clear h2 h9 c9
    go_upto_region 4 with fail
    go_quiet (first
      | (go_at_call_of 62 (Value.int .i64 16384); exact Calls.quiet_of_same (R1.out _))
      | (go_at_call_of 62 (Value.int .i64 8192); exact Calls.quiet_of_same (R2.out _)))
    go_wp2
    go_ret2
    exact ⟨rfl, below_draws hbw _⟩
end Go.Proofs.YtilhlbnicmmaoaaDoor
