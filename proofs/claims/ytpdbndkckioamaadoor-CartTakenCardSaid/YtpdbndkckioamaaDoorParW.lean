/-
  What the header's format and romSize answer; conditions: what is named.
  What the header's reserved and sizes answer; conditions: the header is that of a NES 2.0 cartridge that may be printed.
  What the reader's left and take do; conditions: the reader lies in a block of its own, the image's bytes in its slice.
  What the header's nes2Fields puts; conditions: the cartridge in the making lies in a block of its own.
-/
import Derived.Test.YtpdbndkckioamaaDoorParSpec
import Derived.Test.YtpdbndkckioamaaDoorPrtHead
import Derived.BigQuiet
import Derived.Deep.Heap
import Derived.StillTailTactics
set_option linter.unusedSimpArgs false
set_option linter.unusedVariables false
namespace Go.Proofs.YtpdbndkckioamaaDoor
open Go.RowKit
theorem odd_mul : ∀ (f n : Nat), 0 < n → n < 2 ^ f → Chk.oddPart f n * 2 ^ Lib.ctzFrom f n = n
  | 0, n, h, hf => by simp at hf; omega
  | f + 1, n, h, hf => by
    rw [Chk.oddPart, Lib.ctzFrom]
    by_cases h2 : n % 2 = 0
    · rw [if_pos h2, if_neg (by omega)]
      have := odd_mul f (n / 2) (by omega) (by rw [Nat.pow_succ] at hf; omega)
      rw [Nat.pow_add, Nat.pow_one, Nat.mul_left_comm, this]
      omega
    · rw [if_neg h2, if_pos (by omega)]; simp
theorem or_zero (n : Nat) (h : n < 256) : bits BinOp.or IntKind.i64 0 (n : Int) = (n : Int) := by
  have g : ∀ t : Fin 256, bits BinOp.or IntKind.i64 0 ((t.val : Nat) : Int) = ((t.val : Nat) : Int) := by decide +kernel
  exact g ⟨n, h⟩
set_option maxHeartbeats 400000 in
theorem format_any (hs : Array Value) (b7 : Nat) (hsz : hs.size = 16) (h7 : hs[7]? = some (.int .u8 (b7 : Nat))) (f12 : bits BinOp.and IntKind.u8 (b7 : Int) 12 = 8) (w : World) :
    Calls Tryd.prog 59 #[.agg hs] w fun e w' => e = .returned (.int .i64 2) ∧ Below w.heap.size w w' := by
  go_enter Tryd.func59, Tryd.ntmps59
  go_upto_region 1 with fail
  have hb0 : Below w.heap.size w (w.alloc (.cells hs 67)) := (Below.refl _ _).alloc (Nat.le_refl _) _
  have b0 : Blk (w.alloc (.cells hs 67)) w.heap.size hs 67 := Blk.new w hs _
  generalize w.alloc (.cells hs 67) = W0 at *
  have d := (b0.cell 7).trans h7
  clear hsz h7
  go_wp2
  go_ret
  exact ⟨rfl, hb0⟩
set_option maxHeartbeats 400000 in
theorem romSize_core (n k o unit low : Nat) (ho : o ≤ 7) (hk : k ≤ 20) (hn : o * 2 ^ k = n) (hb : n ≤ 1048576) (hod : o % 2 = 1) (hl : low = k * 4 + o / 2) (w : World) :
    Calls Tryd.prog 62 #[.int .u8 low, .int .u8 15, .int .i64 unit] w fun e w' => e = .returned (.int .i64 n) ∧ w' = w := by
  obtain ⟨g1, g2⟩ := lo_bits k o (by omega) ho
  rw [← hl] at g1 g2
  have g3 : (2 : Int) * ((o / 2 : Nat) : Int) + 1 = (o : Int) := by omega
  have g4 : (k : Int) ≤ 32 := by omega
  have g5 : (o : Int) * 2 ^ k = (n : Int) := by rw [← hn]; simp
  have hlow : low < 256 := by omega
  have g7 : ¬ (32 : Int) < (k : Int) := by omega
  generalize o / 2 = oh at *
  clear hl hn
  go_enter Tryd.func62, Tryd.ntmps62
  go_wp2
  go_ret
  exact ⟨by go_num, rfl⟩
set_option maxHeartbeats 400000 in
theorem romSize_any (n unit : Nat) (hu : unit = 16384 ∨ unit = 8192) (hb : n ≤ 1048576) (hq : n / unit < 256) (ho : n % unit = 0 ∨ Chk.oddPart 64 n ≤ 7) (w : World) :
    Calls Tryd.prog 62 #[.int .u8 (loB n unit : Nat), .int .u8 (hiB n unit : Nat), .int .i64 unit] w fun e w' => e = .returned (.int .i64 n) ∧ w' = w := by
  by_cases h0 : n % unit = 0
  · unfold loB hiB
    rw [if_pos h0, if_pos h0]
    have g1 := or_zero (n / unit) hq
    have g2 : ((n / unit : Nat) : Int) * (unit : Int) = (n : Int) := by
      have : n / unit * unit = n := Nat.div_mul_cancel (Nat.dvd_of_mod_eq_zero h0)
      rw [← Int.natCast_mul, this]
    have g3 : unit ≤ 16384 := by omega
    generalize n / unit = v at *
    clear h0 ho hu
    go_enter Tryd.func62, Tryd.ntmps62
    go_wp2
    go_ret
    exact ⟨by go_num, rfl⟩
  · have hn0 : n ≠ 0 := fun e => h0 (by rw [e]; exact Nat.zero_mod _)
    have h7 : Chk.oddPart 64 n ≤ 7 := ho.resolve_left h0
    have hm := odd_mul 64 n (by omega) (by omega)
    have hc : Lib.ctz 64 n = Lib.ctzFrom 64 n := by rw [Lib.ctz, if_neg hn0]
    have hod := odd_of n hn0 (by omega) 64 (by omega)
    have hk : Lib.ctz 64 n ≤ 20 := by
      apply Classical.byContradiction
      intro hh
      have h3 : 2 ^ 21 ≤ 2 ^ Lib.ctz 64 n := Nat.pow_le_pow_right (by decide) (by omega)
      have h4 : 2 ^ Lib.ctz 64 n ≤ n := by
        rw [← hc] at hm
        have h6 := Nat.mul_le_mul_right (2 ^ Lib.ctz 64 n) (show 1 ≤ Chk.oddPart 64 n by omega)
        rw [Nat.one_mul, hm] at h6
        exact h6
      have h5 : (2 : Nat) ^ 21 = 2097152 := by decide
      omega
    have e1 : loB n unit = Lib.ctz 64 n * 4 + Chk.oddPart 64 n / 2 := by unfold loB; rw [if_neg h0]
    have e2 : hiB n unit = 15 := by unfold hiB; rw [if_neg h0]
    rw [e2]
    exact romSize_core n _ _ unit _ h7 hk (by rw [hc]; exact hm) hb hod e1 w
theorem kd_no (kd k : Nat) (h : (kd : Int) ≤ Chk.kindTop k) (hk : k < 4) (hkd : kd < 256) : ∃ r : Nat, r < 256 ∧ IntKind.u8.wrap (Chk.kindTop k) = 255 - (r : Int) ∧ bits BinOp.and IntKind.u8 (kd : Int) (r : Int) = 0 := by
  rcases (show k = 0 ∨ k = 1 ∨ k = 2 ∨ k = 3 by omega) with rfl | rfl | rfl | rfl
  · have : kd = 0 := by have h' : (kd : Int) ≤ 0 := h; omega
    subst this
    exact ⟨255, by decide, by decide, by decide⟩
  · exact ⟨0, by decide, by decide, and_zero kd hkd⟩
  · have : kd = 0 := by have h' : (kd : Int) ≤ 0 := h; omega
    subst this
    exact ⟨255, by decide, by decide, by decide⟩
  · have h' : (kd : Int) ≤ 15 := h
    exact ⟨240, by decide, by decide, kd_bits kd (by omega)⟩
end Go.Proofs.YtpdbndkckioamaaDoor
namespace Go.Proofs.YtpdbndkckioamaaDoor
open Go.RowKit
set_option maxHeartbeats 1000000 in
theorem reserved_any (hs : Array Value) (c : CF) (x : HN) (b4 b5 b6 b7 b8 b9 b10 b11 : Nat) (X : Hb c x) (f2 : x.f = 2) (Y : Hy c x b4 b5 b6 b7 b8 b9 b10 b11) (HH0 : hs = (vals (lh x b4 b5 b6 b7 b8 b9 b10 b11)).toArray) (w : World) (h2 : H2 c x) :
    Calls Tryd.prog 58 #[.agg hs] w fun e w' => ∃ r : Nat, e = .returned (.agg (vals [0, 0, 0, 0, 0, 0, 0, 0, 0, 0, 0, 0, 252, r, 252, 192]).toArray) ∧ r < 256 ∧ bits BinOp.and IntKind.u8 (x.kd : Int) (r : Int) = 0 ∧ Below w.heap.size w w' := by
  have HH : Hid (hs = _) := HH0
  clear HH0
  have hsz : hs.size = 16 := by rw [HH.out]; rfl
  have HSZ : Hid (hs.size = 16) := hsz
  go_enter Tryd.func58, Tryd.ntmps58
  go_upto_region 1 with fail
  have K0 : Blk ((w.alloc (.cells hs 67)).alloc (.cells Z16 67)) w.heap.size hs 67 ∧ Blk ((w.alloc (.cells hs 67)).alloc (.cells Z16 67)) (w.heap.size + 1) Z16 67 ∧ Below w.heap.size w ((w.alloc (.cells hs 67)).alloc (.cells Z16 67)) :=
    ⟨(Blk.new w hs _).old _, by have := Blk.new (w.alloc (.cells hs 67)) Z16 67; rwa [World.size_alloc] at this, ((Below.refl _ _).alloc (Nat.le_refl _) _).alloc (by simp) _⟩
  generalize (w.alloc (.cells hs 67)).alloc (.cells Z16 67) = W0 at *
  obtain ⟨b0, z0, hb0⟩ := K0
  clear hsz
  have FC : Hid (Calls _ _ _ _ _) := format_any hs b7 HSZ.out (by rw [HH.out]; rfl) Y.f12 W0
  go_wp2_with (refine wpList_load_mid rfl 67 _ rfl w.heap.size 0 rfl hs.toList _ b0.range Tryd.underlying67 rfl (by rw [Array.length_toList, HSZ.out]; exact infoHdr) ?_; rw [Array.toArray_toList])
  refine FC.out.mono ?_
  rintro e W1 ⟨rfl, hb1⟩
  have b1 := b0.below b0.lt hb1
  have z1 := z0.below z0.lt hb1
  have hbw := hb0.trans (hb1.mono hb0.size)
  clear FC b0 z0 hb0 hb1
  have c7 := (b1.cell 7).trans (show hs[7]? = some (.int .u8 ((b7 : Nat) : Int)) by rw [HH.out]; rfl)
  have GC : Hid (∀ (n : Int) (W : World), Calls _ _ _ _ _) := fun n W => greatestKind_any n W
  have hkd := h2.kind
  have hk4 := X.k
  have hkl := X.kd
  rcases (show x.k = 0 ∨ x.k = 1 ∨ x.k = 2 ∨ x.k = 3 by omega) with hk | hk | hk | hk
  · have f3 : bits BinOp.and IntKind.u8 (b7 : Int) 3 = 0 := by rw [Y.f3, hk]; rfl
    have HF : Hid (bits BinOp.and IntKind.u8 (x.kd : Int) ((255 : Nat) : Int) = 0) := by
      rw [hk] at hkd
      have hkd' : (x.kd : Int) ≤ 0 := hkd
      obtain h0 : x.kd = 0 := by omega
      unfold Hid; rw [h0]; decide
    have GK : Hid (∀ W : World, Calls _ _ _ _ _) := fun W => GC.out 0 W
    have HS : Hid ((vals [0, 0, 0, 0, 0, 0, 0, 0, 0, 0, 0, 0, 252, 255, 252, 192]).toArray.size = 16 ∧ (vals [0, 0, 0, 0, 0, 0, 0, 0, 0, 0, 0, 0, 252, 255, 252, 192]).toArray.all (·.oneCell') = true) := ⟨rfl, by simp [vals, Value.oneCell']⟩
    clear hkd hk4 hkl GC hk
    go_wp2_with (first
      | (go_at_call 80; go_must (refine (GK.out _).mono ?_; rintro e w1 ⟨rfl, hw1⟩; obtain rfl := hw1.symm))
      | refine wpList_store_mid rfl 67 _ _ rfl (w.heap.size + 1) 0 (vals [0, 0, 0, 0, 0, 0, 0, 0, 0, 0, 0, 0, 252, 255, 252, 192]).toArray rfl rfl (by exact z1.there _ HS.out.1.symm) (by rw [HS.out.1]; exact infoHdr) HS.out.2 ?_)
    refine ret_agg1 (m := w.heap.size + 1) (L := (vals [0, 0, 0, 0, 0, 0, 0, 0, 0, 0, 0, 0, 252, 255, 252, 192]).toArray) Tryd.results58 (by rfl) (z1.setAll (by rfl)) Tryd.underlying67 rfl (by exact infoHdr) ?_
    exact ⟨255, rfl, by decide, HF.out, setCells_below (by omega) _ _ _ _ hbw⟩
  · have f3 : bits BinOp.and IntKind.u8 (b7 : Int) 3 = 1 := by rw [Y.f3, hk]; rfl
    have HF : Hid (bits BinOp.and IntKind.u8 (x.kd : Int) ((0 : Nat) : Int) = 0) := by
      rw [hk] at hkd
      have hkd' : (x.kd : Int) ≤ 255 := hkd
      exact and_zero x.kd hkl
    have GK : Hid (∀ W : World, Calls _ _ _ _ _) := fun W => GC.out 1 W
    have HS : Hid ((vals [0, 0, 0, 0, 0, 0, 0, 0, 0, 0, 0, 0, 252, 0, 252, 192]).toArray.size = 16 ∧ (vals [0, 0, 0, 0, 0, 0, 0, 0, 0, 0, 0, 0, 252, 0, 252, 192]).toArray.all (·.oneCell') = true) := ⟨rfl, by simp [vals, Value.oneCell']⟩
    clear hkd hk4 hkl GC hk
    go_wp2_with (first
      | (go_at_call 80; go_must (refine (GK.out _).mono ?_; rintro e w1 ⟨rfl, hw1⟩; obtain rfl := hw1.symm))
      | refine wpList_store_mid rfl 67 _ _ rfl (w.heap.size + 1) 0 (vals [0, 0, 0, 0, 0, 0, 0, 0, 0, 0, 0, 0, 252, 0, 252, 192]).toArray rfl rfl (by exact z1.there _ HS.out.1.symm) (by rw [HS.out.1]; exact infoHdr) HS.out.2 ?_)
    refine ret_agg1 (m := w.heap.size + 1) (L := (vals [0, 0, 0, 0, 0, 0, 0, 0, 0, 0, 0, 0, 252, 0, 252, 192]).toArray) Tryd.results58 (by rfl) (z1.setAll (by rfl)) Tryd.underlying67 rfl (by exact infoHdr) ?_
    exact ⟨0, rfl, by decide, HF.out, setCells_below (by omega) _ _ _ _ hbw⟩
  · have f3 : bits BinOp.and IntKind.u8 (b7 : Int) 3 = 2 := by rw [Y.f3, hk]; rfl
    have HF : Hid (bits BinOp.and IntKind.u8 (x.kd : Int) ((255 : Nat) : Int) = 0) := by
      rw [hk] at hkd
      have hkd' : (x.kd : Int) ≤ 0 := hkd
      obtain h0 : x.kd = 0 := by omega
      unfold Hid; rw [h0]; decide
    have GK : Hid (∀ W : World, Calls _ _ _ _ _) := fun W => GC.out 2 W
    have HS : Hid ((vals [0, 0, 0, 0, 0, 0, 0, 0, 0, 0, 0, 0, 252, 255, 252, 192]).toArray.size = 16 ∧ (vals [0, 0, 0, 0, 0, 0, 0, 0, 0, 0, 0, 0, 252, 255, 252, 192]).toArray.all (·.oneCell') = true) := ⟨rfl, by simp [vals, Value.oneCell']⟩
    clear hkd hk4 hkl GC hk
    go_wp2_with (first
      | (go_at_call 80; go_must (refine (GK.out _).mono ?_; rintro e w1 ⟨rfl, hw1⟩; obtain rfl := hw1.symm))
      | refine wpList_store_mid rfl 67 _ _ rfl (w.heap.size + 1) 0 (vals [0, 0, 0, 0, 0, 0, 0, 0, 0, 0, 0, 0, 252, 255, 252, 192]).toArray rfl rfl (by exact z1.there _ HS.out.1.symm) (by rw [HS.out.1]; exact infoHdr) HS.out.2 ?_)
    refine ret_agg1 (m := w.heap.size + 1) (L := (vals [0, 0, 0, 0, 0, 0, 0, 0, 0, 0, 0, 0, 252, 255, 252, 192]).toArray) Tryd.results58 (by rfl) (z1.setAll (by rfl)) Tryd.underlying67 rfl (by exact infoHdr) ?_
    exact ⟨255, rfl, by decide, HF.out, setCells_below (by omega) _ _ _ _ hbw⟩
  · have f3 : bits BinOp.and IntKind.u8 (b7 : Int) 3 = 3 := by rw [Y.f3, hk]; rfl
    have HF : Hid (bits BinOp.and IntKind.u8 (x.kd : Int) ((240 : Nat) : Int) = 0) := by
      rw [hk] at hkd
      have hkd' : (x.kd : Int) ≤ 15 := hkd
      exact kd_bits x.kd (by omega)
    have GK : Hid (∀ W : World, Calls _ _ _ _ _) := fun W => GC.out 3 W
    have HS : Hid ((vals [0, 0, 0, 0, 0, 0, 0, 0, 0, 0, 0, 0, 252, 240, 252, 192]).toArray.size = 16 ∧ (vals [0, 0, 0, 0, 0, 0, 0, 0, 0, 0, 0, 0, 252, 240, 252, 192]).toArray.all (·.oneCell') = true) := ⟨rfl, by simp [vals, Value.oneCell']⟩
    clear hkd hk4 hkl GC hk
    go_wp2_with (first
      | (go_at_call 80; go_must (refine (GK.out _).mono ?_; rintro e w1 ⟨rfl, hw1⟩; obtain rfl := hw1.symm))
      | refine wpList_store_mid rfl 67 _ _ rfl (w.heap.size + 1) 0 (vals [0, 0, 0, 0, 0, 0, 0, 0, 0, 0, 0, 0, 252, 240, 252, 192]).toArray rfl rfl (by exact z1.there _ HS.out.1.symm) (by rw [HS.out.1]; exact infoHdr) HS.out.2 ?_)
    refine ret_agg1 (m := w.heap.size + 1) (L := (vals [0, 0, 0, 0, 0, 0, 0, 0, 0, 0, 0, 0, 252, 240, 252, 192]).toArray) Tryd.results58 (by rfl) (z1.setAll (by rfl)) Tryd.underlying67 rfl (by exact infoHdr) ?_
    exact ⟨240, rfl, by decide, HF.out, setCells_below (by omega) _ _ _ _ hbw⟩
set_option maxHeartbeats 1000000 in
theorem sizes_any (hs : Array Value) (c : CF) (x : HN) (b4 b5 b6 b7 b8 b9 b10 b11 : Nat) (X : Hb c x) (f2 : x.f = 2) (Y : Hy c x b4 b5 b6 b7 b8 b9 b10 b11) (HH0 : hs = (vals (lh x b4 b5 b6 b7 b8 b9 b10 b11)).toArray) (w : World) :
    Calls Tryd.prog 43 #[.agg hs] w fun e w' => e = .returned (.tuple #[.int .i64 c.np, .int .i64 c.nq]) ∧ Below w.heap.size w w' := by
  have HH : Hid (hs = _) := HH0
  clear HH0
  have hsz : hs.size = 16 := by rw [HH.out]; rfl
  have HSZ : Hid (hs.size = 16) := hsz
  go_enter Tryd.func43, Tryd.ntmps43
  go_upto_region 2 with fail
  have hb0 : Below w.heap.size w (w.alloc (.cells hs 67)) := (Below.refl _ _).alloc (Nat.le_refl _) _
  have b0 : Blk (w.alloc (.cells hs 67)) w.heap.size hs 67 := Blk.new w hs _
  generalize w.alloc (.cells hs 67) = W0 at *
  clear hsz
  have FC : Hid (Calls _ _ _ _ _) := format_any hs b7 HSZ.out (by rw [HH.out]; rfl) Y.f12 W0
  go_wp2_with (refine wpList_load_mid rfl 67 _ rfl w.heap.size 0 rfl hs.toList _ b0.range Tryd.underlying67 rfl (by rw [Array.length_toList, HSZ.out]; exact infoHdr) ?_; rw [Array.toArray_toList])
  refine FC.out.mono ?_
  rintro e W1 ⟨rfl, hb1⟩
  have b1 := b0.below b0.lt hb1
  have hbw := hb0.trans (hb1.mono hb0.size)
  clear FC b0 hb0 hb1
  have c4 := (b1.cell 4).trans (show hs[4]? = some (.int .u8 ((loB c.np 16384 : Nat) : Int)) by rw [HH.out, ← Y.e4]; rfl)
  have c5 := (b1.cell 5).trans (show hs[5]? = some (.int .u8 ((loB c.nq 8192 : Nat) : Int)) by rw [HH.out, ← Y.e5]; rfl)
  have c9 := (b1.cell 9).trans (show hs[9]? = some (.int .u8 ((b9 : Nat) : Int)) by rw [HH.out]; rfl)
  have s9a := Y.s9a
  have s9b := Y.s9b
  have R1 : Hid (∀ W : World, Calls _ _ _ _ _) := fun W => romSize_any c.np 16384 (.inl rfl) X.np (by have := X.np; omega) (X.npu.imp id fun h => h.2) W
  have R2 : Hid (∀ W : World, Calls _ _ _ _ _) := fun W => romSize_any c.nq 8192 (.inr rfl) (by have := X.nq; omega) (by have := X.nq; omega) (X.nqu.imp id fun h => h.2) W
  generalize loB c.np 16384 = p4 at *
  generalize hiB c.np 16384 = p9 at *
  generalize loB c.nq 8192 = q5 at *
  generalize hiB c.nq 8192 = q9 at *
  go_upto_region 4 with fail
  go_quiet (first
    | (go_at_call_of 62 (Value.int .i64 16384); exact Calls.quiet_of_same (R1.out _))
    | (go_at_call_of 62 (Value.int .i64 8192); exact Calls.quiet_of_same (R2.out _)))
  go_wp2
  go_ret2
  exact ⟨rfl, below_draws hbw _⟩
/-- What a step of the reader leaves: all blocks but its own. -/
structure Tk (m : Nat) (w w' : World) : Prop where
  bl : Below m w w'
  keep : ∀ k, k < w.heap.size → k ≠ m → w'.heap[k]? = w.heap[k]?
theorem Tk.refl (m : Nat) (w : World) : Tk m w w := ⟨Below.refl _ _, fun _ _ _ => rfl⟩
theorem Tk.trans {m : Nat} {a b c : World} (h : Tk m a b) (k : Tk m b c) : Tk m a c :=
  ⟨h.bl.trans k.bl, fun i hi hn => (k.keep i (Nat.lt_of_lt_of_le hi h.bl.size) hn).trans (h.keep i hi hn)⟩
theorem Tk.of {m : Nat} {w w' : World} (h : Below w.heap.size w w') (hm : m < w.heap.size) : Tk m w w' := ⟨h.mono (Nat.le_of_lt hm), fun k hk _ => h.block k hk⟩
theorem Tk.set {m : Nat} (w : World) (i : Nat) (v : Value) : Tk m w (w.setCell ⟨m, i, none⟩ v) :=
  ⟨(Below.refl _ _).setCell (p := ⟨m, i, none⟩) (Nat.le_refl _) v, fun k _ hn => Deep.blk_setCell_other w ⟨m, i, none⟩ v k hn⟩
end Go.Proofs.YtpdbndkckioamaaDoor
namespace Go.Proofs.YtpdbndkckioamaaDoor
open Go.RowKit
theorem Row.sub {w : World} {b off : Nat} {I : List Nat} (h : Row w (some ⟨b, off, none⟩) I) (at' n : Nat) (hn : at' + n ≤ I.length) : Row w (some ⟨b, off + at', none⟩) ((I.drop at').take n) := by
  rcases h with e | ⟨b', off', e, hc⟩
  · left
    rw [e]
    simp
  · obtain ⟨rfl, rfl⟩ : b = b' ∧ off = off' := by simpa using e
    refine .inr ⟨_, _, rfl, fun i hi => ?_⟩
    have hi' : i < n := by simp at hi; omega
    rw [Nat.add_assoc, hc (at' + i) (by omega)]
    simp [hi']
theorem Tk.row {m B : Nat} {w w' : World} {a : Option Addr} {l : List Nat} (h : Tk m w w') (r : RowF B w a l) (hm : m < B) : RowF B w' a l := by
  rcases r with e | ⟨b, off, ea, hb, hc⟩
  · exact .inl e
  · refine .inr ⟨b, off, ea, hb, fun i hi => ?_⟩
    have h1 := hc i hi
    have h2 : b < w.heap.size := cell_lt (p := ⟨b, off + i, none⟩) h1
    exact (World.cell?_of_block (w := w) (a := ⟨b, off + i, none⟩) (h.keep b h2 (by omega))).trans h1
theorem Tk.blk {m g : Nat} {w w' : World} {cs : Array Value} {t : TypeId} (h : Tk m w w') (b : Blk w g cs t) (hn : g ≠ m) : Blk w' g cs t := (h.keep g b.lt hn).trans b
set_option maxHeartbeats 400000 in
theorem left_any (m : Nat) (a : Option Addr) (n k at' : Nat) (hn : n ≤ 2097152) (ha : at' ≤ n) (w : World) (b : Blk w m #[.slice a n k, .int .i64 at'] 77) :
    Calls Tryd.prog 63 #[.pointer (some ⟨m, 0, none⟩)] w fun e w' => e = .returned (.int .i64 (n - at' : Nat)) ∧ ∃ j, w' = w.drewN j := by
  have d0 := (b.cell 0).trans (show _ = some (.slice a n k) from rfl)
  have d1 := (b.cell 1).trans (show _ = some (.int .i64 (at' : Int)) from rfl)
  clear b
  go_enter Tryd.func63, Tryd.ntmps63
  go_upto_region 1 with fail
  go_quiet (fail)
  go_wp2
  go_ret
  exact ⟨by go_num, _, rfl⟩
/-- What the reader's take is to answer and to leave. -/
def TakeOk (m b off n k nx nn : Nat) (l : List Nat) (w : World) (e : Ending) (w' : World) : Prop :=
  ∃ a' k', e = .returned (.slice a' nn k') ∧ RowF w.heap.size w' a' l ∧ Blk w' m #[.slice (some ⟨b, off, none⟩) n k, .int .i64 (nx : Nat)] 77 ∧ Tk m w w'
set_option maxRecDepth 100000 in
set_option maxHeartbeats 1000000 in
theorem take_any (m b off n k at' nn : Nat) (I : List Nat) (hI : I.length = n) (hn : n ≤ 2097152) (hk : n ≤ k) (ha : at' + nn ≤ n) (w : World) (bl : Blk w m #[.slice (some ⟨b, off, none⟩) n k, .int .i64 at'] 77) (hr : Row w (some ⟨b, off, none⟩) I) :
    Calls Tryd.prog 44 #[.pointer (some ⟨m, 0, none⟩), .int .i64 nn] w (TakeOk m b off n k (at' + nn) nn ((I.drop at').take nn) w) := by
  have HM : Hid (m < w.heap.size) := bl.lt
  have LC : Hid (Calls _ _ _ _ _) := left_any m (some ⟨b, off, none⟩) n k at' hn (by omega) w bl
  have HR : Hid (Row w (some ⟨b, off + at', none⟩) ((I.drop at').take nn)) := hr.sub at' nn (by omega)
  have HL : Hid (((I.drop at').take nn).length = nn) := by unfold Hid; simp; omega
  clear hr hI
  generalize (I.drop at').take nn = l at *
  go_enter Tryd.func44, Tryd.ntmps44
  go_wp2_with fail
  refine LC.out.mono ?_
  rintro e W1 ⟨rfl, j, hj⟩
  have t1 : Tk m w W1 := Tk.of (by rw [hj]; exact below_draws (Below.refl _ _) _) bl.lt
  have HR1 : Hid (Row W1 (some ⟨b, off + at', none⟩) l) := HR.out.below (by rw [hj]; exact below_draws (Below.refl _ _) _)
  have b1 : Blk W1 m #[.slice (some ⟨b, off, none⟩) n k, .int .i64 at'] 77 := bl.below bl.lt (by rw [hj]; exact below_draws (Below.refl _ _) _)
  clear hj LC HR bl
  have hlt : ¬ n - at' < nn := by omega
  go_upto_region 3 with fail
  clear hlt
  have d0 := (b1.cell 0).trans (show _ = some (.slice (some ⟨b, off, none⟩) n k) from rfl)
  have d1 := (b1.cell 1).trans (show _ = some (.int .i64 (at' : Int)) from rfl)
  have g1 : (0 : Int) ≤ (at' : Int) := by omega
  have g2 : (at' : Int) ≤ ((at' + nn : Nat) : Int) := by omega
  have g3 : ((at' + nn : Nat) : Int) ≤ (k : Int) := by omega
  have u : IntKind.i64.wrap ((at' : Int) + (nn : Int)) = ((at' + nn : Nat) : Int) := by rw [IntKind.wrap_i64]; omega
  refine wp_region_still_tail 14 (by kernel_rfl) (by kernel_rfl) ?_
  simp only [List.take_succ_cons, List.take_zero, List.drop_succ_cons, List.drop_zero]
  repeat still_step
  refine wpStill_nil ?_
  change wpList _ _ _ _ _ W1.drew
  have t2 : Tk m W1 W1.drew := Tk.of (Below.refl _ _).drew b1.lt
  have b2 := b1.drew
  have CL : Hid (Calls _ _ _ _ _) := clone_any nn l HL.out (by omega) (some ⟨b, off + at', none⟩) (k - at') W1.drew (HR1.out.below (Below.refl _ _).drew)
  have t12 := t1.trans t2
  have hsz2 : w.heap.size ≤ W1.drew.heap.size := t12.bl.size
  clear b1 HR1 t1 t2 u d0 d1
  generalize W1.drew = W2 at *
  by_cases hk0 : k = at'
  · obtain rfl : nn = 0 := by omega
    have hl0 : l = [] := List.eq_nil_of_length_eq_zero HL.out
    have HC : Hid (∀ (ad : Option Addr) (cp : Nat), Calls _ _ _ _ _) := fun ad cp => clone_any 0 l HL.out (by omega) ad cp W2 (.inl hl0)
    clear hl0
    go_wp2_with fail
    refine (HC.out _ _).mono ?_
    rintro e W3 ⟨⟨a', k', rfl, rf⟩, hb3⟩
    have t3 := t12.trans (Tk.of hb3 b2.lt)
    have b3 := b2.below b2.lt hb3
    have RF : Hid (RowF w.heap.size W3 a' l) := rf.mono hsz2
    clear CL rf t12 b2 hb3
    have d1 := (b3.cell 1).trans (show _ = some (.int .i64 (at' : Int)) from rfl)
    have f1 := b3.free 1
    go_wp2
    go_ret
    have hm : m < w.heap.size := HM.out
    refine ⟨a', k', rfl, RF.out.put hm _ _, ?_, t3.trans (Tk.set W3 1 _)⟩
    exact b3.set 1 _
  · go_wp2_with fail
    refine CL.out.mono ?_
    rintro e W3 ⟨⟨a', k', rfl, rf⟩, hb3⟩
    have t3 := t12.trans (Tk.of hb3 b2.lt)
    have b3 := b2.below b2.lt hb3
    have RF : Hid (RowF w.heap.size W3 a' l) := rf.mono hsz2
    clear CL rf t12 b2 hb3
    have d1 := (b3.cell 1).trans (show _ = some (.int .i64 (at' : Int)) from rfl)
    have f1 := b3.free 1
    go_wp2
    go_ret
    have hm : m < w.heap.size := HM.out
    refine ⟨a', k', rfl, RF.out.put hm _ _, ?_, t3.trans (Tk.set W3 1 _)⟩
    exact b3.set 1 _
end Go.Proofs.YtpdbndkckioamaaDoor
namespace Go.Proofs.YtpdbndkckioamaaDoor
open Go.RowKit
/-- The header's block, and a cartridge in the making. -/
structure Nf (w : World) (hs : Array Value) (g : Nat) (a : Array Value) (W : World) : Prop where
  b : Blk W w.heap.size hs 67
  c : Blk W g a 25
  hg : g < w.heap.size
  tk : Tk g w W
theorem Nf.put {w W : World} {hs a a' : Array Value} {g : Nat} (K : Nf w hs g a W) (i : Nat) (v : Value) (e : a.setIfInBounds i v = a') : Nf w hs g a' (W.setCell ⟨g, i, none⟩ v) :=
  ⟨K.b.other (by have := K.hg; omega) i v, e ▸ K.c.set i v, K.hg, K.tk.trans (Tk.set W i v)⟩
theorem Nf.drew {w W : World} {hs a : Array Value} {g : Nat} (K : Nf w hs g a W) : Nf w hs g a W.drew := ⟨K.b.drew, K.c.drew, K.hg, K.tk.trans ⟨(Below.refl _ _).drew, fun _ _ _ => rfl⟩⟩
/-- The cells of a cartridge without lists. -/
def cN (c : CF) : Array Value := #[.int .i64 c.fmt, .int .i64 c.map, .int .i64 c.sub, .bool c.vert, .bool c.four, .bool c.bat, .int .i64 c.con, .int .i64 c.kind, .int .i64 c.tim, .int .i64 c.dev, .int .i64 c.misc, .int .i64 c.pr, .int .i64 c.pn, .int .i64 c.cr, .int .i64 c.cn, .slice none 0 0, .slice none 0 0, .slice none 0 0, .slice none 0 0]
set_option maxRecDepth 100000 in
set_option maxHeartbeats 3200000 in
theorem nes2_any (hs : Array Value) (c : CF) (x : HN) (b4 b5 b6 b7 b8 b9 b10 b11 : Nat) (X : Hb c x) (f2 : x.f = 2) (Y : Hy c x b4 b5 b6 b7 b8 b9 b10 b11) (HH0 : hs = (vals (lh x b4 b5 b6 b7 b8 b9 b10 b11)).toArray) (w : World) (g y : Nat) (hy0 : x.m % 16 = y) (bg : Blk w g #[.int .i64 2, .int .i64 (y : Nat), .int .i64 0, .bool c.vert, .bool c.four, .bool c.bat, .int .i64 0, .int .i64 0, .int .i64 0, .int .i64 0, .int .i64 0, .int .i64 0, .int .i64 0, .int .i64 0, .int .i64 0, .slice none 0 0, .slice none 0 0, .slice none 0 0, .slice none 0 0] 25) :
    Calls Tryd.prog 61 #[.agg hs, .pointer (some ⟨g, 0, none⟩)] w fun e w' => ∃ v, e = .returned v ∧ Blk w' g (cN c) 25 ∧ Tk g w w' := by
  have HH : Hid (hs = _) := HH0
  clear HH0
  have hsz : hs.size = 16 := by rw [HH.out]; rfl
  have HSZ : Hid (hs.size = 16) := hsz
  go_enter Tryd.func61, Tryd.ntmps61
  go_upto_region 1 with fail
  have K0 : Nf w hs g #[.int .i64 2, .int .i64 (y : Nat), .int .i64 0, .bool c.vert, .bool c.four, .bool c.bat, .int .i64 0, .int .i64 0, .int .i64 0, .int .i64 0, .int .i64 0, .int .i64 0, .int .i64 0, .int .i64 0, .int .i64 0, .slice none 0 0, .slice none 0 0, .slice none 0 0, .slice none 0 0] (w.alloc (.cells hs 67)) :=
    ⟨Blk.new w hs _, bg.old _, bg.lt, Tk.of ((Below.refl _ _).alloc (Nat.le_refl _) _) bg.lt⟩
  generalize w.alloc (.cells hs 67) = W0 at *
  clear hsz bg
  have Hm := X.m
  have HY0 : Hid (x.m % 16 = y) := hy0
  clear hy0
  have c7 := (K0.b.cell 7).trans (show hs[7]? = some (.int .u8 ((b7 : Nat) : Int)) by rw [HH.out]; rfl)
  have c8 := (K0.b.cell 8).trans (show hs[8]? = some (.int .u8 ((b8 : Nat) : Int)) by rw [HH.out]; rfl)
  have f240 := Y.f240
  have m8a := Y.m8a
  obtain ⟨o1, o2⟩ := map_or x.m Hm
  rw [HY0.out] at o2
  have l1 : x.m / 16 % 16 * 16 < 256 := by omega
  have l2 : x.m / 256 < 16 := by omega
  have u1 : IntKind.i64.wrap ((x.m / 16 % 16 * 16 : Nat) : Int) = ((x.m / 16 % 16 * 16 : Nat) : Int) := by rw [IntKind.wrap_i64]; omega
  have u2 : IntKind.i64.wrap ((x.m / 256 : Nat) : Int) = ((x.m / 256 : Nat) : Int) := by rw [IntKind.wrap_i64]; omega
  have u3 : IntKind.i64.wrap (((x.m / 256 : Nat) : Int) * 256) = ((x.m / 256 * 256 : Nat) : Int) := by rw [IntKind.wrap_i64]; omega
  generalize x.m / 16 % 16 * 16 = z16 at *
  generalize x.m / 256 * 256 = mb at *
  generalize x.m / 256 = mh at *
  generalize x.m / 16 * 16 = mt at *
  have dh := (K0.c.cell 1).trans (show _ = some (.int .i64 ((y : Nat) : Int)) from rfl)
  have fh := K0.c.free 1
  refine wp_region_still_tail 17 (by kernel_rfl) (by kernel_rfl) ?_
  simp only [List.take_succ_cons, List.take_zero, List.drop_succ_cons, List.drop_zero]
  repeat still_step
  refine wpStill_nil ?_
  change wpList _ _ _ _ _ W0.drew
  have K1 := K0.drew
  clear K0 dh fh c7 c8 f240 m8a o1 o2 l1 l2 u1 u2 u3
  generalize W0.drew = W1 at *
  have dh := (K1.c.cell 1).trans (show _ = some (.int .i64 ((y : Nat) : Int)) from rfl)
  have fh := K1.c.free 1
  go_upto_region 2 with fail
  have K2 : Nf w hs g #[.int .i64 2, .int .i64 ((x.m : Nat) : Int), .int .i64 0, .bool c.vert, .bool c.four, .bool c.bat, .int .i64 0, .int .i64 0, .int .i64 0, .int .i64 0, .int .i64 0, .int .i64 0, .int .i64 0, .int .i64 0, .int .i64 0, .slice none 0 0, .slice none 0 0, .slice none 0 0, .slice none 0 0] (W1.setCell ⟨g, 1, none⟩ (.int .i64 ((x.m : Nat) : Int))) := K1.put 1 (.int .i64 ((x.m : Nat) : Int)) rfl
  clear K1 dh fh
  generalize W1.setCell ⟨g, 1, none⟩ (.int .i64 ((x.m : Nat) : Int)) = W2 at *
  have c8 := (K2.b.cell 8).trans (show hs[8]? = some (.int .u8 ((b8 : Nat) : Int)) by rw [HH.out]; rfl)
  have f1 := Y.m8b
  have f2' := Y.l8
  have f3' := X.s
  have dh := (K2.c.cell 2).trans (show _ = some (.int .i64 0) from rfl)
  have fh := K2.c.free 2
  go_upto_region 3 with fail
  have K3 : Nf w hs g #[.int .i64 2, .int .i64 ((x.m : Nat) : Int), .int .i64 ((x.s : Nat) : Int), .bool c.vert, .bool c.four, .bool c.bat, .int .i64 0, .int .i64 0, .int .i64 0, .int .i64 0, .int .i64 0, .int .i64 0, .int .i64 0, .int .i64 0, .int .i64 0, .slice none 0 0, .slice none 0 0, .slice none 0 0, .slice none 0 0] (W2.setCell ⟨g, 2, none⟩ (.int .i64 ((x.s : Nat) : Int))) := K2.put 2 (.int .i64 ((x.s : Nat) : Int)) rfl
  clear K2 dh fh
  generalize W2.setCell ⟨g, 2, none⟩ (.int .i64 ((x.s : Nat) : Int)) = W3 at *
  clear c8 f1 f2' f3'
  have c7 := (K3.b.cell 7).trans (show hs[7]? = some (.int .u8 ((b7 : Nat) : Int)) by rw [HH.out]; rfl)
  have f1 := Y.f3
  have f2' := X.k
  have dh := (K3.c.cell 6).trans (show _ = some (.int .i64 0) from rfl)
  have fh := K3.c.free 6
  go_upto_region 4 with fail
  have K4 : Nf w hs g #[.int .i64 2, .int .i64 ((x.m : Nat) : Int), .int .i64 ((x.s : Nat) : Int), .bool c.vert, .bool c.four, .bool c.bat, .int .i64 ((x.k : Nat) : Int), .int .i64 0, .int .i64 0, .int .i64 0, .int .i64 0, .int .i64 0, .int .i64 0, .int .i64 0, .int .i64 0, .slice none 0 0, .slice none 0 0, .slice none 0 0, .slice none 0 0] (W3.setCell ⟨g, 6, none⟩ (.int .i64 ((x.k : Nat) : Int))) := K3.put 6 (.int .i64 ((x.k : Nat) : Int)) rfl
  clear K3 dh fh
  generalize W3.setCell ⟨g, 6, none⟩ (.int .i64 ((x.k : Nat) : Int)) = W4 at *
  clear c7 f1 f2'
  have c13 := (K4.b.cell 13).trans (show hs[13]? = some (.int .u8 ((x.kd : Nat) : Int)) by rw [HH.out]; rfl)
  have f1 := X.kd
  have dh := (K4.c.cell 7).trans (show _ = some (.int .i64 0) from rfl)
  have fh := K4.c.free 7
  go_upto_region 5 with fail
  have K5 : Nf w hs g #[.int .i64 2, .int .i64 ((x.m : Nat) : Int), .int .i64 ((x.s : Nat) : Int), .bool c.vert, .bool c.four, .bool c.bat, .int .i64 ((x.k : Nat) : Int), .int .i64 ((x.kd : Nat) : Int), .int .i64 0, .int .i64 0, .int .i64 0, .int .i64 0, .int .i64 0, .int .i64 0, .int .i64 0, .slice none 0 0, .slice none 0 0, .slice none 0 0, .slice none 0 0] (W4.setCell ⟨g, 7, none⟩ (.int .i64 ((x.kd : Nat) : Int))) := K4.put 7 (.int .i64 ((x.kd : Nat) : Int)) rfl
  clear K4 dh fh
  generalize W4.setCell ⟨g, 7, none⟩ (.int .i64 ((x.kd : Nat) : Int)) = W5 at *
  clear c13 f1
  have c12 := (K5.b.cell 12).trans (show hs[12]? = some (.int .u8 ((x.t : Nat) : Int)) by rw [HH.out]; rfl)
  have f1 := (low_bits.1 x.t X.t).1
  have f2' := X.t
  have dh := (K5.c.cell 8).trans (show _ = some (.int .i64 0) from rfl)
  have fh := K5.c.free 8
  go_upto_region 6 with fail
  have K6 : Nf w hs g #[.int .i64 2, .int .i64 ((x.m : Nat) : Int), .int .i64 ((x.s : Nat) : Int), .bool c.vert, .bool c.four, .bool c.bat, .int .i64 ((x.k : Nat) : Int), .int .i64 ((x.kd : Nat) : Int), .int .i64 ((x.t : Nat) : Int), .int .i64 0, .int .i64 0, .int .i64 0, .int .i64 0, .int .i64 0, .int .i64 0, .slice none 0 0, .slice none 0 0, .slice none 0 0, .slice none 0 0] (W5.setCell ⟨g, 8, none⟩ (.int .i64 ((x.t : Nat) : Int))) := K5.put 8 (.int .i64 ((x.t : Nat) : Int)) rfl
  clear K5 dh fh
  generalize W5.setCell ⟨g, 8, none⟩ (.int .i64 ((x.t : Nat) : Int)) = W6 at *
  clear c12 f1 f2'
  have c15 := (K6.b.cell 15).trans (show hs[15]? = some (.int .u8 ((x.d : Nat) : Int)) by rw [HH.out]; rfl)
  have f1 := (low_bits.2 x.d X.d).1
  have f2' := X.d
  have dh := (K6.c.cell 9).trans (show _ = some (.int .i64 0) from rfl)
  have fh := K6.c.free 9
  go_upto_region 7 with fail
  have K7 : Nf w hs g #[.int .i64 2, .int .i64 ((x.m : Nat) : Int), .int .i64 ((x.s : Nat) : Int), .bool c.vert, .bool c.four, .bool c.bat, .int .i64 ((x.k : Nat) : Int), .int .i64 ((x.kd : Nat) : Int), .int .i64 ((x.t : Nat) : Int), .int .i64 ((x.d : Nat) : Int), .int .i64 0, .int .i64 0, .int .i64 0, .int .i64 0, .int .i64 0, .slice none 0 0, .slice none 0 0, .slice none 0 0, .slice none 0 0] (W6.setCell ⟨g, 9, none⟩ (.int .i64 ((x.d : Nat) : Int))) := K6.put 9 (.int .i64 ((x.d : Nat) : Int)) rfl
  clear K6 dh fh
  generalize W6.setCell ⟨g, 9, none⟩ (.int .i64 ((x.d : Nat) : Int)) = W7 at *
  clear c15 f1 f2'
  have c14 := (K7.b.cell 14).trans (show hs[14]? = some (.int .u8 ((x.mi : Nat) : Int)) by rw [HH.out]; rfl)
  have f1 := (low_bits.1 x.mi X.mi).1
  have f2' := X.mi
  have dh := (K7.c.cell 10).trans (show _ = some (.int .i64 0) from rfl)
  have fh := K7.c.free 10
  go_upto_region 8 with fail
  have K8 : Nf w hs g #[.int .i64 2, .int .i64 ((x.m : Nat) : Int), .int .i64 ((x.s : Nat) : Int), .bool c.vert, .bool c.four, .bool c.bat, .int .i64 ((x.k : Nat) : Int), .int .i64 ((x.kd : Nat) : Int), .int .i64 ((x.t : Nat) : Int), .int .i64 ((x.d : Nat) : Int), .int .i64 ((x.mi : Nat) : Int), .int .i64 0, .int .i64 0, .int .i64 0, .int .i64 0, .slice none 0 0, .slice none 0 0, .slice none 0 0, .slice none 0 0] (W7.setCell ⟨g, 10, none⟩ (.int .i64 ((x.mi : Nat) : Int))) := K7.put 10 (.int .i64 ((x.mi : Nat) : Int)) rfl
  clear K7 dh fh
  generalize W7.setCell ⟨g, 10, none⟩ (.int .i64 ((x.mi : Nat) : Int)) = W8 at *
  clear c14 f1 f2'
  obtain ⟨⟨r1, z1⟩, ⟨r2, z2⟩, ⟨r3, z3⟩, ⟨r4, z4⟩⟩ := X.r f2
  have c10 := (K8.b.cell 10).trans (show hs[10]? = some (.int .u8 ((b10 : Nat) : Int)) by rw [HH.out]; rfl)
  have f1 := Y.r10a
  have f2' := Y.l10
  have RC : Hid (∀ W : World, Calls _ _ _ _ _) := fun W => ramSize_any x.a1 z1 W
  have HR : Hid (ramV x.a1 = rz x.a1) := rfl
  rw [HR.out] at RC
  generalize hrz : rz x.a1 = q11 at RC
  have HQ11 : Hid (rz x.a1 = q11) := hrz
  clear hrz HR
  go_wp2_with fail
  refine (RC.out W8).mono ?_
  rintro e W8 ⟨rfl, rfl⟩
  have dh := (K8.c.cell 11).trans (show _ = some (.int .i64 0) from rfl)
  have fh := K8.c.free 11
  go_upto_region 9 with fail
  have K9 : Nf w hs g #[.int .i64 2, .int .i64 ((x.m : Nat) : Int), .int .i64 ((x.s : Nat) : Int), .bool c.vert, .bool c.four, .bool c.bat, .int .i64 ((x.k : Nat) : Int), .int .i64 ((x.kd : Nat) : Int), .int .i64 ((x.t : Nat) : Int), .int .i64 ((x.d : Nat) : Int), .int .i64 ((x.mi : Nat) : Int), .int .i64 ((q11 : Nat) : Int), .int .i64 0, .int .i64 0, .int .i64 0, .slice none 0 0, .slice none 0 0, .slice none 0 0, .slice none 0 0] (W8.setCell ⟨g, 11, none⟩ (.int .i64 ((q11 : Nat) : Int))) := K8.put 11 (.int .i64 ((q11 : Nat) : Int)) rfl
  clear K8 dh fh
  generalize W8.setCell ⟨g, 11, none⟩ (.int .i64 ((q11 : Nat) : Int)) = W9 at *
  clear c10 f1 f2' RC
  have c10 := (K9.b.cell 10).trans (show hs[10]? = some (.int .u8 ((b10 : Nat) : Int)) by rw [HH.out]; rfl)
  have f1 := Y.r10b
  have f2' := Y.l10
  have RC : Hid (∀ W : World, Calls _ _ _ _ _) := fun W => ramSize_any x.a2 z2 W
  have HR : Hid (ramV x.a2 = rz x.a2) := rfl
  rw [HR.out] at RC
  generalize hrz : rz x.a2 = q12 at RC
  have HQ12 : Hid (rz x.a2 = q12) := hrz
  clear hrz HR
  go_wp2_with fail
  refine (RC.out W9).mono ?_
  rintro e W9 ⟨rfl, rfl⟩
  have dh := (K9.c.cell 12).trans (show _ = some (.int .i64 0) from rfl)
  have fh := K9.c.free 12
  go_upto_region 10 with fail
  have K10 : Nf w hs g #[.int .i64 2, .int .i64 ((x.m : Nat) : Int), .int .i64 ((x.s : Nat) : Int), .bool c.vert, .bool c.four, .bool c.bat, .int .i64 ((x.k : Nat) : Int), .int .i64 ((x.kd : Nat) : Int), .int .i64 ((x.t : Nat) : Int), .int .i64 ((x.d : Nat) : Int), .int .i64 ((x.mi : Nat) : Int), .int .i64 ((q11 : Nat) : Int), .int .i64 ((q12 : Nat) : Int), .int .i64 0, .int .i64 0, .slice none 0 0, .slice none 0 0, .slice none 0 0, .slice none 0 0] (W9.setCell ⟨g, 12, none⟩ (.int .i64 ((q12 : Nat) : Int))) := K9.put 12 (.int .i64 ((q12 : Nat) : Int)) rfl
  clear K9 dh fh
  generalize W9.setCell ⟨g, 12, none⟩ (.int .i64 ((q12 : Nat) : Int)) = W10 at *
  clear c10 f1 f2' RC
  have c11 := (K10.b.cell 11).trans (show hs[11]? = some (.int .u8 ((b11 : Nat) : Int)) by rw [HH.out]; rfl)
  have f1 := Y.r11a
  have f2' := Y.l11
  have RC : Hid (∀ W : World, Calls _ _ _ _ _) := fun W => ramSize_any x.a3 z3 W
  have HR : Hid (ramV x.a3 = rz x.a3) := rfl
  rw [HR.out] at RC
  generalize hrz : rz x.a3 = q13 at RC
  have HQ13 : Hid (rz x.a3 = q13) := hrz
  clear hrz HR
  go_wp2_with fail
  refine (RC.out W10).mono ?_
  rintro e W10 ⟨rfl, rfl⟩
  have dh := (K10.c.cell 13).trans (show _ = some (.int .i64 0) from rfl)
  have fh := K10.c.free 13
  go_upto_region 11 with fail
  have K11 : Nf w hs g #[.int .i64 2, .int .i64 ((x.m : Nat) : Int), .int .i64 ((x.s : Nat) : Int), .bool c.vert, .bool c.four, .bool c.bat, .int .i64 ((x.k : Nat) : Int), .int .i64 ((x.kd : Nat) : Int), .int .i64 ((x.t : Nat) : Int), .int .i64 ((x.d : Nat) : Int), .int .i64 ((x.mi : Nat) : Int), .int .i64 ((q11 : Nat) : Int), .int .i64 ((q12 : Nat) : Int), .int .i64 ((q13 : Nat) : Int), .int .i64 0, .slice none 0 0, .slice none 0 0, .slice none 0 0, .slice none 0 0] (W10.setCell ⟨g, 13, none⟩ (.int .i64 ((q13 : Nat) : Int))) := K10.put 13 (.int .i64 ((q13 : Nat) : Int)) rfl
  clear K10 dh fh
  generalize W10.setCell ⟨g, 13, none⟩ (.int .i64 ((q13 : Nat) : Int)) = W11 at *
  clear c11 f1 f2' RC
  have c11 := (K11.b.cell 11).trans (show hs[11]? = some (.int .u8 ((b11 : Nat) : Int)) by rw [HH.out]; rfl)
  have f1 := Y.r11b
  have f2' := Y.l11
  have RC : Hid (∀ W : World, Calls _ _ _ _ _) := fun W => ramSize_any x.a4 z4 W
  have HR : Hid (ramV x.a4 = rz x.a4) := rfl
  rw [HR.out] at RC
  generalize hrz : rz x.a4 = q14 at RC
  have HQ14 : Hid (rz x.a4 = q14) := hrz
  clear hrz HR
  go_wp2_with fail
  refine (RC.out W11).mono ?_
  rintro e W11 ⟨rfl, rfl⟩
  have dh := (K11.c.cell 14).trans (show _ = some (.int .i64 0) from rfl)
  have fh := K11.c.free 14
  go_wp2
  have K : Nf w hs g #[.int .i64 2, .int .i64 ((x.m : Nat) : Int), .int .i64 ((x.s : Nat) : Int), .bool c.vert, .bool c.four, .bool c.bat, .int .i64 ((x.k : Nat) : Int), .int .i64 ((x.kd : Nat) : Int), .int .i64 ((x.t : Nat) : Int), .int .i64 ((x.d : Nat) : Int), .int .i64 ((x.mi : Nat) : Int), .int .i64 ((q11 : Nat) : Int), .int .i64 ((q12 : Nat) : Int), .int .i64 ((q13 : Nat) : Int), .int .i64 ((q14 : Nat) : Int), .slice none 0 0, .slice none 0 0, .slice none 0 0, .slice none 0 0] (W11.setCell ⟨g, 14, none⟩ (.int .i64 ((q14 : Nat) : Int))) := K11.put 14 _ rfl
  have e : cN c = #[.int .i64 2, .int .i64 ((x.m : Nat) : Int), .int .i64 ((x.s : Nat) : Int), .bool c.vert, .bool c.four, .bool c.bat, .int .i64 ((x.k : Nat) : Int), .int .i64 ((x.kd : Nat) : Int), .int .i64 ((x.t : Nat) : Int), .int .i64 ((x.d : Nat) : Int), .int .i64 ((x.mi : Nat) : Int), .int .i64 ((q11 : Nat) : Int), .int .i64 ((q12 : Nat) : Int), .int .i64 ((q13 : Nat) : Int), .int .i64 ((q14 : Nat) : Int), .slice none 0 0, .slice none 0 0, .slice none 0 0, .slice none 0 0] := by
    unfold cN
    rw [X.cf, f2, X.cm, X.cs, X.ck, X.ckd, X.ct, X.cd, X.cmi, r1, r2, r3, r4, HQ11.out, HQ12.out, HQ13.out, HQ14.out]
    rfl
  go_end0
  exact ⟨_, rfl, by rw [e]; exact K.c, K.tk⟩
end Go.Proofs.YtpdbndkckioamaaDoor
