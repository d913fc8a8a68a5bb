/-
  What the document's Write makes of every memory, register by register.
-/
import Derived.Test.YtecaipakaaongaaXVW
import Derived.Test.YtecaipakaaongaaXvRput
import Derived.Test.YtecaipakaaongaaXvSpr
import Derived.Test.YtecaipakaaongaaXvValid2
set_option linter.unusedSimpArgs false
set_option linter.unusedVariables false
namespace Go.Proofs.Ytecaipakaaongaa
open Go.RowKit Classical
theorem pokF_mod (f : Nat → Nat) (b : Bd) (a v : Nat) : pokF f b (a % 16384) v = pokF f b a v := by
  have e : entN (a % 16384) = entN a := by unfold entN; split <;> split <;> omega
  unfold pokF whr pkv
  rw [Nat.mod_mod_of_dvd a (show 16384 ∣ 16384 by decide), e, show a % 16384 % 1024 = a % 1024 by omega]
set_option maxRecDepth 100000 in
set_option maxHeartbeats 2000000 in
theorem rwrite_2 (cs : Array Value) (f : Nat → Nat) (F : Fok f) (V : Vid cs f) (b : Bd) (B : b.Wf) (hval : valF f b = true) (reg : Int) (hd : bits .and .i64 reg 7 = 2) (v : Nat) (hv : v < 256) (w : World) :
    Calls Try.prog 14 #[.agg cs, .agg b.cells, .int .i64 reg, .int .u8 (v : Nat)] w fun e w' => ∃ cs', e = .returned (.agg cs') ∧ Vid cs' (upd f 12584 v) ∧ Below w.heap.size w w' := by
  obtain ⟨fv, ft, vb⟩ := valF_facts hval
  have F2 : Hid (Fok (upd f 12584 v)) := F.io' v hv
  have C := isB b B.rlen
  have VA := fun (W : World) => rvalid8_any cs f F V b B W
  have VS1 : Hid (cs.size = 12585) := V.1
  rw [hval] at VA
  have HV : Hid (Vid cs f) := V
  clear F2
  clear B hval F V
  generalize b.cells = bc at *
  have hbs : Hid (bc.size = 31) := C.size
  clear C
  have IB : Hid ((Try.prog.info? 37).map (·.size) = some 31) := (by kernel_rfl : (Try.prog.info? 37).map (·.size) = some 31)
  have I8 : Hid ((Try.prog.info? 28).map (·.size) = some 12585) := Try.infoVid
  go_enter Try.func14, Try.ntmps14
  go_upto_region 1 with fail
  obtain ⟨B0, BB, Z0, L0⟩ := three w cs bc Try.zeroCells28 28 37 28
  generalize (((w.alloc (.cells cs 28)).alloc (.cells bc 37)).alloc (.cells Try.zeroCells28 28)) = W at *
  go_upto_region 3 with (first
    | (refine wpList_load_want (by rfl) 37 _ rfl (w.heap.size + 1) 0 rfl bc.toList _ (Blk.range' BB.out) Try.underlying37 rfl (by rw [Array.length_toList, hbs.out]; exact IB.out) ?_; rw [Array.toArray_toList])
    | (refine wpList_load_blk rfl 28 _ rfl w.heap.size rfl cs _ B0.out Try.underlying28 rfl (by rw [VS1.out]; exact I8.out) ?_)
    | (go_at_call 12; refine (VA _).mono ?_; rintro e w1 ⟨rfl, hbw⟩; have L1 : Hid (Below w.heap.size w w1) := L0.out.trans (hbw.mono (Nat.le_of_lt (Blk.lt B0.out))); have B1 : Hid (Blk w1 w.heap.size cs 28) := B0.out.below (Blk.lt B0.out) hbw; have BB1 : Hid (Blk w1 (w.heap.size + 1) bc 37) := BB.out.below (Blk.lt BB.out) hbw; have Z1 : Hid (Blk w1 (w.heap.size + 1 + 1) Try.zeroCells28 28) := Z0.out.below (Blk.lt Z0.out) hbw; have fr := B1.out.free 12584; obtain ⟨y, c2⟩ : ∃ y : Nat, w1.cell? ⟨w.heap.size, 12584, none⟩ = some (.int .u8 y) := ⟨_, (B1.out.cell _).trans (HV.out.2 12584 (by decide))⟩; clear hbw B0 BB Z0 L0 VA))
  go_upto_region 4 with fail
  have Z2 : Hid (Blk (w1.setCell ⟨w.heap.size, 12584, none⟩ (.int .u8 (v : Nat))) (w.heap.size + 1 + 1) Try.zeroCells28 28) := Z1.out.other (by omega) 12584 _
  have BB2 : Hid (Blk (w1.setCell ⟨w.heap.size, 12584, none⟩ (.int .u8 (v : Nat))) (w.heap.size + 1) bc 37) := BB1.out.other (by omega) 12584 _
  have B2 : Hid (Blk (w1.setCell ⟨w.heap.size, 12584, none⟩ (.int .u8 (v : Nat))) w.heap.size (cs.setIfInBounds 12584 (.int .u8 (v : Nat))) 28) := B1.out.set 12584 _
  have L2 : Hid (Below w.heap.size w (w1.setCell ⟨w.heap.size, 12584, none⟩ (.int .u8 (v : Nat)))) := L1.out.setCell (p := ⟨w.heap.size, 12584, none⟩) (Nat.le_refl _) _
  have V2 : Hid (Vid (cs.setIfInBounds 12584 (.int .u8 (v : Nat))) (upd f 12584 v)) := HV.out.set 12584 v _ rfl
  generalize (w1.setCell ⟨w.heap.size, 12584, none⟩ (.int .u8 (v : Nat))) = w2 at *
  generalize (cs.setIfInBounds 12584 (.int .u8 (v : Nat))) = cs2 at *
  clear B1 BB1 Z1 L1 c2 fr HV
  generalize hf2 : upd f 12584 v = f2 at *
  have HF : Hid (upd f 12584 v = f2) := hf2
  clear hf2
  go_upto_region 20 with fail
  have Z3 := Z2
  have B3 := B2
  have L3 := L2
  have V3 := V2
  clear Z2 B2 L2 V2
  generalize w2 = w3 at *
  generalize cs2 = cs3 at *
  have VS : Hid (cs3.size = 12585) := V3.out.1
  have O3 : Hid (cs3.all (·.oneCell') = true) := V3.out.one
  go_wp2_with (first
        | (refine wpList_load_blk rfl 28 _ rfl w.heap.size rfl cs3 _ B3.out Try.underlying28 rfl (by rw [VS.out]; exact I8.out) ?_)
        | (refine wpList_store_blk rfl 28 _ _ rfl (w.heap.size + 1 + 1) Try.zeroCells28 cs3 28 rfl rfl Z3.out (VS.out.trans Try.zeroCells28_size.symm) (by rw [VS.out]; exact I8.out) O3.out w.heap.size w (by omega) L3.out ?_; intro w4 B4 L4 _))
  exact ret_vid Try.results14 rfl rfl B4 Try.underlying28 rfl (by rw [VS.out]; exact I8.out) ⟨cs3, rfl, by rw [HF.out]; exact V3.out, L4⟩
set_option maxRecDepth 100000 in
set_option maxHeartbeats 2000000 in
theorem rwrite_3 (cs : Array Value) (f : Nat → Nat) (F : Fok f) (V : Vid cs f) (b : Bd) (B : b.Wf) (hval : valF f b = true) (reg : Int) (hd : bits .and .i64 reg 7 = 3) (v : Nat) (hv : v < 256) (w : World) :
    Calls Try.prog 14 #[.agg cs, .agg b.cells, .int .i64 reg, .int .u8 (v : Nat)] w fun e w' => ∃ cs', e = .returned (.agg cs') ∧ Vid cs' (upd (upd f 12584 v) 256 v) ∧ Below w.heap.size w w' := by
  obtain ⟨fv, ft, vb⟩ := valF_facts hval
  have F2 : Hid (Fok (upd f 12584 v)) := F.io' v hv
  have C := isB b B.rlen
  have VA := fun (W : World) => rvalid8_any cs f F V b B W
  have VS1 : Hid (cs.size = 12585) := V.1
  rw [hval] at VA
  have HV : Hid (Vid cs f) := V
  clear F2
  clear B hval F V
  generalize b.cells = bc at *
  have hbs : Hid (bc.size = 31) := C.size
  clear C
  have IB : Hid ((Try.prog.info? 37).map (·.size) = some 31) := (by kernel_rfl : (Try.prog.info? 37).map (·.size) = some 31)
  have I8 : Hid ((Try.prog.info? 28).map (·.size) = some 12585) := Try.infoVid
  go_enter Try.func14, Try.ntmps14
  go_upto_region 1 with fail
  obtain ⟨B0, BB, Z0, L0⟩ := three w cs bc Try.zeroCells28 28 37 28
  generalize (((w.alloc (.cells cs 28)).alloc (.cells bc 37)).alloc (.cells Try.zeroCells28 28)) = W at *
  go_upto_region 3 with (first
    | (refine wpList_load_want (by rfl) 37 _ rfl (w.heap.size + 1) 0 rfl bc.toList _ (Blk.range' BB.out) Try.underlying37 rfl (by rw [Array.length_toList, hbs.out]; exact IB.out) ?_; rw [Array.toArray_toList])
    | (refine wpList_load_blk rfl 28 _ rfl w.heap.size rfl cs _ B0.out Try.underlying28 rfl (by rw [VS1.out]; exact I8.out) ?_)
    | (go_at_call 12; refine (VA _).mono ?_; rintro e w1 ⟨rfl, hbw⟩; have L1 : Hid (Below w.heap.size w w1) := L0.out.trans (hbw.mono (Nat.le_of_lt (Blk.lt B0.out))); have B1 : Hid (Blk w1 w.heap.size cs 28) := B0.out.below (Blk.lt B0.out) hbw; have BB1 : Hid (Blk w1 (w.heap.size + 1) bc 37) := BB.out.below (Blk.lt BB.out) hbw; have Z1 : Hid (Blk w1 (w.heap.size + 1 + 1) Try.zeroCells28 28) := Z0.out.below (Blk.lt Z0.out) hbw; have fr := B1.out.free 12584; obtain ⟨y, c2⟩ : ∃ y : Nat, w1.cell? ⟨w.heap.size, 12584, none⟩ = some (.int .u8 y) := ⟨_, (B1.out.cell _).trans (HV.out.2 12584 (by decide))⟩; clear hbw B0 BB Z0 L0 VA))
  go_upto_region 4 with fail
  have Z2 : Hid (Blk (w1.setCell ⟨w.heap.size, 12584, none⟩ (.int .u8 (v : Nat))) (w.heap.size + 1 + 1) Try.zeroCells28 28) := Z1.out.other (by omega) 12584 _
  have BB2 : Hid (Blk (w1.setCell ⟨w.heap.size, 12584, none⟩ (.int .u8 (v : Nat))) (w.heap.size + 1) bc 37) := BB1.out.other (by omega) 12584 _
  have B2 : Hid (Blk (w1.setCell ⟨w.heap.size, 12584, none⟩ (.int .u8 (v : Nat))) w.heap.size (cs.setIfInBounds 12584 (.int .u8 (v : Nat))) 28) := B1.out.set 12584 _
  have L2 : Hid (Below w.heap.size w (w1.setCell ⟨w.heap.size, 12584, none⟩ (.int .u8 (v : Nat)))) := L1.out.setCell (p := ⟨w.heap.size, 12584, none⟩) (Nat.le_refl _) _
  have V2 : Hid (Vid (cs.setIfInBounds 12584 (.int .u8 (v : Nat))) (upd f 12584 v)) := HV.out.set 12584 v _ rfl
  generalize (w1.setCell ⟨w.heap.size, 12584, none⟩ (.int .u8 (v : Nat))) = w2 at *
  generalize (cs.setIfInBounds 12584 (.int .u8 (v : Nat))) = cs2 at *
  clear B1 BB1 Z1 L1 c2 fr HV
  generalize hf2 : upd f 12584 v = f2 at *
  have HF : Hid (upd f 12584 v = f2) := hf2
  clear hf2
  have fr := B2.out.free 256
  have cc := (B2.out.cell 256).trans (V2.out.byte 256 (by decide))
  go_upto_region 20 with fail
  clear cc fr
  have Z3 : Hid (Blk (w2.setCell ⟨w.heap.size, 256, none⟩ (.int .u8 (v : Nat))) (w.heap.size + 1 + 1) Try.zeroCells28 28) := (Blk.other (Z2.out) (by omega) 256 _)
  have B3 : Hid (Blk (w2.setCell ⟨w.heap.size, 256, none⟩ (.int .u8 (v : Nat))) w.heap.size (cs2.setIfInBounds 256 (.int .u8 (v : Nat))) 28) := (Blk.set (B2.out) 256 _)
  have L3 : Hid (Below w.heap.size w (w2.setCell ⟨w.heap.size, 256, none⟩ (.int .u8 (v : Nat)))) := (Below.setCell (p := ⟨w.heap.size, 256, none⟩) (L2.out) (Nat.le_refl _) _)
  have V3 : Hid (Vid (cs2.setIfInBounds 256 (.int .u8 (v : Nat))) (upd f2 256 v)) := (Vid.set (V2.out) 256 v _ (cel_b v (by decide)).symm)
  generalize (w2.setCell ⟨w.heap.size, 256, none⟩ (.int .u8 (v : Nat))) = w3 at *
  generalize (cs2.setIfInBounds 256 (.int .u8 (v : Nat))) = cs3 at *
  clear Z2 B2 L2 V2
  have VS : Hid (cs3.size = 12585) := V3.out.1
  have O3 : Hid (cs3.all (·.oneCell') = true) := V3.out.one
  go_wp2_with (first
        | (refine wpList_load_blk rfl 28 _ rfl w.heap.size rfl cs3 _ B3.out Try.underlying28 rfl (by rw [VS.out]; exact I8.out) ?_)
        | (refine wpList_store_blk rfl 28 _ _ rfl (w.heap.size + 1 + 1) Try.zeroCells28 cs3 28 rfl rfl Z3.out (VS.out.trans Try.zeroCells28_size.symm) (by rw [VS.out]; exact I8.out) O3.out w.heap.size w (by omega) L3.out ?_; intro w4 B4 L4 _))
  exact ret_vid Try.results14 rfl rfl B4 Try.underlying28 rfl (by rw [VS.out]; exact I8.out) ⟨cs3, rfl, by rw [HF.out]; exact V3.out, L4⟩
set_option maxRecDepth 100000 in
set_option maxHeartbeats 2000000 in
theorem rwrite_1a (cs : Array Value) (f : Nat → Nat) (F : Fok f) (V : Vid cs f) (b : Bd) (B : b.Wf) (hval : valF f b = true) (reg : Int) (hd : bits .and .i64 reg 7 = 1) (v : Nat) (hv : v < 256) (hm : v % 2 = 0) (w : World) :
    Calls Try.prog 14 #[.agg cs, .agg b.cells, .int .i64 reg, .int .u8 (v : Nat)] w fun e w' => ∃ cs', e = .returned (.agg cs') ∧ Vid cs' (upd (upd f 12584 v) 12582 0) ∧ Below w.heap.size w w' := by
  obtain ⟨fv, ft, vb⟩ := valF_facts hval
  have F2 : Hid (Fok (upd f 12584 v)) := F.io' v hv
  have C := isB b B.rlen
  have VA := fun (W : World) => rvalid8_any cs f F V b B W
  have VS1 : Hid (cs.size = 12585) := V.1
  rw [hval] at VA
  have HV : Hid (Vid cs f) := V
  have h1 : (v : Int).tmod 2 = 0 := by rw [Int.tmod_eq_emod_of_nonneg (by omega)]; omega
  clear F2
  clear B hval F V hm
  generalize b.cells = bc at *
  have hbs : Hid (bc.size = 31) := C.size
  clear C
  have IB : Hid ((Try.prog.info? 37).map (·.size) = some 31) := (by kernel_rfl : (Try.prog.info? 37).map (·.size) = some 31)
  have I8 : Hid ((Try.prog.info? 28).map (·.size) = some 12585) := Try.infoVid
  go_enter Try.func14, Try.ntmps14
  go_upto_region 1 with fail
  obtain ⟨B0, BB, Z0, L0⟩ := three w cs bc Try.zeroCells28 28 37 28
  generalize (((w.alloc (.cells cs 28)).alloc (.cells bc 37)).alloc (.cells Try.zeroCells28 28)) = W at *
  go_upto_region 3 with (first
    | (refine wpList_load_want (by rfl) 37 _ rfl (w.heap.size + 1) 0 rfl bc.toList _ (Blk.range' BB.out) Try.underlying37 rfl (by rw [Array.length_toList, hbs.out]; exact IB.out) ?_; rw [Array.toArray_toList])
    | (refine wpList_load_blk rfl 28 _ rfl w.heap.size rfl cs _ B0.out Try.underlying28 rfl (by rw [VS1.out]; exact I8.out) ?_)
    | (go_at_call 12; refine (VA _).mono ?_; rintro e w1 ⟨rfl, hbw⟩; have L1 : Hid (Below w.heap.size w w1) := L0.out.trans (hbw.mono (Nat.le_of_lt (Blk.lt B0.out))); have B1 : Hid (Blk w1 w.heap.size cs 28) := B0.out.below (Blk.lt B0.out) hbw; have BB1 : Hid (Blk w1 (w.heap.size + 1) bc 37) := BB.out.below (Blk.lt BB.out) hbw; have Z1 : Hid (Blk w1 (w.heap.size + 1 + 1) Try.zeroCells28 28) := Z0.out.below (Blk.lt Z0.out) hbw; have fr := B1.out.free 12584; obtain ⟨y, c2⟩ : ∃ y : Nat, w1.cell? ⟨w.heap.size, 12584, none⟩ = some (.int .u8 y) := ⟨_, (B1.out.cell _).trans (HV.out.2 12584 (by decide))⟩; clear hbw B0 BB Z0 L0 VA))
  go_upto_region 4 with fail
  have Z2 : Hid (Blk (w1.setCell ⟨w.heap.size, 12584, none⟩ (.int .u8 (v : Nat))) (w.heap.size + 1 + 1) Try.zeroCells28 28) := Z1.out.other (by omega) 12584 _
  have BB2 : Hid (Blk (w1.setCell ⟨w.heap.size, 12584, none⟩ (.int .u8 (v : Nat))) (w.heap.size + 1) bc 37) := BB1.out.other (by omega) 12584 _
  have B2 : Hid (Blk (w1.setCell ⟨w.heap.size, 12584, none⟩ (.int .u8 (v : Nat))) w.heap.size (cs.setIfInBounds 12584 (.int .u8 (v : Nat))) 28) := B1.out.set 12584 _
  have L2 : Hid (Below w.heap.size w (w1.setCell ⟨w.heap.size, 12584, none⟩ (.int .u8 (v : Nat)))) := L1.out.setCell (p := ⟨w.heap.size, 12584, none⟩) (Nat.le_refl _) _
  have V2 : Hid (Vid (cs.setIfInBounds 12584 (.int .u8 (v : Nat))) (upd f 12584 v)) := HV.out.set 12584 v _ rfl
  generalize (w1.setCell ⟨w.heap.size, 12584, none⟩ (.int .u8 (v : Nat))) = w2 at *
  generalize (cs.setIfInBounds 12584 (.int .u8 (v : Nat))) = cs2 at *
  clear B1 BB1 Z1 L1 c2 fr HV
  generalize hf2 : upd f 12584 v = f2 at *
  have HF : Hid (upd f 12584 v = f2) := hf2
  clear hf2
  have fr := B2.out.free 12582
  have cc : w2.cell? ⟨w.heap.size, 12582, none⟩ = some (.bool (f2 12582 != 0)) := (B2.out.cell _).trans (V2.out.2 12582 (by decide))
  generalize (f2 12582 != 0) = old at cc
  go_upto_region 20 with fail
  clear cc fr
  have Z3 : Hid (Blk (w2.setCell ⟨w.heap.size, 12582, none⟩ (.bool false)) (w.heap.size + 1 + 1) Try.zeroCells28 28) := (Blk.other (Z2.out) (by omega) 12582 _)
  have B3 : Hid (Blk (w2.setCell ⟨w.heap.size, 12582, none⟩ (.bool false)) w.heap.size (cs2.setIfInBounds 12582 (.bool false)) 28) := (Blk.set (B2.out) 12582 _)
  have L3 : Hid (Below w.heap.size w (w2.setCell ⟨w.heap.size, 12582, none⟩ (.bool false))) := (Below.setCell (p := ⟨w.heap.size, 12582, none⟩) (L2.out) (Nat.le_refl _) _)
  have V3 : Hid (Vid (cs2.setIfInBounds 12582 (.bool false)) (upd f2 12582 0)) := (Vid.set (V2.out) 12582 0 _ rfl)
  generalize (w2.setCell ⟨w.heap.size, 12582, none⟩ (.bool false)) = w3 at *
  generalize (cs2.setIfInBounds 12582 (.bool false)) = cs3 at *
  clear Z2 B2 L2 V2
  have VS : Hid (cs3.size = 12585) := V3.out.1
  have O3 : Hid (cs3.all (·.oneCell') = true) := V3.out.one
  go_wp2_with (first
        | (refine wpList_load_blk rfl 28 _ rfl w.heap.size rfl cs3 _ B3.out Try.underlying28 rfl (by rw [VS.out]; exact I8.out) ?_)
        | (refine wpList_store_blk rfl 28 _ _ rfl (w.heap.size + 1 + 1) Try.zeroCells28 cs3 28 rfl rfl Z3.out (VS.out.trans Try.zeroCells28_size.symm) (by rw [VS.out]; exact I8.out) O3.out w.heap.size w (by omega) L3.out ?_; intro w4 B4 L4 _))
  exact ret_vid Try.results14 rfl rfl B4 Try.underlying28 rfl (by rw [VS.out]; exact I8.out) ⟨cs3, rfl, by rw [HF.out]; exact V3.out, L4⟩
set_option maxRecDepth 100000 in
set_option maxHeartbeats 2000000 in
theorem rwrite_0a (cs : Array Value) (f : Nat → Nat) (F : Fok f) (V : Vid cs f) (b : Bd) (B : b.Wf) (hval : valF f b = true) (reg : Int) (hd : bits .and .i64 reg 7 = 0) (v : Nat) (hv : v < 256) (hm : v / 4 % 2 = 0) (w : World) :
    Calls Try.prog 14 #[.agg cs, .agg b.cells, .int .i64 reg, .int .u8 (v : Nat)] w fun e w' => ∃ cs', e = .returned (.agg cs') ∧ Vid cs' (upd (upd (upd f 12584 v) 12578 (f 12578 - f 12578 / 1024 % 4 * 1024 + v % 4 * 1024)) 12581 0) ∧ Below w.heap.size w w' := by
  obtain ⟨fv, ft, vb⟩ := valF_facts hval
  have F2 : Hid (Fok (upd f 12584 v)) := F.io' v hv
  have C := isB b B.rlen
  have VA := fun (W : World) => rvalid8_any cs f F V b B W
  have VS1 : Hid (cs.size = 12585) := V.1
  rw [hval] at VA
  have HV : Hid (Vid cs f) := V
  have h1 : bits .and .u8 (v : Int) 4 = 0 := by rw [and4V v hv, hm]; rfl
  obtain ⟨t, ht⟩ : ∃ t, t = f 12578 := ⟨_, rfl⟩
  have tb : t < 32768 := by omega
  obtain ⟨d, hd⟩ : ∃ d, d = t / 1024 := ⟨_, rfl⟩
  obtain ⟨d2, hd2⟩ : ∃ d2, d2 = d % 4 := ⟨_, rfl⟩
  obtain ⟨s2, hs2⟩ : ∃ s2, s2 = d2 * 1024 := ⟨_, rfl⟩
  obtain ⟨u, hu⟩ : ∃ u, u = t - s2 := ⟨_, rfl⟩
  obtain ⟨q, hq⟩ : ∃ q, q = v % 4 := ⟨_, rfl⟩
  obtain ⟨s3, hs3⟩ : ∃ s3, s3 = q * 1024 := ⟨_, rfl⟩
  obtain ⟨zz, hzz⟩ : ∃ zz, zz = u + s3 := ⟨_, rfl⟩
  have db : d < 65536 := by omega
  have d2b : d2 < 65536 := by omega
  have s2b : s2 < 65536 := by omega
  have ub : u < 65536 := by omega
  have qb : q < 65536 := by omega
  have s3b : s3 < 65536 := by omega
  have zzb : zz < 65536 := by omega
  have ed0 : (t : Int) / 1024 = (d : Int) := by omega
  have ed1 : (t : Int).tdiv 1024 = (d : Int) := by rw [Int.tdiv_eq_ediv_of_nonneg (by omega)]; omega
  have ed20 : (d : Int).tmod 4 = (d2 : Int) := by rw [Int.tmod_eq_emod_of_nonneg (by omega)]; omega
  have es20 : (d2 : Int) * 1024 = (s2 : Int) := by omega
  have eu0 : (t : Int) - (s2 : Int) = (u : Int) := by omega
  have eq0 : (v : Int).tmod 4 = (q : Int) := by rw [Int.tmod_eq_emod_of_nonneg (by omega)]; omega
  have es30 : (q : Int) * 1024 = (s3 : Int) := by omega
  have ezz0 : (u : Int) + (s3 : Int) = (zz : Int) := by omega
  have q8 : q < 256 := by omega
  have hz : f 12578 - f 12578 / 1024 % 4 * 1024 + v % 4 * 1024 = zz := by rw [← ht]; omega
  rw [hz]
  have T8 : Hid (upd f 12584 v 12578 = t) := (upd_ne _ _ (by decide)).trans ht.symm
  clear ft fv hz ht hm F2 hd hd2 hs2 hu hq hs3 hzz
  clear B hval F V
  generalize b.cells = bc at *
  have hbs : Hid (bc.size = 31) := C.size
  clear C
  have IB : Hid ((Try.prog.info? 37).map (·.size) = some 31) := (by kernel_rfl : (Try.prog.info? 37).map (·.size) = some 31)
  have I8 : Hid ((Try.prog.info? 28).map (·.size) = some 12585) := Try.infoVid
  go_enter Try.func14, Try.ntmps14
  go_upto_region 1 with fail
  obtain ⟨B0, BB, Z0, L0⟩ := three w cs bc Try.zeroCells28 28 37 28
  generalize (((w.alloc (.cells cs 28)).alloc (.cells bc 37)).alloc (.cells Try.zeroCells28 28)) = W at *
  go_upto_region 3 with (first
    | (refine wpList_load_want (by rfl) 37 _ rfl (w.heap.size + 1) 0 rfl bc.toList _ (Blk.range' BB.out) Try.underlying37 rfl (by rw [Array.length_toList, hbs.out]; exact IB.out) ?_; rw [Array.toArray_toList])
    | (refine wpList_load_blk rfl 28 _ rfl w.heap.size rfl cs _ B0.out Try.underlying28 rfl (by rw [VS1.out]; exact I8.out) ?_)
    | (go_at_call 12; refine (VA _).mono ?_; rintro e w1 ⟨rfl, hbw⟩; have L1 : Hid (Below w.heap.size w w1) := L0.out.trans (hbw.mono (Nat.le_of_lt (Blk.lt B0.out))); have B1 : Hid (Blk w1 w.heap.size cs 28) := B0.out.below (Blk.lt B0.out) hbw; have BB1 : Hid (Blk w1 (w.heap.size + 1) bc 37) := BB.out.below (Blk.lt BB.out) hbw; have Z1 : Hid (Blk w1 (w.heap.size + 1 + 1) Try.zeroCells28 28) := Z0.out.below (Blk.lt Z0.out) hbw; have fr := B1.out.free 12584; obtain ⟨y, c2⟩ : ∃ y : Nat, w1.cell? ⟨w.heap.size, 12584, none⟩ = some (.int .u8 y) := ⟨_, (B1.out.cell _).trans (HV.out.2 12584 (by decide))⟩; clear hbw B0 BB Z0 L0 VA))
  go_upto_region 4 with fail
  have Z2 : Hid (Blk (w1.setCell ⟨w.heap.size, 12584, none⟩ (.int .u8 (v : Nat))) (w.heap.size + 1 + 1) Try.zeroCells28 28) := Z1.out.other (by omega) 12584 _
  have BB2 : Hid (Blk (w1.setCell ⟨w.heap.size, 12584, none⟩ (.int .u8 (v : Nat))) (w.heap.size + 1) bc 37) := BB1.out.other (by omega) 12584 _
  have B2 : Hid (Blk (w1.setCell ⟨w.heap.size, 12584, none⟩ (.int .u8 (v : Nat))) w.heap.size (cs.setIfInBounds 12584 (.int .u8 (v : Nat))) 28) := B1.out.set 12584 _
  have L2 : Hid (Below w.heap.size w (w1.setCell ⟨w.heap.size, 12584, none⟩ (.int .u8 (v : Nat)))) := L1.out.setCell (p := ⟨w.heap.size, 12584, none⟩) (Nat.le_refl _) _
  have V2 : Hid (Vid (cs.setIfInBounds 12584 (.int .u8 (v : Nat))) (upd f 12584 v)) := HV.out.set 12584 v _ rfl
  generalize (w1.setCell ⟨w.heap.size, 12584, none⟩ (.int .u8 (v : Nat))) = w2 at *
  generalize (cs.setIfInBounds 12584 (.int .u8 (v : Nat))) = cs2 at *
  clear B1 BB1 Z1 L1 c2 fr HV
  generalize hf2 : upd f 12584 v = f2 at *
  have HF : Hid (upd f 12584 v = f2) := hf2
  clear hf2
  have fr := B2.out.free 12578
  have fr1 := B2.out.free 12581
  have cc : w2.cell? ⟨w.heap.size, 12578, none⟩ = some (.int .u16 (t : Nat)) := (B2.out.cell _).trans ((V2.out.2 12578 (by decide)).trans (by rw [T8.out]; rfl))
  have cc1 : w2.cell? ⟨w.heap.size, 12581, none⟩ = some (.bool (f2 12581 != 0)) := (B2.out.cell _).trans (V2.out.2 12581 (by decide))
  generalize (f2 12581 != 0) = old at cc1
  clear T8
  go_upto_region 20 with fail
  clear cc cc1 fr fr1
  have Z3 : Hid (Blk ((w2.setCell ⟨w.heap.size, 12578, none⟩ (.int .u16 (zz : Nat))).setCell ⟨w.heap.size, 12581, none⟩ (.bool false)) (w.heap.size + 1 + 1) Try.zeroCells28 28) := (Blk.other ((Blk.other (Z2.out) (by omega) 12578 _)) (by omega) 12581 _)
  have B3 : Hid (Blk ((w2.setCell ⟨w.heap.size, 12578, none⟩ (.int .u16 (zz : Nat))).setCell ⟨w.heap.size, 12581, none⟩ (.bool false)) w.heap.size ((cs2.setIfInBounds 12578 (.int .u16 (zz : Nat))).setIfInBounds 12581 (.bool false)) 28) := (Blk.set ((Blk.set (B2.out) 12578 _)) 12581 _)
  have L3 : Hid (Below w.heap.size w ((w2.setCell ⟨w.heap.size, 12578, none⟩ (.int .u16 (zz : Nat))).setCell ⟨w.heap.size, 12581, none⟩ (.bool false))) := (Below.setCell (p := ⟨w.heap.size, 12581, none⟩) ((Below.setCell (p := ⟨w.heap.size, 12578, none⟩) (L2.out) (Nat.le_refl _) _)) (Nat.le_refl _) _)
  have V3 : Hid (Vid ((cs2.setIfInBounds 12578 (.int .u16 (zz : Nat))).setIfInBounds 12581 (.bool false)) (upd (upd f2 12578 zz) 12581 0)) := (Vid.set ((Vid.set (V2.out) 12578 zz _ rfl)) 12581 0 _ rfl)
  generalize ((w2.setCell ⟨w.heap.size, 12578, none⟩ (.int .u16 (zz : Nat))).setCell ⟨w.heap.size, 12581, none⟩ (.bool false)) = w3 at *
  generalize ((cs2.setIfInBounds 12578 (.int .u16 (zz : Nat))).setIfInBounds 12581 (.bool false)) = cs3 at *
  clear Z2 B2 L2 V2
  have VS : Hid (cs3.size = 12585) := V3.out.1
  have O3 : Hid (cs3.all (·.oneCell') = true) := V3.out.one
  go_wp2_with (first
        | (refine wpList_load_blk rfl 28 _ rfl w.heap.size rfl cs3 _ B3.out Try.underlying28 rfl (by rw [VS.out]; exact I8.out) ?_)
        | (refine wpList_store_blk rfl 28 _ _ rfl (w.heap.size + 1 + 1) Try.zeroCells28 cs3 28 rfl rfl Z3.out (VS.out.trans Try.zeroCells28_size.symm) (by rw [VS.out]; exact I8.out) O3.out w.heap.size w (by omega) L3.out ?_; intro w4 B4 L4 _))
  exact ret_vid Try.results14 rfl rfl B4 Try.underlying28 rfl (by rw [VS.out]; exact I8.out) ⟨cs3, rfl, by rw [HF.out]; exact V3.out, L4⟩
set_option maxRecDepth 100000 in
set_option maxHeartbeats 2000000 in
theorem rwrite_1b (cs : Array Value) (f : Nat → Nat) (F : Fok f) (V : Vid cs f) (b : Bd) (B : b.Wf) (hval : valF f b = true) (reg : Int) (hd : bits .and .i64 reg 7 = 1) (v : Nat) (hv : v < 256) (hm : v % 2 = 1) (w : World) :
    Calls Try.prog 14 #[.agg cs, .agg b.cells, .int .i64 reg, .int .u8 (v : Nat)] w fun e w' => ∃ cs', e = .returned (.agg cs') ∧ Vid cs' (upd (upd f 12584 v) 12582 1) ∧ Below w.heap.size w w' := by
  obtain ⟨fv, ft, vb⟩ := valF_facts hval
  have F2 : Hid (Fok (upd f 12584 v)) := F.io' v hv
  have C := isB b B.rlen
  have VA := fun (W : World) => rvalid8_any cs f F V b B W
  have VS1 : Hid (cs.size = 12585) := V.1
  rw [hval] at VA
  have HV : Hid (Vid cs f) := V
  have h1 : (v : Int).tmod 2 = 1 := by rw [Int.tmod_eq_emod_of_nonneg (by omega)]; omega
  clear F2
  clear B hval F V hm
  generalize b.cells = bc at *
  have hbs : Hid (bc.size = 31) := C.size
  clear C
  have IB : Hid ((Try.prog.info? 37).map (·.size) = some 31) := (by kernel_rfl : (Try.prog.info? 37).map (·.size) = some 31)
  have I8 : Hid ((Try.prog.info? 28).map (·.size) = some 12585) := Try.infoVid
  go_enter Try.func14, Try.ntmps14
  go_upto_region 1 with fail
  obtain ⟨B0, BB, Z0, L0⟩ := three w cs bc Try.zeroCells28 28 37 28
  generalize (((w.alloc (.cells cs 28)).alloc (.cells bc 37)).alloc (.cells Try.zeroCells28 28)) = W at *
  go_upto_region 3 with (first
    | (refine wpList_load_want (by rfl) 37 _ rfl (w.heap.size + 1) 0 rfl bc.toList _ (Blk.range' BB.out) Try.underlying37 rfl (by rw [Array.length_toList, hbs.out]; exact IB.out) ?_; rw [Array.toArray_toList])
    | (refine wpList_load_blk rfl 28 _ rfl w.heap.size rfl cs _ B0.out Try.underlying28 rfl (by rw [VS1.out]; exact I8.out) ?_)
    | (go_at_call 12; refine (VA _).mono ?_; rintro e w1 ⟨rfl, hbw⟩; have L1 : Hid (Below w.heap.size w w1) := L0.out.trans (hbw.mono (Nat.le_of_lt (Blk.lt B0.out))); have B1 : Hid (Blk w1 w.heap.size cs 28) := B0.out.below (Blk.lt B0.out) hbw; have BB1 : Hid (Blk w1 (w.heap.size + 1) bc 37) := BB.out.below (Blk.lt BB.out) hbw; have Z1 : Hid (Blk w1 (w.heap.size + 1 + 1) Try.zeroCells28 28) := Z0.out.below (Blk.lt Z0.out) hbw; have fr := B1.out.free 12584; obtain ⟨y, c2⟩ : ∃ y : Nat, w1.cell? ⟨w.heap.size, 12584, none⟩ = some (.int .u8 y) := ⟨_, (B1.out.cell _).trans (HV.out.2 12584 (by decide))⟩; clear hbw B0 BB Z0 L0 VA))
  go_upto_region 4 with fail
  have Z2 : Hid (Blk (w1.setCell ⟨w.heap.size, 12584, none⟩ (.int .u8 (v : Nat))) (w.heap.size + 1 + 1) Try.zeroCells28 28) := Z1.out.other (by omega) 12584 _
  have BB2 : Hid (Blk (w1.setCell ⟨w.heap.size, 12584, none⟩ (.int .u8 (v : Nat))) (w.heap.size + 1) bc 37) := BB1.out.other (by omega) 12584 _
  have B2 : Hid (Blk (w1.setCell ⟨w.heap.size, 12584, none⟩ (.int .u8 (v : Nat))) w.heap.size (cs.setIfInBounds 12584 (.int .u8 (v : Nat))) 28) := B1.out.set 12584 _
  have L2 : Hid (Below w.heap.size w (w1.setCell ⟨w.heap.size, 12584, none⟩ (.int .u8 (v : Nat)))) := L1.out.setCell (p := ⟨w.heap.size, 12584, none⟩) (Nat.le_refl _) _
  have V2 : Hid (Vid (cs.setIfInBounds 12584 (.int .u8 (v : Nat))) (upd f 12584 v)) := HV.out.set 12584 v _ rfl
  generalize (w1.setCell ⟨w.heap.size, 12584, none⟩ (.int .u8 (v : Nat))) = w2 at *
  generalize (cs.setIfInBounds 12584 (.int .u8 (v : Nat))) = cs2 at *
  clear B1 BB1 Z1 L1 c2 fr HV
  generalize hf2 : upd f 12584 v = f2 at *
  have HF : Hid (upd f 12584 v = f2) := hf2
  clear hf2
  have fr := B2.out.free 12582
  have cc : w2.cell? ⟨w.heap.size, 12582, none⟩ = some (.bool (f2 12582 != 0)) := (B2.out.cell _).trans (V2.out.2 12582 (by decide))
  generalize (f2 12582 != 0) = old at cc
  go_upto_region 20 with fail
  clear cc fr
  have Z3 : Hid (Blk (w2.setCell ⟨w.heap.size, 12582, none⟩ (.bool true)) (w.heap.size + 1 + 1) Try.zeroCells28 28) := (Blk.other (Z2.out) (by omega) 12582 _)
  have B3 : Hid (Blk (w2.setCell ⟨w.heap.size, 12582, none⟩ (.bool true)) w.heap.size (cs2.setIfInBounds 12582 (.bool true)) 28) := (Blk.set (B2.out) 12582 _)
  have L3 : Hid (Below w.heap.size w (w2.setCell ⟨w.heap.size, 12582, none⟩ (.bool true))) := (Below.setCell (p := ⟨w.heap.size, 12582, none⟩) (L2.out) (Nat.le_refl _) _)
  have V3 : Hid (Vid (cs2.setIfInBounds 12582 (.bool true)) (upd f2 12582 1)) := (Vid.set (V2.out) 12582 1 _ rfl)
  generalize (w2.setCell ⟨w.heap.size, 12582, none⟩ (.bool true)) = w3 at *
  generalize (cs2.setIfInBounds 12582 (.bool true)) = cs3 at *
  clear Z2 B2 L2 V2
  have VS : Hid (cs3.size = 12585) := V3.out.1
  have O3 : Hid (cs3.all (·.oneCell') = true) := V3.out.one
  go_wp2_with (first
        | (refine wpList_load_blk rfl 28 _ rfl w.heap.size rfl cs3 _ B3.out Try.underlying28 rfl (by rw [VS.out]; exact I8.out) ?_)
        | (refine wpList_store_blk rfl 28 _ _ rfl (w.heap.size + 1 + 1) Try.zeroCells28 cs3 28 rfl rfl Z3.out (VS.out.trans Try.zeroCells28_size.symm) (by rw [VS.out]; exact I8.out) O3.out w.heap.size w (by omega) L3.out ?_; intro w4 B4 L4 _))
  exact ret_vid Try.results14 rfl rfl B4 Try.underlying28 rfl (by rw [VS.out]; exact I8.out) ⟨cs3, rfl, by rw [HF.out]; exact V3.out, L4⟩
set_option maxRecDepth 100000 in
set_option maxHeartbeats 2000000 in
theorem rwrite_0b (cs : Array Value) (f : Nat → Nat) (F : Fok f) (V : Vid cs f) (b : Bd) (B : b.Wf) (hval : valF f b = true) (reg : Int) (hd : bits .and .i64 reg 7 = 0) (v : Nat) (hv : v < 256) (hm : v / 4 % 2 = 1) (w : World) :
    Calls Try.prog 14 #[.agg cs, .agg b.cells, .int .i64 reg, .int .u8 (v : Nat)] w fun e w' => ∃ cs', e = .returned (.agg cs') ∧ Vid cs' (upd (upd (upd f 12584 v) 12578 (f 12578 - f 12578 / 1024 % 4 * 1024 + v % 4 * 1024)) 12581 1) ∧ Below w.heap.size w w' := by
  obtain ⟨fv, ft, vb⟩ := valF_facts hval
  have F2 : Hid (Fok (upd f 12584 v)) := F.io' v hv
  have C := isB b B.rlen
  have VA := fun (W : World) => rvalid8_any cs f F V b B W
  have VS1 : Hid (cs.size = 12585) := V.1
  rw [hval] at VA
  have HV : Hid (Vid cs f) := V
  have h1 : bits .and .u8 (v : Int) 4 = 4 := by rw [and4V v hv, hm]; rfl
  obtain ⟨t, ht⟩ : ∃ t, t = f 12578 := ⟨_, rfl⟩
  have tb : t < 32768 := by omega
  obtain ⟨d, hd⟩ : ∃ d, d = t / 1024 := ⟨_, rfl⟩
  obtain ⟨d2, hd2⟩ : ∃ d2, d2 = d % 4 := ⟨_, rfl⟩
  obtain ⟨s2, hs2⟩ : ∃ s2, s2 = d2 * 1024 := ⟨_, rfl⟩
  obtain ⟨u, hu⟩ : ∃ u, u = t - s2 := ⟨_, rfl⟩
  obtain ⟨q, hq⟩ : ∃ q, q = v % 4 := ⟨_, rfl⟩
  obtain ⟨s3, hs3⟩ : ∃ s3, s3 = q * 1024 := ⟨_, rfl⟩
  obtain ⟨zz, hzz⟩ : ∃ zz, zz = u + s3 := ⟨_, rfl⟩
  have db : d < 65536 := by omega
  have d2b : d2 < 65536 := by omega
  have s2b : s2 < 65536 := by omega
  have ub : u < 65536 := by omega
  have qb : q < 65536 := by omega
  have s3b : s3 < 65536 := by omega
  have zzb : zz < 65536 := by omega
  have ed0 : (t : Int) / 1024 = (d : Int) := by omega
  have ed1 : (t : Int).tdiv 1024 = (d : Int) := by rw [Int.tdiv_eq_ediv_of_nonneg (by omega)]; omega
  have ed20 : (d : Int).tmod 4 = (d2 : Int) := by rw [Int.tmod_eq_emod_of_nonneg (by omega)]; omega
  have es20 : (d2 : Int) * 1024 = (s2 : Int) := by omega
  have eu0 : (t : Int) - (s2 : Int) = (u : Int) := by omega
  have eq0 : (v : Int).tmod 4 = (q : Int) := by rw [Int.tmod_eq_emod_of_nonneg (by omega)]; omega
  have es30 : (q : Int) * 1024 = (s3 : Int) := by omega
  have ezz0 : (u : Int) + (s3 : Int) = (zz : Int) := by omega
  have q8 : q < 256 := by omega
  have hz : f 12578 - f 12578 / 1024 % 4 * 1024 + v % 4 * 1024 = zz := by rw [← ht]; omega
  rw [hz]
  have T8 : Hid (upd f 12584 v 12578 = t) := (upd_ne _ _ (by decide)).trans ht.symm
  clear ft fv hz ht hm F2 hd hd2 hs2 hu hq hs3 hzz
  clear B hval F V
  generalize b.cells = bc at *
  have hbs : Hid (bc.size = 31) := C.size
  clear C
  have IB : Hid ((Try.prog.info? 37).map (·.size) = some 31) := (by kernel_rfl : (Try.prog.info? 37).map (·.size) = some 31)
  have I8 : Hid ((Try.prog.info? 28).map (·.size) = some 12585) := Try.infoVid
  go_enter Try.func14, Try.ntmps14
  go_upto_region 1 with fail
  obtain ⟨B0, BB, Z0, L0⟩ := three w cs bc Try.zeroCells28 28 37 28
  generalize (((w.alloc (.cells cs 28)).alloc (.cells bc 37)).alloc (.cells Try.zeroCells28 28)) = W at *
  go_upto_region 3 with (first
    | (refine wpList_load_want (by rfl) 37 _ rfl (w.heap.size + 1) 0 rfl bc.toList _ (Blk.range' BB.out) Try.underlying37 rfl (by rw [Array.length_toList, hbs.out]; exact IB.out) ?_; rw [Array.toArray_toList])
    | (refine wpList_load_blk rfl 28 _ rfl w.heap.size rfl cs _ B0.out Try.underlying28 rfl (by rw [VS1.out]; exact I8.out) ?_)
    | (go_at_call 12; refine (VA _).mono ?_; rintro e w1 ⟨rfl, hbw⟩; have L1 : Hid (Below w.heap.size w w1) := L0.out.trans (hbw.mono (Nat.le_of_lt (Blk.lt B0.out))); have B1 : Hid (Blk w1 w.heap.size cs 28) := B0.out.below (Blk.lt B0.out) hbw; have BB1 : Hid (Blk w1 (w.heap.size + 1) bc 37) := BB.out.below (Blk.lt BB.out) hbw; have Z1 : Hid (Blk w1 (w.heap.size + 1 + 1) Try.zeroCells28 28) := Z0.out.below (Blk.lt Z0.out) hbw; have fr := B1.out.free 12584; obtain ⟨y, c2⟩ : ∃ y : Nat, w1.cell? ⟨w.heap.size, 12584, none⟩ = some (.int .u8 y) := ⟨_, (B1.out.cell _).trans (HV.out.2 12584 (by decide))⟩; clear hbw B0 BB Z0 L0 VA))
  go_upto_region 4 with fail
  have Z2 : Hid (Blk (w1.setCell ⟨w.heap.size, 12584, none⟩ (.int .u8 (v : Nat))) (w.heap.size + 1 + 1) Try.zeroCells28 28) := Z1.out.other (by omega) 12584 _
  have BB2 : Hid (Blk (w1.setCell ⟨w.heap.size, 12584, none⟩ (.int .u8 (v : Nat))) (w.heap.size + 1) bc 37) := BB1.out.other (by omega) 12584 _
  have B2 : Hid (Blk (w1.setCell ⟨w.heap.size, 12584, none⟩ (.int .u8 (v : Nat))) w.heap.size (cs.setIfInBounds 12584 (.int .u8 (v : Nat))) 28) := B1.out.set 12584 _
  have L2 : Hid (Below w.heap.size w (w1.setCell ⟨w.heap.size, 12584, none⟩ (.int .u8 (v : Nat)))) := L1.out.setCell (p := ⟨w.heap.size, 12584, none⟩) (Nat.le_refl _) _
  have V2 : Hid (Vid (cs.setIfInBounds 12584 (.int .u8 (v : Nat))) (upd f 12584 v)) := HV.out.set 12584 v _ rfl
  generalize (w1.setCell ⟨w.heap.size, 12584, none⟩ (.int .u8 (v : Nat))) = w2 at *
  generalize (cs.setIfInBounds 12584 (.int .u8 (v : Nat))) = cs2 at *
  clear B1 BB1 Z1 L1 c2 fr HV
  generalize hf2 : upd f 12584 v = f2 at *
  have HF : Hid (upd f 12584 v = f2) := hf2
  clear hf2
  have fr := B2.out.free 12578
  have fr1 := B2.out.free 12581
  have cc : w2.cell? ⟨w.heap.size, 12578, none⟩ = some (.int .u16 (t : Nat)) := (B2.out.cell _).trans ((V2.out.2 12578 (by decide)).trans (by rw [T8.out]; rfl))
  have cc1 : w2.cell? ⟨w.heap.size, 12581, none⟩ = some (.bool (f2 12581 != 0)) := (B2.out.cell _).trans (V2.out.2 12581 (by decide))
  generalize (f2 12581 != 0) = old at cc1
  clear T8
  go_upto_region 20 with fail
  clear cc cc1 fr fr1
  have Z3 : Hid (Blk ((w2.setCell ⟨w.heap.size, 12578, none⟩ (.int .u16 (zz : Nat))).setCell ⟨w.heap.size, 12581, none⟩ (.bool true)) (w.heap.size + 1 + 1) Try.zeroCells28 28) := (Blk.other ((Blk.other (Z2.out) (by omega) 12578 _)) (by omega) 12581 _)
  have B3 : Hid (Blk ((w2.setCell ⟨w.heap.size, 12578, none⟩ (.int .u16 (zz : Nat))).setCell ⟨w.heap.size, 12581, none⟩ (.bool true)) w.heap.size ((cs2.setIfInBounds 12578 (.int .u16 (zz : Nat))).setIfInBounds 12581 (.bool true)) 28) := (Blk.set ((Blk.set (B2.out) 12578 _)) 12581 _)
  have L3 : Hid (Below w.heap.size w ((w2.setCell ⟨w.heap.size, 12578, none⟩ (.int .u16 (zz : Nat))).setCell ⟨w.heap.size, 12581, none⟩ (.bool true))) := (Below.setCell (p := ⟨w.heap.size, 12581, none⟩) ((Below.setCell (p := ⟨w.heap.size, 12578, none⟩) (L2.out) (Nat.le_refl _) _)) (Nat.le_refl _) _)
  have V3 : Hid (Vid ((cs2.setIfInBounds 12578 (.int .u16 (zz : Nat))).setIfInBounds 12581 (.bool true)) (upd (upd f2 12578 zz) 12581 1)) := (Vid.set ((Vid.set (V2.out) 12578 zz _ rfl)) 12581 1 _ rfl)
  generalize ((w2.setCell ⟨w.heap.size, 12578, none⟩ (.int .u16 (zz : Nat))).setCell ⟨w.heap.size, 12581, none⟩ (.bool true)) = w3 at *
  generalize ((cs2.setIfInBounds 12578 (.int .u16 (zz : Nat))).setIfInBounds 12581 (.bool true)) = cs3 at *
  clear Z2 B2 L2 V2
  have VS : Hid (cs3.size = 12585) := V3.out.1
  have O3 : Hid (cs3.all (·.oneCell') = true) := V3.out.one
  go_wp2_with (first
        | (refine wpList_load_blk rfl 28 _ rfl w.heap.size rfl cs3 _ B3.out Try.underlying28 rfl (by rw [VS.out]; exact I8.out) ?_)
        | (refine wpList_store_blk rfl 28 _ _ rfl (w.heap.size + 1 + 1) Try.zeroCells28 cs3 28 rfl rfl Z3.out (VS.out.trans Try.zeroCells28_size.symm) (by rw [VS.out]; exact I8.out) O3.out w.heap.size w (by omega) L3.out ?_; intro w4 B4 L4 _))
  exact ret_vid Try.results14 rfl rfl B4 Try.underlying28 rfl (by rw [VS.out]; exact I8.out) ⟨cs3, rfl, by rw [HF.out]; exact V3.out, L4⟩
set_option maxRecDepth 100000 in
set_option maxHeartbeats 2000000 in
theorem rwrite_4 (cs : Array Value) (f : Nat → Nat) (F : Fok f) (V : Vid cs f) (b : Bd) (B : b.Wf) (hval : valF f b = true) (reg : Int) (hd : bits .and .i64 reg 7 = 4) (v : Nat) (hv : v < 256) (w : World) :
    Calls Try.prog 14 #[.agg cs, .agg b.cells, .int .i64 reg, .int .u8 (v : Nat)] w fun e w' => ∃ cs', e = .returned (.agg cs') ∧ Vid cs' (spr (upd f 12584 v) v) ∧ Below w.heap.size w w' := by
  obtain ⟨fv, ft, vb⟩ := valF_facts hval
  have F2 : Hid (Fok (upd f 12584 v)) := F.io' v hv
  have C := isB b B.rlen
  have VA := fun (W : World) => rvalid8_any cs f F V b B W
  have VS1 : Hid (cs.size = 12585) := V.1
  rw [hval] at VA
  have HV : Hid (Vid cs f) := V
  have _T := ft
  clear B hval F V
  generalize b.cells = bc at *
  have hbs : Hid (bc.size = 31) := C.size
  clear C
  have IB : Hid ((Try.prog.info? 37).map (·.size) = some 31) := (by kernel_rfl : (Try.prog.info? 37).map (·.size) = some 31)
  have I8 : Hid ((Try.prog.info? 28).map (·.size) = some 12585) := Try.infoVid
  go_enter Try.func14, Try.ntmps14
  go_upto_region 1 with fail
  obtain ⟨B0, BB, Z0, L0⟩ := three w cs bc Try.zeroCells28 28 37 28
  generalize (((w.alloc (.cells cs 28)).alloc (.cells bc 37)).alloc (.cells Try.zeroCells28 28)) = W at *
  go_upto_region 3 with (first
    | (refine wpList_load_want (by rfl) 37 _ rfl (w.heap.size + 1) 0 rfl bc.toList _ (Blk.range' BB.out) Try.underlying37 rfl (by rw [Array.length_toList, hbs.out]; exact IB.out) ?_; rw [Array.toArray_toList])
    | (refine wpList_load_blk rfl 28 _ rfl w.heap.size rfl cs _ B0.out Try.underlying28 rfl (by rw [VS1.out]; exact I8.out) ?_)
    | (go_at_call 12; refine (VA _).mono ?_; rintro e w1 ⟨rfl, hbw⟩; have L1 : Hid (Below w.heap.size w w1) := L0.out.trans (hbw.mono (Nat.le_of_lt (Blk.lt B0.out))); have B1 : Hid (Blk w1 w.heap.size cs 28) := B0.out.below (Blk.lt B0.out) hbw; have BB1 : Hid (Blk w1 (w.heap.size + 1) bc 37) := BB.out.below (Blk.lt BB.out) hbw; have Z1 : Hid (Blk w1 (w.heap.size + 1 + 1) Try.zeroCells28 28) := Z0.out.below (Blk.lt Z0.out) hbw; have fr := B1.out.free 12584; obtain ⟨y, c2⟩ : ∃ y : Nat, w1.cell? ⟨w.heap.size, 12584, none⟩ = some (.int .u8 y) := ⟨_, (B1.out.cell _).trans (HV.out.2 12584 (by decide))⟩; clear hbw B0 BB Z0 L0 VA))
  go_upto_region 4 with fail
  have Z2 : Hid (Blk (w1.setCell ⟨w.heap.size, 12584, none⟩ (.int .u8 (v : Nat))) (w.heap.size + 1 + 1) Try.zeroCells28 28) := Z1.out.other (by omega) 12584 _
  have BB2 : Hid (Blk (w1.setCell ⟨w.heap.size, 12584, none⟩ (.int .u8 (v : Nat))) (w.heap.size + 1) bc 37) := BB1.out.other (by omega) 12584 _
  have B2 : Hid (Blk (w1.setCell ⟨w.heap.size, 12584, none⟩ (.int .u8 (v : Nat))) w.heap.size (cs.setIfInBounds 12584 (.int .u8 (v : Nat))) 28) := B1.out.set 12584 _
  have L2 : Hid (Below w.heap.size w (w1.setCell ⟨w.heap.size, 12584, none⟩ (.int .u8 (v : Nat)))) := L1.out.setCell (p := ⟨w.heap.size, 12584, none⟩) (Nat.le_refl _) _
  have V2 : Hid (Vid (cs.setIfInBounds 12584 (.int .u8 (v : Nat))) (upd f 12584 v)) := HV.out.set 12584 v _ rfl
  generalize (w1.setCell ⟨w.heap.size, 12584, none⟩ (.int .u8 (v : Nat))) = w2 at *
  generalize (cs.setIfInBounds 12584 (.int .u8 (v : Nat))) = cs2 at *
  clear B1 BB1 Z1 L1 c2 fr HV
  generalize hf2 : upd f 12584 v = f2 at *
  have HF : Hid (upd f 12584 v = f2) := hf2
  clear hf2
  have VS2 : Hid (cs2.size = 12585) := V2.out.1
  have CA := fun (W : World) => sprite_any cs2 f2 F2.out V2.out v hv W
  clear F2
  go_upto_region 20 with (first
    | (refine wpList_load_blk rfl 28 _ rfl w.heap.size rfl cs2 _ B2.out Try.underlying28 rfl (by rw [VS2.out]; exact I8.out) ?_)
    | (go_at_call 24; refine (CA _).mono ?_; rintro e w5 ⟨cs3, rfl, v3, hbw⟩; have V3 : Hid (Vid cs3 (spr f2 v)) := v3; have VS3 : Hid (cs3.size = 12585) := v3.1; have O5 : Hid (cs3.all (·.oneCell') = true) := v3.one; have B5 : Hid (Blk w5 w.heap.size cs2 28) := B2.out.below (Blk.lt B2.out) hbw; have Z5 : Hid (Blk w5 (w.heap.size + 1 + 1) Try.zeroCells28 28) := Z2.out.below (Blk.lt Z2.out) hbw; have L5 : Hid (Below w.heap.size w w5) := L2.out.trans (hbw.mono (Nat.le_of_lt (Blk.lt B2.out))); clear v3 hbw B2 Z2 L2 V2; clear CA)
    | (refine wpList_store_blk rfl 28 _ _ rfl w.heap.size cs2 cs3 28 rfl rfl B5.out (VS3.out.trans VS2.out.symm) (by rw [VS3.out]; exact I8.out) O5.out w.heap.size w (Nat.le_refl _) L5.out ?_; intro w3 b3 l3 K3; have B3 : Hid (Blk w3 w.heap.size cs3 28) := b3; have L3 : Hid (Below w.heap.size w w3) := l3; have Z3 : Hid (Blk w3 (w.heap.size + 1 + 1) Try.zeroCells28 28) := K3 _ _ _ (by omega) Z5.out; clear b3 l3 K3 Z5 B5 L5))
  have VS := VS3
  have O3 := O5
  go_wp2_with (first
        | (refine wpList_load_blk rfl 28 _ rfl w.heap.size rfl cs3 _ B3.out Try.underlying28 rfl (by rw [VS.out]; exact I8.out) ?_)
        | (refine wpList_store_blk rfl 28 _ _ rfl (w.heap.size + 1 + 1) Try.zeroCells28 cs3 28 rfl rfl Z3.out (VS.out.trans Try.zeroCells28_size.symm) (by rw [VS.out]; exact I8.out) O3.out w.heap.size w (by omega) L3.out ?_; intro w4 B4 L4 _))
  exact ret_vid Try.results14 rfl rfl B4 Try.underlying28 rfl (by rw [VS.out]; exact I8.out) ⟨cs3, rfl, by rw [HF.out]; exact V3.out, L4⟩
set_option maxRecDepth 100000 in
set_option maxHeartbeats 2000000 in
theorem rwrite_5 (cs : Array Value) (f : Nat → Nat) (F : Fok f) (V : Vid cs f) (b : Bd) (B : b.Wf) (hval : valF f b = true) (reg : Int) (hd : bits .and .i64 reg 7 = 5) (v : Nat) (hv : v < 256) (w : World) :
    Calls Try.prog 14 #[.agg cs, .agg b.cells, .int .i64 reg, .int .u8 (v : Nat)] w fun e w' => ∃ cs', e = .returned (.agg cs') ∧ Vid cs' (scrF (upd f 12584 v) v) ∧ Below w.heap.size w w' := by
  obtain ⟨fv, ft, vb⟩ := valF_facts hval
  have F2 : Hid (Fok (upd f 12584 v)) := F.io' v hv
  have C := isB b B.rlen
  have VA := fun (W : World) => rvalid8_any cs f F V b B W
  have VS1 : Hid (cs.size = 12585) := V.1
  rw [hval] at VA
  have HV : Hid (Vid cs f) := V
  have T2 : Hid (upd f 12584 v 12578 < 32768) := by unfold Hid; rw [upd_ne _ _ (by decide)]; exact ft
  clear B hval F V
  generalize b.cells = bc at *
  have hbs : Hid (bc.size = 31) := C.size
  clear C
  have IB : Hid ((Try.prog.info? 37).map (·.size) = some 31) := (by kernel_rfl : (Try.prog.info? 37).map (·.size) = some 31)
  have I8 : Hid ((Try.prog.info? 28).map (·.size) = some 12585) := Try.infoVid
  go_enter Try.func14, Try.ntmps14
  go_upto_region 1 with fail
  obtain ⟨B0, BB, Z0, L0⟩ := three w cs bc Try.zeroCells28 28 37 28
  generalize (((w.alloc (.cells cs 28)).alloc (.cells bc 37)).alloc (.cells Try.zeroCells28 28)) = W at *
  go_upto_region 3 with (first
    | (refine wpList_load_want (by rfl) 37 _ rfl (w.heap.size + 1) 0 rfl bc.toList _ (Blk.range' BB.out) Try.underlying37 rfl (by rw [Array.length_toList, hbs.out]; exact IB.out) ?_; rw [Array.toArray_toList])
    | (refine wpList_load_blk rfl 28 _ rfl w.heap.size rfl cs _ B0.out Try.underlying28 rfl (by rw [VS1.out]; exact I8.out) ?_)
    | (go_at_call 12; refine (VA _).mono ?_; rintro e w1 ⟨rfl, hbw⟩; have L1 : Hid (Below w.heap.size w w1) := L0.out.trans (hbw.mono (Nat.le_of_lt (Blk.lt B0.out))); have B1 : Hid (Blk w1 w.heap.size cs 28) := B0.out.below (Blk.lt B0.out) hbw; have BB1 : Hid (Blk w1 (w.heap.size + 1) bc 37) := BB.out.below (Blk.lt BB.out) hbw; have Z1 : Hid (Blk w1 (w.heap.size + 1 + 1) Try.zeroCells28 28) := Z0.out.below (Blk.lt Z0.out) hbw; have fr := B1.out.free 12584; obtain ⟨y, c2⟩ : ∃ y : Nat, w1.cell? ⟨w.heap.size, 12584, none⟩ = some (.int .u8 y) := ⟨_, (B1.out.cell _).trans (HV.out.2 12584 (by decide))⟩; clear hbw B0 BB Z0 L0 VA))
  go_upto_region 4 with fail
  have Z2 : Hid (Blk (w1.setCell ⟨w.heap.size, 12584, none⟩ (.int .u8 (v : Nat))) (w.heap.size + 1 + 1) Try.zeroCells28 28) := Z1.out.other (by omega) 12584 _
  have BB2 : Hid (Blk (w1.setCell ⟨w.heap.size, 12584, none⟩ (.int .u8 (v : Nat))) (w.heap.size + 1) bc 37) := BB1.out.other (by omega) 12584 _
  have B2 : Hid (Blk (w1.setCell ⟨w.heap.size, 12584, none⟩ (.int .u8 (v : Nat))) w.heap.size (cs.setIfInBounds 12584 (.int .u8 (v : Nat))) 28) := B1.out.set 12584 _
  have L2 : Hid (Below w.heap.size w (w1.setCell ⟨w.heap.size, 12584, none⟩ (.int .u8 (v : Nat)))) := L1.out.setCell (p := ⟨w.heap.size, 12584, none⟩) (Nat.le_refl _) _
  have V2 : Hid (Vid (cs.setIfInBounds 12584 (.int .u8 (v : Nat))) (upd f 12584 v)) := HV.out.set 12584 v _ rfl
  generalize (w1.setCell ⟨w.heap.size, 12584, none⟩ (.int .u8 (v : Nat))) = w2 at *
  generalize (cs.setIfInBounds 12584 (.int .u8 (v : Nat))) = cs2 at *
  clear B1 BB1 Z1 L1 c2 fr HV
  generalize hf2 : upd f 12584 v = f2 at *
  have HF : Hid (upd f 12584 v = f2) := hf2
  clear hf2
  have VS2 : Hid (cs2.size = 12585) := V2.out.1
  have ft2 : f2 12578 < 32768 := T2.out
  have CA := fun (W : World) => rscroll_any cs2 f2 F2.out V2.out ft2 v hv W
  clear ft2 T2 F2
  go_upto_region 20 with (first
    | (refine wpList_load_blk rfl 28 _ rfl w.heap.size rfl cs2 _ B2.out Try.underlying28 rfl (by rw [VS2.out]; exact I8.out) ?_)
    | (go_at_call 33; refine (CA _).mono ?_; rintro e w5 ⟨cs3, rfl, v3, hbw⟩; have V3 : Hid (Vid cs3 (scrF f2 v)) := v3; have VS3 : Hid (cs3.size = 12585) := v3.1; have O5 : Hid (cs3.all (·.oneCell') = true) := v3.one; have B5 : Hid (Blk w5 w.heap.size cs2 28) := B2.out.below (Blk.lt B2.out) hbw; have Z5 : Hid (Blk w5 (w.heap.size + 1 + 1) Try.zeroCells28 28) := Z2.out.below (Blk.lt Z2.out) hbw; have L5 : Hid (Below w.heap.size w w5) := L2.out.trans (hbw.mono (Nat.le_of_lt (Blk.lt B2.out))); clear v3 hbw B2 Z2 L2 V2; clear CA)
    | (refine wpList_store_blk rfl 28 _ _ rfl w.heap.size cs2 cs3 28 rfl rfl B5.out (VS3.out.trans VS2.out.symm) (by rw [VS3.out]; exact I8.out) O5.out w.heap.size w (Nat.le_refl _) L5.out ?_; intro w3 b3 l3 K3; have B3 : Hid (Blk w3 w.heap.size cs3 28) := b3; have L3 : Hid (Below w.heap.size w w3) := l3; have Z3 : Hid (Blk w3 (w.heap.size + 1 + 1) Try.zeroCells28 28) := K3 _ _ _ (by omega) Z5.out; clear b3 l3 K3 Z5 B5 L5))
  have VS := VS3
  have O3 := O5
  go_wp2_with (first
        | (refine wpList_load_blk rfl 28 _ rfl w.heap.size rfl cs3 _ B3.out Try.underlying28 rfl (by rw [VS.out]; exact I8.out) ?_)
        | (refine wpList_store_blk rfl 28 _ _ rfl (w.heap.size + 1 + 1) Try.zeroCells28 cs3 28 rfl rfl Z3.out (VS.out.trans Try.zeroCells28_size.symm) (by rw [VS.out]; exact I8.out) O3.out w.heap.size w (by omega) L3.out ?_; intro w4 B4 L4 _))
  exact ret_vid Try.results14 rfl rfl B4 Try.underlying28 rfl (by rw [VS.out]; exact I8.out) ⟨cs3, rfl, by rw [HF.out]; exact V3.out, L4⟩
set_option maxRecDepth 100000 in
set_option maxHeartbeats 2000000 in
theorem rwrite_6 (cs : Array Value) (f : Nat → Nat) (F : Fok f) (V : Vid cs f) (b : Bd) (B : b.Wf) (hval : valF f b = true) (reg : Int) (hd : bits .and .i64 reg 7 = 6) (v : Nat) (hv : v < 256) (w : World) :
    Calls Try.prog 14 #[.agg cs, .agg b.cells, .int .i64 reg, .int .u8 (v : Nat)] w fun e w' => ∃ cs', e = .returned (.agg cs') ∧ Vid cs' (plcF (upd f 12584 v) v) ∧ Below w.heap.size w w' := by
  obtain ⟨fv, ft, vb⟩ := valF_facts hval
  have F2 : Hid (Fok (upd f 12584 v)) := F.io' v hv
  have C := isB b B.rlen
  have VA := fun (W : World) => rvalid8_any cs f F V b B W
  have VS1 : Hid (cs.size = 12585) := V.1
  rw [hval] at VA
  have HV : Hid (Vid cs f) := V
  have T2 : Hid (upd f 12584 v 12578 < 32768) := by unfold Hid; rw [upd_ne _ _ (by decide)]; exact ft
  clear B hval F V
  generalize b.cells = bc at *
  have hbs : Hid (bc.size = 31) := C.size
  clear C
  have IB : Hid ((Try.prog.info? 37).map (·.size) = some 31) := (by kernel_rfl : (Try.prog.info? 37).map (·.size) = some 31)
  have I8 : Hid ((Try.prog.info? 28).map (·.size) = some 12585) := Try.infoVid
  go_enter Try.func14, Try.ntmps14
  go_upto_region 1 with fail
  obtain ⟨B0, BB, Z0, L0⟩ := three w cs bc Try.zeroCells28 28 37 28
  generalize (((w.alloc (.cells cs 28)).alloc (.cells bc 37)).alloc (.cells Try.zeroCells28 28)) = W at *
  go_upto_region 3 with (first
    | (refine wpList_load_want (by rfl) 37 _ rfl (w.heap.size + 1) 0 rfl bc.toList _ (Blk.range' BB.out) Try.underlying37 rfl (by rw [Array.length_toList, hbs.out]; exact IB.out) ?_; rw [Array.toArray_toList])
    | (refine wpList_load_blk rfl 28 _ rfl w.heap.size rfl cs _ B0.out Try.underlying28 rfl (by rw [VS1.out]; exact I8.out) ?_)
    | (go_at_call 12; refine (VA _).mono ?_; rintro e w1 ⟨rfl, hbw⟩; have L1 : Hid (Below w.heap.size w w1) := L0.out.trans (hbw.mono (Nat.le_of_lt (Blk.lt B0.out))); have B1 : Hid (Blk w1 w.heap.size cs 28) := B0.out.below (Blk.lt B0.out) hbw; have BB1 : Hid (Blk w1 (w.heap.size + 1) bc 37) := BB.out.below (Blk.lt BB.out) hbw; have Z1 : Hid (Blk w1 (w.heap.size + 1 + 1) Try.zeroCells28 28) := Z0.out.below (Blk.lt Z0.out) hbw; have fr := B1.out.free 12584; obtain ⟨y, c2⟩ : ∃ y : Nat, w1.cell? ⟨w.heap.size, 12584, none⟩ = some (.int .u8 y) := ⟨_, (B1.out.cell _).trans (HV.out.2 12584 (by decide))⟩; clear hbw B0 BB Z0 L0 VA))
  go_upto_region 4 with fail
  have Z2 : Hid (Blk (w1.setCell ⟨w.heap.size, 12584, none⟩ (.int .u8 (v : Nat))) (w.heap.size + 1 + 1) Try.zeroCells28 28) := Z1.out.other (by omega) 12584 _
  have BB2 : Hid (Blk (w1.setCell ⟨w.heap.size, 12584, none⟩ (.int .u8 (v : Nat))) (w.heap.size + 1) bc 37) := BB1.out.other (by omega) 12584 _
  have B2 : Hid (Blk (w1.setCell ⟨w.heap.size, 12584, none⟩ (.int .u8 (v : Nat))) w.heap.size (cs.setIfInBounds 12584 (.int .u8 (v : Nat))) 28) := B1.out.set 12584 _
  have L2 : Hid (Below w.heap.size w (w1.setCell ⟨w.heap.size, 12584, none⟩ (.int .u8 (v : Nat)))) := L1.out.setCell (p := ⟨w.heap.size, 12584, none⟩) (Nat.le_refl _) _
  have V2 : Hid (Vid (cs.setIfInBounds 12584 (.int .u8 (v : Nat))) (upd f 12584 v)) := HV.out.set 12584 v _ rfl
  generalize (w1.setCell ⟨w.heap.size, 12584, none⟩ (.int .u8 (v : Nat))) = w2 at *
  generalize (cs.setIfInBounds 12584 (.int .u8 (v : Nat))) = cs2 at *
  clear B1 BB1 Z1 L1 c2 fr HV
  generalize hf2 : upd f 12584 v = f2 at *
  have HF : Hid (upd f 12584 v = f2) := hf2
  clear hf2
  have VS2 : Hid (cs2.size = 12585) := V2.out.1
  have ft2 : f2 12578 < 32768 := T2.out
  have CA := fun (W : World) => rplace_any cs2 f2 F2.out V2.out ft2 v hv W
  clear ft2 T2 F2
  go_upto_region 20 with (first
    | (refine wpList_load_blk rfl 28 _ rfl w.heap.size rfl cs2 _ B2.out Try.underlying28 rfl (by rw [VS2.out]; exact I8.out) ?_)
    | (go_at_call 34; refine (CA _).mono ?_; rintro e w5 ⟨cs3, rfl, v3, hbw⟩; have V3 : Hid (Vid cs3 (plcF f2 v)) := v3; have VS3 : Hid (cs3.size = 12585) := v3.1; have O5 : Hid (cs3.all (·.oneCell') = true) := v3.one; have B5 : Hid (Blk w5 w.heap.size cs2 28) := B2.out.below (Blk.lt B2.out) hbw; have Z5 : Hid (Blk w5 (w.heap.size + 1 + 1) Try.zeroCells28 28) := Z2.out.below (Blk.lt Z2.out) hbw; have L5 : Hid (Below w.heap.size w w5) := L2.out.trans (hbw.mono (Nat.le_of_lt (Blk.lt B2.out))); clear v3 hbw B2 Z2 L2 V2; clear CA)
    | (refine wpList_store_blk rfl 28 _ _ rfl w.heap.size cs2 cs3 28 rfl rfl B5.out (VS3.out.trans VS2.out.symm) (by rw [VS3.out]; exact I8.out) O5.out w.heap.size w (Nat.le_refl _) L5.out ?_; intro w3 b3 l3 K3; have B3 : Hid (Blk w3 w.heap.size cs3 28) := b3; have L3 : Hid (Below w.heap.size w w3) := l3; have Z3 : Hid (Blk w3 (w.heap.size + 1 + 1) Try.zeroCells28 28) := K3 _ _ _ (by omega) Z5.out; clear b3 l3 K3 Z5 B5 L5))
  have VS := VS3
  have O3 := O5
  go_wp2_with (first
        | (refine wpList_load_blk rfl 28 _ rfl w.heap.size rfl cs3 _ B3.out Try.underlying28 rfl (by rw [VS.out]; exact I8.out) ?_)
        | (refine wpList_store_blk rfl 28 _ _ rfl (w.heap.size + 1 + 1) Try.zeroCells28 cs3 28 rfl rfl Z3.out (VS.out.trans Try.zeroCells28_size.symm) (by rw [VS.out]; exact I8.out) O3.out w.heap.size w (by omega) L3.out ?_; intro w4 B4 L4 _))
  exact ret_vid Try.results14 rfl rfl B4 Try.underlying28 rfl (by rw [VS.out]; exact I8.out) ⟨cs3, rfl, by rw [HF.out]; exact V3.out, L4⟩
set_option maxRecDepth 100000 in
set_option maxHeartbeats 2000000 in
theorem rwrite_7 (cs : Array Value) (f : Nat → Nat) (F : Fok f) (V : Vid cs f) (b : Bd) (B : b.Wf) (hval : valF f b = true) (reg : Int) (hd : bits .and .i64 reg 7 = 7) (v : Nat) (hv : v < 256) (w : World) :
    Calls Try.prog 14 #[.agg cs, .agg b.cells, .int .i64 reg, .int .u8 (v : Nat)] w fun e w' => ∃ cs', e = .returned (.agg cs') ∧ Vid cs' (onF (pokF (upd f 12584 v) b (upd f 12584 v 12577) v)) ∧ Below w.heap.size w w' := by
  obtain ⟨fv, ft, vb⟩ := valF_facts hval
  have F2 : Hid (Fok (upd f 12584 v)) := F.io' v hv
  have C := isB b B.rlen
  have VA := fun (W : World) => rvalid8_any cs f F V b B W
  have VS1 : Hid (cs.size = 12585) := V.1
  rw [hval] at VA
  have HV : Hid (Vid cs f) := V
  have T7 : Hid (upd f 12584 v 12577 < 32768) := by unfold Hid; rw [upd_ne _ _ (by decide)]; exact fv
  have ok : b.Ok := Bd.ok B vb
  have F3 : Hid (Fok (pokF (upd f 12584 v) b (upd f 12584 v 12577) v)) := (F.io' v hv).pok ok _ v hv
  have PK : Hid (∀ cs2, Vid cs2 (upd f 12584 v) → ∀ W, Calls Try.prog 36 #[.agg cs2, .agg b.cells, .int .i64 (upd f 12584 v 12577 % 16384 : Nat), .int .u8 (v : Nat)] W fun e w' => ∃ cs', e = .returned (.agg cs') ∧ Vid cs' (pokF (upd f 12584 v) b (upd f 12584 v 12577) v) ∧ Below W.heap.size W w') :=
    fun cs2 V2 W => by rw [← pokF_mod]; exact rput_any cs2 _ V2 b B vb _ (Nat.mod_lt _ (by decide)) v hv W
  generalize hf3 : pokF (upd f 12584 v) b (upd f 12584 v 12577) v = f3 at *
  clear hf3 ok F2
  clear B hval F V
  generalize b.cells = bc at *
  have hbs : Hid (bc.size = 31) := C.size
  clear C
  have IB : Hid ((Try.prog.info? 37).map (·.size) = some 31) := (by kernel_rfl : (Try.prog.info? 37).map (·.size) = some 31)
  have I8 : Hid ((Try.prog.info? 28).map (·.size) = some 12585) := Try.infoVid
  go_enter Try.func14, Try.ntmps14
  go_upto_region 1 with fail
  obtain ⟨B0, BB, Z0, L0⟩ := three w cs bc Try.zeroCells28 28 37 28
  generalize (((w.alloc (.cells cs 28)).alloc (.cells bc 37)).alloc (.cells Try.zeroCells28 28)) = W at *
  go_upto_region 3 with (first
    | (refine wpList_load_want (by rfl) 37 _ rfl (w.heap.size + 1) 0 rfl bc.toList _ (Blk.range' BB.out) Try.underlying37 rfl (by rw [Array.length_toList, hbs.out]; exact IB.out) ?_; rw [Array.toArray_toList])
    | (refine wpList_load_blk rfl 28 _ rfl w.heap.size rfl cs _ B0.out Try.underlying28 rfl (by rw [VS1.out]; exact I8.out) ?_)
    | (go_at_call 12; refine (VA _).mono ?_; rintro e w1 ⟨rfl, hbw⟩; have L1 : Hid (Below w.heap.size w w1) := L0.out.trans (hbw.mono (Nat.le_of_lt (Blk.lt B0.out))); have B1 : Hid (Blk w1 w.heap.size cs 28) := B0.out.below (Blk.lt B0.out) hbw; have BB1 : Hid (Blk w1 (w.heap.size + 1) bc 37) := BB.out.below (Blk.lt BB.out) hbw; have Z1 : Hid (Blk w1 (w.heap.size + 1 + 1) Try.zeroCells28 28) := Z0.out.below (Blk.lt Z0.out) hbw; have fr := B1.out.free 12584; obtain ⟨y, c2⟩ : ∃ y : Nat, w1.cell? ⟨w.heap.size, 12584, none⟩ = some (.int .u8 y) := ⟨_, (B1.out.cell _).trans (HV.out.2 12584 (by decide))⟩; clear hbw B0 BB Z0 L0 VA))
  go_upto_region 4 with fail
  have Z2 : Hid (Blk (w1.setCell ⟨w.heap.size, 12584, none⟩ (.int .u8 (v : Nat))) (w.heap.size + 1 + 1) Try.zeroCells28 28) := Z1.out.other (by omega) 12584 _
  have BB2 : Hid (Blk (w1.setCell ⟨w.heap.size, 12584, none⟩ (.int .u8 (v : Nat))) (w.heap.size + 1) bc 37) := BB1.out.other (by omega) 12584 _
  have B2 : Hid (Blk (w1.setCell ⟨w.heap.size, 12584, none⟩ (.int .u8 (v : Nat))) w.heap.size (cs.setIfInBounds 12584 (.int .u8 (v : Nat))) 28) := B1.out.set 12584 _
  have L2 : Hid (Below w.heap.size w (w1.setCell ⟨w.heap.size, 12584, none⟩ (.int .u8 (v : Nat)))) := L1.out.setCell (p := ⟨w.heap.size, 12584, none⟩) (Nat.le_refl _) _
  have V2 : Hid (Vid (cs.setIfInBounds 12584 (.int .u8 (v : Nat))) (upd f 12584 v)) := HV.out.set 12584 v _ rfl
  generalize (w1.setCell ⟨w.heap.size, 12584, none⟩ (.int .u8 (v : Nat))) = w2 at *
  generalize (cs.setIfInBounds 12584 (.int .u8 (v : Nat))) = cs2 at *
  clear B1 BB1 Z1 L1 c2 fr HV
  generalize hf2 : upd f 12584 v = f2 at *
  have HF : Hid (upd f 12584 v = f2) := hf2
  clear hf2
  have VS2 : Hid (cs2.size = 12585) := V2.out.1
  have c7 : w2.cell? ⟨w.heap.size, 12577, none⟩ = some (.int .u16 (f2 12577 : Nat)) := (B2.out.cell _).trans (V2.out.2 12577 (by decide))
  have PA := fun (W : World) => PK.out cs2 V2.out W
  have a7b : f2 12577 < 65536 := Nat.lt_trans T7.out (by decide)
  generalize f2 12577 = a7 at *
  obtain ⟨m7, hm7⟩ : ∃ m7, m7 = a7 % 16384 := ⟨_, rfl⟩
  rw [← hm7] at PA
  have em7 : (a7 : Int).tmod 16384 = (m7 : Int) := by rw [Int.tmod_eq_emod_of_nonneg (by omega)]; omega
  have m7b : m7 < 65536 := by omega
  clear PK T7 hm7
  go_upto_region 20 with (first
    | (refine wpList_load_blk rfl 28 _ rfl w.heap.size rfl cs2 _ B2.out Try.underlying28 rfl (by rw [VS2.out]; exact I8.out) ?_)
    | (refine wpList_load_want (by rfl) 37 _ rfl (w.heap.size + 1) 0 rfl bc.toList _ (Blk.range' BB2.out) Try.underlying37 rfl (by rw [Array.length_toList, hbs.out]; exact IB.out) ?_; rw [Array.toArray_toList])
    | (go_at_call 36; refine (PA _).mono ?_; rintro e w4 ⟨cs4, rfl, v4, hbw⟩; have GA := fun (W : World) => ron_any cs4 f3 F3.out v4 W; have B4 : Hid (Blk w4 w.heap.size cs2 28) := B2.out.below (Blk.lt B2.out) hbw; have Z4 : Hid (Blk w4 (w.heap.size + 1 + 1) Try.zeroCells28 28) := Z2.out.below (Blk.lt Z2.out) hbw; have L4 : Hid (Below w.heap.size w w4) := L2.out.trans (hbw.mono (Nat.le_of_lt (Blk.lt B2.out))); clear v4 hbw B2 Z2 L2 V2 PA BB2)
    | (go_at_call 35; refine (GA _).mono ?_; rintro e w5 ⟨cs3, rfl, v3, hbw⟩; have V3 : Hid (Vid cs3 (onF f3)) := v3; have VS3 : Hid (cs3.size = 12585) := v3.1; have O5 : Hid (cs3.all (·.oneCell') = true) := v3.one; have B5 : Hid (Blk w5 w.heap.size cs2 28) := B4.out.below (Blk.lt B4.out) hbw; have Z5 : Hid (Blk w5 (w.heap.size + 1 + 1) Try.zeroCells28 28) := Z4.out.below (Blk.lt Z4.out) hbw; have L5 : Hid (Below w.heap.size w w5) := L4.out.trans (hbw.mono (Nat.le_of_lt (Blk.lt B4.out))); clear v3 hbw B4 Z4 L4; clear GA)
    | (refine wpList_store_blk rfl 28 _ _ rfl w.heap.size cs2 cs3 28 rfl rfl B5.out (VS3.out.trans VS2.out.symm) (by rw [VS3.out]; exact I8.out) O5.out w.heap.size w (Nat.le_refl _) L5.out ?_; intro w3 b3 l3 K3; have B3 : Hid (Blk w3 w.heap.size cs3 28) := b3; have L3 : Hid (Below w.heap.size w w3) := l3; have Z3 : Hid (Blk w3 (w.heap.size + 1 + 1) Try.zeroCells28 28) := K3 _ _ _ (by omega) Z5.out; clear b3 l3 K3 Z5 B5 L5))
  have VS := VS3
  have O3 := O5
  go_wp2_with (first
        | (refine wpList_load_blk rfl 28 _ rfl w.heap.size rfl cs3 _ B3.out Try.underlying28 rfl (by rw [VS.out]; exact I8.out) ?_)
        | (refine wpList_store_blk rfl 28 _ _ rfl (w.heap.size + 1 + 1) Try.zeroCells28 cs3 28 rfl rfl Z3.out (VS.out.trans Try.zeroCells28_size.symm) (by rw [VS.out]; exact I8.out) O3.out w.heap.size w (by omega) L3.out ?_; intro w4 B4 L4 _))
  exact ret_vid Try.results14 rfl rfl B4 Try.underlying28 rfl (by rw [VS.out]; exact I8.out) ⟨cs3, rfl, V3.out, L4⟩
set_option maxRecDepth 100000 in
set_option maxHeartbeats 2000000 in
theorem rwrite_bad (cs : Array Value) (f : Nat → Nat) (F : Fok f) (V : Vid cs f) (b : Bd) (B : b.Wf) (hval : valF f b = false) (reg : Int) (v : Nat) (w : World) :
    Calls Try.prog 14 #[.agg cs, .agg b.cells, .int .i64 reg, .int .u8 (v : Nat)] w fun e w' => e = .returned (.agg cs) ∧ Below w.heap.size w w' := by
  have C := isB b B.rlen
  have VA := fun (W : World) => rvalid8_any cs f F V b B W
  have VS1 : Hid (cs.size = 12585) := V.1
  rw [hval] at VA
  have VS : Hid (cs.size = 12585) := V.1
  have O3 : Hid (cs.all (·.oneCell') = true) := V.one
  clear B hval F V
  generalize b.cells = bc at *
  have hbs : Hid (bc.size = 31) := C.size
  clear C
  have IB : Hid ((Try.prog.info? 37).map (·.size) = some 31) := (by kernel_rfl : (Try.prog.info? 37).map (·.size) = some 31)
  have I8 : Hid ((Try.prog.info? 28).map (·.size) = some 12585) := Try.infoVid
  go_enter Try.func14, Try.ntmps14
  go_upto_region 1 with fail
  obtain ⟨B0, BB, Z0, L0⟩ := three w cs bc Try.zeroCells28 28 37 28
  generalize (((w.alloc (.cells cs 28)).alloc (.cells bc 37)).alloc (.cells Try.zeroCells28 28)) = W at *
  go_upto_region 2 with (first
    | (refine wpList_load_want (by rfl) 37 _ rfl (w.heap.size + 1) 0 rfl bc.toList _ (Blk.range' BB.out) Try.underlying37 rfl (by rw [Array.length_toList, hbs.out]; exact IB.out) ?_; rw [Array.toArray_toList])
    | (refine wpList_load_blk rfl 28 _ rfl w.heap.size rfl cs _ B0.out Try.underlying28 rfl (by rw [VS1.out]; exact I8.out) ?_)
    | (go_at_call 12; refine (VA _).mono ?_; rintro e w3 ⟨rfl, hbw⟩; have L3 : Hid (Below w.heap.size w w3) := L0.out.trans (hbw.mono (Nat.le_of_lt (Blk.lt B0.out))); have B3 : Hid (Blk w3 w.heap.size cs 28) := B0.out.below (Blk.lt B0.out) hbw; have Z3 : Hid (Blk w3 (w.heap.size + 1 + 1) Try.zeroCells28 28) := Z0.out.below (Blk.lt Z0.out) hbw; clear hbw B0 BB Z0 L0 VA))
  go_wp2_with (first
        | (refine wpList_load_blk rfl 28 _ rfl w.heap.size rfl cs _ B3.out Try.underlying28 rfl (by rw [VS.out]; exact I8.out) ?_)
        | (refine wpList_store_blk rfl 28 _ _ rfl (w.heap.size + 1 + 1) Try.zeroCells28 cs 28 rfl rfl Z3.out (VS.out.trans Try.zeroCells28_size.symm) (by rw [VS.out]; exact I8.out) O3.out w.heap.size w (by omega) L3.out ?_; intro w4 B4 L4 _))
  exact ret_vid Try.results14 rfl rfl B4 Try.underlying28 rfl (by rw [VS.out]; exact I8.out) ⟨rfl, L4⟩
theorem rwrite_any (cs : Array Value) (f : Nat → Nat) (F : Fok f) (V : Vid cs f) (b : Bd) (B : b.Wf) (reg : Int) (d : Nat) (d8 : d < 8) (hd : bits .and .i64 reg 7 = (d : Int)) (v : Nat) (hv : v < 256) (w : World) :
    Calls Try.prog 14 #[.agg cs, .agg b.cells, .int .i64 reg, .int .u8 (v : Nat)] w fun e w' => ∃ cs', e = .returned (.agg cs') ∧ Vid cs' (wrF f b d v) ∧ Below w.heap.size w w' := by
  unfold wrF
  cases hval : valF f b
  · rw [if_neg (by simp)]
    exact (rwrite_bad cs f F V b B hval reg v w).mono fun e w' h => ⟨cs, h.1, V, h.2⟩
  · rw [if_pos rfl]
    rcases (show d = 0 ∨ d = 1 ∨ d = 2 ∨ d = 3 ∨ d = 4 ∨ d = 5 ∨ d = 6 ∨ d = 7 by omega) with h | h | h | h | h | h | h | h <;> subst h
    · rcases (show v / 4 % 2 = 0 ∨ v / 4 % 2 = 1 by omega) with h | h
      · have r := rwrite_0a cs f F V b B hval reg hd v hv h w
        rw [show (upd (upd (upd f 12584 v) 12578 (f 12578 - f 12578 / 1024 % 4 * 1024 + v % 4 * 1024)) 12581 0) = wr8 f b 0 v by unfold wr8; rw [if_pos rfl, h]] at r
        exact r
      · have r := rwrite_0b cs f F V b B hval reg hd v hv h w
        rw [show (upd (upd (upd f 12584 v) 12578 (f 12578 - f 12578 / 1024 % 4 * 1024 + v % 4 * 1024)) 12581 1) = wr8 f b 0 v by unfold wr8; rw [if_pos rfl, h]] at r
        exact r
    · rcases (show v % 2 = 0 ∨ v % 2 = 1 by omega) with h | h
      · have r := rwrite_1a cs f F V b B hval reg hd v hv h w
        rw [show (upd (upd f 12584 v) 12582 0) = wr8 f b 1 v by unfold wr8; rw [if_neg (by decide), if_pos rfl, h]] at r
        exact r
      · have r := rwrite_1b cs f F V b B hval reg hd v hv h w
        rw [show (upd (upd f 12584 v) 12582 1) = wr8 f b 1 v by unfold wr8; rw [if_neg (by decide), if_pos rfl, h]] at r
        exact r
    · exact rwrite_2 cs f F V b B hval reg hd v hv w
    · exact rwrite_3 cs f F V b B hval reg hd v hv w
    · exact rwrite_4 cs f F V b B hval reg hd v hv w
    · exact rwrite_5 cs f F V b B hval reg hd v hv w
    · exact rwrite_6 cs f F V b B hval reg hd v hv w
    · exact rwrite_7 cs f F V b B hval reg hd v hv w
end Go.Proofs.Ytecaipakaaongaa
