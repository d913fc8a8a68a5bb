/-
  What Write makes of a memory that is valid with its board, register by register.
  What Write answers of every memory, board, register and byte.
-/
import Derived.Test.YtecaipakaaongaaXvPokeA
import Derived.Test.YtecaipakaaongaaXvWOam
import Derived.Test.YtecaipakaaongaaXVF
import Derived.Test.YtecaipakaaongaaXvPort
set_option linter.unusedSimpArgs false
set_option linter.unusedVariables false
namespace Go.Proofs.Ytecaipakaaongaa
open Go.RowKit Classical
theorem valF_facts {f : Nat → Nat} {b : Bd} (h : valF f b = true) : f 12577 < 32768 ∧ f 12578 < 32768 ∧ validB b = true := by
  unfold valF fitF at h
  simp only [Bool.and_eq_true, decide_eq_true_eq] at h
  exact ⟨by omega, by omega, h.2.1⟩
theorem three (w : World) (a b c : Array Value) (s t u : TypeId) : Hid (Blk (((w.alloc (.cells a s)).alloc (.cells b t)).alloc (.cells c u)) w.heap.size a s) ∧ Hid (Blk (((w.alloc (.cells a s)).alloc (.cells b t)).alloc (.cells c u)) (w.heap.size + 1) b t) ∧ Hid (Blk (((w.alloc (.cells a s)).alloc (.cells b t)).alloc (.cells c u)) (w.heap.size + 1 + 1) c u) ∧ Hid (Below w.heap.size w (((w.alloc (.cells a s)).alloc (.cells b t)).alloc (.cells c u))) := by
  refine ⟨((Blk.new w a _).old _).old _, ?_, ?_, ?_⟩
  · have h := (Blk.new (w.alloc (.cells a s)) b t).old (.cells c u)
    rwa [World.size_alloc] at h
  · have h := Blk.new ((w.alloc (.cells a s)).alloc (.cells b t)) c u
    rwa [World.size_alloc, World.size_alloc] at h
  · exact (below_allocs _ _).alloc (by rw [World.size_alloc, World.size_alloc]; omega) _
theorem Fok.io' {f : Nat → Nat} (F : Fok f) (v : Nat) (hv : v < 256) : Fok (upd f 12584 v) := F.updIo v hv
theorem and1V (x : Nat) (h : x < 256) : bits .and .u8 (x : Int) 1 = ((x % 2 : Nat) : Int) := by
  revert h; revert x; decide +kernel
theorem and4V (x : Nat) (h : x < 256) : bits .and .u8 (x : Int) 4 = ((4 * (x / 4 % 2) : Nat) : Int) := by
  revert h; revert x; decide +kernel
set_option maxRecDepth 100000 in
set_option maxHeartbeats 2000000 in
theorem write_2 (cs : Array Value) (f : Nat → Nat) (F : Fok f) (V : Vid cs f) (b : Bd) (B : b.Wf) (hval : valF f b = true) (reg : Int) (hd : bits .and .i64 reg 7 = 2) (v : Nat) (hv : v < 256) (w : World) :
    Calls Try.prog 13 #[.agg cs, .agg b.cells, .int .i64 reg, .int .u8 (v : Nat)] w fun e w' => ∃ cs', e = .returned (.agg cs') ∧ Vid cs' (upd f 12584 v) ∧ Below w.heap.size w w' := by
  obtain ⟨fv, ft, vb⟩ := valF_facts hval
  have F2 : Hid (Fok (upd f 12584 v)) := F.io' v hv
  have C := isB b B.rlen
  have VA := fun (W : World) (h : Hid (Blk W w.heap.size cs 28)) => vvalid_any cs f F V b B.rlen w.heap.size W h.out
  rw [hval] at VA
  have HV : Hid (Vid cs f) := V
  clear F2
  clear B hval F V
  generalize b.cells = bc at *
  have hbs : Hid (bc.size = 31) := C.size
  clear C
  have IB : Hid ((Try.prog.info? 37).map (·.size) = some 31) := (by kernel_rfl : (Try.prog.info? 37).map (·.size) = some 31)
  have I8 : Hid ((Try.prog.info? 28).map (·.size) = some 12585) := Try.infoVid
  go_enter Try.func13, Try.ntmps13
  go_upto_region 1 with fail
  obtain ⟨B0, BB, Z0, L0⟩ := three w cs bc Try.zeroCells28 28 37 28
  generalize (((w.alloc (.cells cs 28)).alloc (.cells bc 37)).alloc (.cells Try.zeroCells28 28)) = W at *
  go_upto_region 3 with (first
    | (refine wpList_load_want (by rfl) 37 _ rfl (w.heap.size + 1) 0 rfl bc.toList _ (Blk.range' BB.out) Try.underlying37 rfl (by rw [Array.length_toList, hbs.out]; exact IB.out) ?_; rw [Array.toArray_toList])
    | (go_at_call 25; refine (VA _ B0).mono ?_; rintro e w1 ⟨rfl, hbw⟩; have L1 : Hid (Below w.heap.size w w1) := L0.out.trans (hbw.mono (Nat.le_of_lt (Blk.lt B0.out))); have B1 : Hid (Blk w1 w.heap.size cs 28) := B0.out.below (Blk.lt B0.out) hbw; have BB1 : Hid (Blk w1 (w.heap.size + 1) bc 37) := BB.out.below (Blk.lt BB.out) hbw; have Z1 : Hid (Blk w1 (w.heap.size + 1 + 1) Try.zeroCells28 28) := Z0.out.below (Blk.lt Z0.out) hbw; have fr := B1.out.free 12584; obtain ⟨y, c2⟩ : ∃ y : Nat, w1.cell? ⟨w.heap.size, 12584, none⟩ = some (.int .u8 y) := ⟨_, (B1.out.cell _).trans (HV.out.2 12584 (by decide))⟩; clear hbw B0 BB Z0 L0 VA))
  go_upto_region 4 with fail
  have Z2 : Hid (Blk (w1.setCell ⟨w.heap.size, 12584, none⟩ (.int .u8 (v : Nat))) (w.heap.size + 1 + 1) Try.zeroCells28 28) := Z1.out.other (by omega) 12584 _
  have BB2 : Hid (Blk (w1.setCell ⟨w.heap.size, 12584, none⟩ (.int .u8 (v : Nat))) (w.heap.size + 1) bc 37) := BB1.out.other (by omega) 12584 _
  have B2 : Hid (Blk (w1.setCell ⟨w.heap.size, 12584, none⟩ (.int .u8 (v : Nat))) w.heap.size (cs.setIfInBounds 12584 (.int .u8 (v : Nat))) 28) := B1.out.set 12584 _
  have L2 : Hid (Below w.heap.size w (w1.setCell ⟨w.heap.size, 12584, none⟩ (.int .u8 (v : Nat)))) := L1.out.setCell (p := ⟨w.heap.size, 12584, none⟩) (Nat.le_refl _) _
  have V2 : Hid (Vid (cs.setIfInBounds 12584 (.int .u8 (v : Nat))) (upd f 12584 v)) := HV.out.set 12584 v _ rfl
  generalize (w1.setCell ⟨w.heap.size, 12584, none⟩ (.int .u8 (v : Nat))) = w2 at *
  generalize (cs.setIfInBounds 12584 (.int .u8 (v : Nat))) = cs2 at *
  clear B1 BB1 Z1 L1 c2 fr HV
  generalize hf2 : upd f 12584 v = f2 at *
  have HF : Hid (upd f 12584 v = f2) := hf2
  clear hf2
  go_upto_region 21 with fail
  have Z3 := Z2
  have B3 := B2
  have L3 := L2
  have V3 := V2
  clear Z2 B2 L2 V2
  generalize w2 = w3 at *
  generalize cs2 = cs3 at *
  have VS : Hid (cs3.size = 12585) := V3.out.1
  have O3 : Hid (cs3.all (·.oneCell') = true) := V3.out.one
  go_wp2_with (first
        | (refine wpList_load_blk rfl 28 _ rfl w.heap.size rfl cs3 _ B3.out Try.underlying28 rfl (by rw [VS.out]; exact I8.out) ?_)
        | (refine wpList_store_blk rfl 28 _ _ rfl (w.heap.size + 1 + 1) Try.zeroCells28 cs3 28 rfl rfl Z3.out (VS.out.trans Try.zeroCells28_size.symm) (by rw [VS.out]; exact I8.out) O3.out w.heap.size w (by omega) L3.out ?_; intro w4 B4 L4 _))
  exact ret_vid Try.results13 rfl rfl B4 Try.underlying28 rfl (by rw [VS.out]; exact I8.out) ⟨cs3, rfl, by rw [HF.out]; exact V3.out, L4⟩
set_option maxRecDepth 100000 in
set_option maxHeartbeats 2000000 in
theorem write_3 (cs : Array Value) (f : Nat → Nat) (F : Fok f) (V : Vid cs f) (b : Bd) (B : b.Wf) (hval : valF f b = true) (reg : Int) (hd : bits .and .i64 reg 7 = 3) (v : Nat) (hv : v < 256) (w : World) :
    Calls Try.prog 13 #[.agg cs, .agg b.cells, .int .i64 reg, .int .u8 (v : Nat)] w fun e w' => ∃ cs', e = .returned (.agg cs') ∧ Vid cs' (upd (upd f 12584 v) 256 v) ∧ Below w.heap.size w w' := by
  obtain ⟨fv, ft, vb⟩ := valF_facts hval
  have F2 : Hid (Fok (upd f 12584 v)) := F.io' v hv
  have C := isB b B.rlen
  have VA := fun (W : World) (h : Hid (Blk W w.heap.size cs 28)) => vvalid_any cs f F V b B.rlen w.heap.size W h.out
  rw [hval] at VA
  have HV : Hid (Vid cs f) := V
  clear F2
  clear B hval F V
  generalize b.cells = bc at *
  have hbs : Hid (bc.size = 31) := C.size
  clear C
  have IB : Hid ((Try.prog.info? 37).map (·.size) = some 31) := (by kernel_rfl : (Try.prog.info? 37).map (·.size) = some 31)
  have I8 : Hid ((Try.prog.info? 28).map (·.size) = some 12585) := Try.infoVid
  go_enter Try.func13, Try.ntmps13
  go_upto_region 1 with fail
  obtain ⟨B0, BB, Z0, L0⟩ := three w cs bc Try.zeroCells28 28 37 28
  generalize (((w.alloc (.cells cs 28)).alloc (.cells bc 37)).alloc (.cells Try.zeroCells28 28)) = W at *
  go_upto_region 3 with (first
    | (refine wpList_load_want (by rfl) 37 _ rfl (w.heap.size + 1) 0 rfl bc.toList _ (Blk.range' BB.out) Try.underlying37 rfl (by rw [Array.length_toList, hbs.out]; exact IB.out) ?_; rw [Array.toArray_toList])
    | (go_at_call 25; refine (VA _ B0).mono ?_; rintro e w1 ⟨rfl, hbw⟩; have L1 : Hid (Below w.heap.size w w1) := L0.out.trans (hbw.mono (Nat.le_of_lt (Blk.lt B0.out))); have B1 : Hid (Blk w1 w.heap.size cs 28) := B0.out.below (Blk.lt B0.out) hbw; have BB1 : Hid (Blk w1 (w.heap.size + 1) bc 37) := BB.out.below (Blk.lt BB.out) hbw; have Z1 : Hid (Blk w1 (w.heap.size + 1 + 1) Try.zeroCells28 28) := Z0.out.below (Blk.lt Z0.out) hbw; have fr := B1.out.free 12584; obtain ⟨y, c2⟩ : ∃ y : Nat, w1.cell? ⟨w.heap.size, 12584, none⟩ = some (.int .u8 y) := ⟨_, (B1.out.cell _).trans (HV.out.2 12584 (by decide))⟩; clear hbw B0 BB Z0 L0 VA))
  go_upto_region 4 with fail
  have Z2 : Hid (Blk (w1.setCell ⟨w.heap.size, 12584, none⟩ (.int .u8 (v : Nat))) (w.heap.size + 1 + 1) Try.zeroCells28 28) := Z1.out.other (by omega) 12584 _
  have BB2 : Hid (Blk (w1.setCell ⟨w.heap.size, 12584, none⟩ (.int .u8 (v : Nat))) (w.heap.size + 1) bc 37) := BB1.out.other (by omega) 12584 _
  have B2 : Hid (Blk (w1.setCell ⟨w.heap.size, 12584, none⟩ (.int .u8 (v : Nat))) w.heap.size (cs.setIfInBounds 12584 (.int .u8 (v : Nat))) 28) := B1.out.set 12584 _
  have L2 : Hid (Below w.heap.size w (w1.setCell ⟨w.heap.size, 12584, none⟩ (.int .u8 (v : Nat)))) := L1.out.setCell (p := ⟨w.heap.size, 12584, none⟩) (Nat.le_refl _) _
  have V2 : Hid (Vid (cs.setIfInBounds 12584 (.int .u8 (v : Nat))) (upd f 12584 v)) := HV.out.set 12584 v _ rfl
  generalize (w1.setCell ⟨w.heap.size, 12584, none⟩ (.int .u8 (v : Nat))) = w2 at *
  generalize (cs.setIfInBounds 12584 (.int .u8 (v : Nat))) = cs2 at *
  clear B1 BB1 Z1 L1 c2 fr HV
  generalize hf2 : upd f 12584 v = f2 at *
  have HF : Hid (upd f 12584 v = f2) := hf2
  clear hf2
  have fr := B2.out.free 256
  have cc := (B2.out.cell 256).trans (V2.out.byte 256 (by decide))
  go_upto_region 21 with fail
  clear cc fr
  have Z3 : Hid (Blk (w2.setCell ⟨w.heap.size, 256, none⟩ (.int .u8 (v : Nat))) (w.heap.size + 1 + 1) Try.zeroCells28 28) := (Blk.other (Z2.out) (by omega) 256 _)
  have B3 : Hid (Blk (w2.setCell ⟨w.heap.size, 256, none⟩ (.int .u8 (v : Nat))) w.heap.size (cs2.setIfInBounds 256 (.int .u8 (v : Nat))) 28) := (Blk.set (B2.out) 256 _)
  have L3 : Hid (Below w.heap.size w (w2.setCell ⟨w.heap.size, 256, none⟩ (.int .u8 (v : Nat)))) := (Below.setCell (p := ⟨w.heap.size, 256, none⟩) (L2.out) (Nat.le_refl _) _)
  have V3 : Hid (Vid (cs2.setIfInBounds 256 (.int .u8 (v : Nat))) (upd f2 256 v)) := (Vid.set (V2.out) 256 v _ (cel_b v (by decide)).symm)
  generalize (w2.setCell ⟨w.heap.size, 256, none⟩ (.int .u8 (v : Nat))) = w3 at *
  generalize (cs2.setIfInBounds 256 (.int .u8 (v : Nat))) = cs3 at *
  clear Z2 B2 L2 V2
  have VS : Hid (cs3.size = 12585) := V3.out.1
  have O3 : Hid (cs3.all (·.oneCell') = true) := V3.out.one
  go_wp2_with (first
        | (refine wpList_load_blk rfl 28 _ rfl w.heap.size rfl cs3 _ B3.out Try.underlying28 rfl (by rw [VS.out]; exact I8.out) ?_)
        | (refine wpList_store_blk rfl 28 _ _ rfl (w.heap.size + 1 + 1) Try.zeroCells28 cs3 28 rfl rfl Z3.out (VS.out.trans Try.zeroCells28_size.symm) (by rw [VS.out]; exact I8.out) O3.out w.heap.size w (by omega) L3.out ?_; intro w4 B4 L4 _))
  exact ret_vid Try.results13 rfl rfl B4 Try.underlying28 rfl (by rw [VS.out]; exact I8.out) ⟨cs3, rfl, by rw [HF.out]; exact V3.out, L4⟩
set_option maxRecDepth 100000 in
set_option maxHeartbeats 2000000 in
theorem write_1a (cs : Array Value) (f : Nat → Nat) (F : Fok f) (V : Vid cs f) (b : Bd) (B : b.Wf) (hval : valF f b = true) (reg : Int) (hd : bits .and .i64 reg 7 = 1) (v : Nat) (hv : v < 256) (hm : v % 2 = 0) (w : World) :
    Calls Try.prog 13 #[.agg cs, .agg b.cells, .int .i64 reg, .int .u8 (v : Nat)] w fun e w' => ∃ cs', e = .returned (.agg cs') ∧ Vid cs' (upd (upd f 12584 v) 12582 0) ∧ Below w.heap.size w w' := by
  obtain ⟨fv, ft, vb⟩ := valF_facts hval
  have F2 : Hid (Fok (upd f 12584 v)) := F.io' v hv
  have C := isB b B.rlen
  have VA := fun (W : World) (h : Hid (Blk W w.heap.size cs 28)) => vvalid_any cs f F V b B.rlen w.heap.size W h.out
  rw [hval] at VA
  have HV : Hid (Vid cs f) := V
  have h1 : bits .and .u8 (v : Int) 1 = 0 := by rw [and1V v hv, hm]; rfl
  clear F2
  clear B hval F V
  generalize b.cells = bc at *
  have hbs : Hid (bc.size = 31) := C.size
  clear C
  have IB : Hid ((Try.prog.info? 37).map (·.size) = some 31) := (by kernel_rfl : (Try.prog.info? 37).map (·.size) = some 31)
  have I8 : Hid ((Try.prog.info? 28).map (·.size) = some 12585) := Try.infoVid
  go_enter Try.func13, Try.ntmps13
  go_upto_region 1 with fail
  obtain ⟨B0, BB, Z0, L0⟩ := three w cs bc Try.zeroCells28 28 37 28
  generalize (((w.alloc (.cells cs 28)).alloc (.cells bc 37)).alloc (.cells Try.zeroCells28 28)) = W at *
  go_upto_region 3 with (first
    | (refine wpList_load_want (by rfl) 37 _ rfl (w.heap.size + 1) 0 rfl bc.toList _ (Blk.range' BB.out) Try.underlying37 rfl (by rw [Array.length_toList, hbs.out]; exact IB.out) ?_; rw [Array.toArray_toList])
    | (go_at_call 25; refine (VA _ B0).mono ?_; rintro e w1 ⟨rfl, hbw⟩; have L1 : Hid (Below w.heap.size w w1) := L0.out.trans (hbw.mono (Nat.le_of_lt (Blk.lt B0.out))); have B1 : Hid (Blk w1 w.heap.size cs 28) := B0.out.below (Blk.lt B0.out) hbw; have BB1 : Hid (Blk w1 (w.heap.size + 1) bc 37) := BB.out.below (Blk.lt BB.out) hbw; have Z1 : Hid (Blk w1 (w.heap.size + 1 + 1) Try.zeroCells28 28) := Z0.out.below (Blk.lt Z0.out) hbw; have fr := B1.out.free 12584; obtain ⟨y, c2⟩ : ∃ y : Nat, w1.cell? ⟨w.heap.size, 12584, none⟩ = some (.int .u8 y) := ⟨_, (B1.out.cell _).trans (HV.out.2 12584 (by decide))⟩; clear hbw B0 BB Z0 L0 VA))
  go_upto_region 4 with fail
  have Z2 : Hid (Blk (w1.setCell ⟨w.heap.size, 12584, none⟩ (.int .u8 (v : Nat))) (w.heap.size + 1 + 1) Try.zeroCells28 28) := Z1.out.other (by omega) 12584 _
  have BB2 : Hid (Blk (w1.setCell ⟨w.heap.size, 12584, none⟩ (.int .u8 (v : Nat))) (w.heap.size + 1) bc 37) := BB1.out.other (by omega) 12584 _
  have B2 : Hid (Blk (w1.setCell ⟨w.heap.size, 12584, none⟩ (.int .u8 (v : Nat))) w.heap.size (cs.setIfInBounds 12584 (.int .u8 (v : Nat))) 28) := B1.out.set 12584 _
  have L2 : Hid (Below w.heap.size w (w1.setCell ⟨w.heap.size, 12584, none⟩ (.int .u8 (v : Nat)))) := L1.out.setCell (p := ⟨w.heap.size, 12584, none⟩) (Nat.le_refl _) _
  have V2 : Hid (Vid (cs.setIfInBounds 12584 (.int .u8 (v : Nat))) (upd f 12584 v)) := HV.out.set 12584 v _ rfl
  generalize (w1.setCell ⟨w.heap.size, 12584, none⟩ (.int .u8 (v : Nat))) = w2 at *
  generalize (cs.setIfInBounds 12584 (.int .u8 (v : Nat))) = cs2 at *
  clear B1 BB1 Z1 L1 c2 fr HV
  generalize hf2 : upd f 12584 v = f2 at *
  have HF : Hid (upd f 12584 v = f2) := hf2
  clear hf2
  have fr := B2.out.free 12582
  have cc : w2.cell? ⟨w.heap.size, 12582, none⟩ = some (.bool (f2 12582 != 0)) := (B2.out.cell _).trans (V2.out.2 12582 (by decide))
  generalize (f2 12582 != 0) = old at cc
  go_upto_region 21 with fail
  clear cc fr
  have Z3 : Hid (Blk (w2.setCell ⟨w.heap.size, 12582, none⟩ (.bool false)) (w.heap.size + 1 + 1) Try.zeroCells28 28) := (Blk.other (Z2.out) (by omega) 12582 _)
  have B3 : Hid (Blk (w2.setCell ⟨w.heap.size, 12582, none⟩ (.bool false)) w.heap.size (cs2.setIfInBounds 12582 (.bool false)) 28) := (Blk.set (B2.out) 12582 _)
  have L3 : Hid (Below w.heap.size w (w2.setCell ⟨w.heap.size, 12582, none⟩ (.bool false))) := (Below.setCell (p := ⟨w.heap.size, 12582, none⟩) (L2.out) (Nat.le_refl _) _)
  have V3 : Hid (Vid (cs2.setIfInBounds 12582 (.bool false)) (upd f2 12582 0)) := (Vid.set (V2.out) 12582 0 _ rfl)
  generalize (w2.setCell ⟨w.heap.size, 12582, none⟩ (.bool false)) = w3 at *
  generalize (cs2.setIfInBounds 12582 (.bool false)) = cs3 at *
  clear Z2 B2 L2 V2
  have VS : Hid (cs3.size = 12585) := V3.out.1
  have O3 : Hid (cs3.all (·.oneCell') = true) := V3.out.one
  go_wp2_with (first
        | (refine wpList_load_blk rfl 28 _ rfl w.heap.size rfl cs3 _ B3.out Try.underlying28 rfl (by rw [VS.out]; exact I8.out) ?_)
        | (refine wpList_store_blk rfl 28 _ _ rfl (w.heap.size + 1 + 1) Try.zeroCells28 cs3 28 rfl rfl Z3.out (VS.out.trans Try.zeroCells28_size.symm) (by rw [VS.out]; exact I8.out) O3.out w.heap.size w (by omega) L3.out ?_; intro w4 B4 L4 _))
  exact ret_vid Try.results13 rfl rfl B4 Try.underlying28 rfl (by rw [VS.out]; exact I8.out) ⟨cs3, rfl, by rw [HF.out]; exact V3.out, L4⟩
set_option maxRecDepth 100000 in
set_option maxHeartbeats 2000000 in
theorem write_0a (cs : Array Value) (f : Nat → Nat) (F : Fok f) (V : Vid cs f) (b : Bd) (B : b.Wf) (hval : valF f b = true) (reg : Int) (hd : bits .and .i64 reg 7 = 0) (v : Nat) (hv : v < 256) (hm : v / 4 % 2 = 0) (w : World) :
    Calls Try.prog 13 #[.agg cs, .agg b.cells, .int .i64 reg, .int .u8 (v : Nat)] w fun e w' => ∃ cs', e = .returned (.agg cs') ∧ Vid cs' (upd (upd (upd f 12584 v) 12578 (f 12578 - f 12578 / 1024 % 4 * 1024 + v % 4 * 1024)) 12581 0) ∧ Below w.heap.size w w' := by
  obtain ⟨fv, ft, vb⟩ := valF_facts hval
  have F2 : Hid (Fok (upd f 12584 v)) := F.io' v hv
  have C := isB b B.rlen
  have VA := fun (W : World) (h : Hid (Blk W w.heap.size cs 28)) => vvalid_any cs f F V b B.rlen w.heap.size W h.out
  rw [hval] at VA
  have HV : Hid (Vid cs f) := V
  have h1 : bits .and .u8 (v : Int) 4 = 0 := by rw [and4V v hv, hm]; rfl
  obtain ⟨s, hs⟩ : ∃ s, s = v * 1024 % 65536 := ⟨_, rfl⟩
  have WB := fun W => withBits_any (f 12578) 3072 s (by omega) (by decide) (by omega) W
  rw [hs, wbA (f 12578) v (by omega) hv, ← hs] at WB
  obtain ⟨z, hz⟩ : ∃ z, z = f 12578 - f 12578 / 1024 % 4 * 1024 + v % 4 * 1024 := ⟨_, rfl⟩
  rw [← hz] at WB ⊢
  have es : IntKind.u16.wrap ((v : Int) * 1024) = (s : Int) := by rw [show ∀ n : Int, IntKind.u16.wrap n = n % 65536 from fun n => by simp [IntKind.wrap, IntKind.bits, IntKind.signed]]; omega
  have T8 : Hid (upd f 12584 v 12578 = f 12578) := upd_ne _ _ (by decide)
  obtain ⟨t, ht⟩ : ∃ t, t = f 12578 := ⟨_, rfl⟩
  rw [← ht] at WB T8
  clear hs hz ht F2
  clear B hval F V
  generalize b.cells = bc at *
  have hbs : Hid (bc.size = 31) := C.size
  clear C
  have IB : Hid ((Try.prog.info? 37).map (·.size) = some 31) := (by kernel_rfl : (Try.prog.info? 37).map (·.size) = some 31)
  have I8 : Hid ((Try.prog.info? 28).map (·.size) = some 12585) := Try.infoVid
  go_enter Try.func13, Try.ntmps13
  go_upto_region 1 with fail
  obtain ⟨B0, BB, Z0, L0⟩ := three w cs bc Try.zeroCells28 28 37 28
  generalize (((w.alloc (.cells cs 28)).alloc (.cells bc 37)).alloc (.cells Try.zeroCells28 28)) = W at *
  go_upto_region 3 with (first
    | (refine wpList_load_want (by rfl) 37 _ rfl (w.heap.size + 1) 0 rfl bc.toList _ (Blk.range' BB.out) Try.underlying37 rfl (by rw [Array.length_toList, hbs.out]; exact IB.out) ?_; rw [Array.toArray_toList])
    | (go_at_call 25; refine (VA _ B0).mono ?_; rintro e w1 ⟨rfl, hbw⟩; have L1 : Hid (Below w.heap.size w w1) := L0.out.trans (hbw.mono (Nat.le_of_lt (Blk.lt B0.out))); have B1 : Hid (Blk w1 w.heap.size cs 28) := B0.out.below (Blk.lt B0.out) hbw; have BB1 : Hid (Blk w1 (w.heap.size + 1) bc 37) := BB.out.below (Blk.lt BB.out) hbw; have Z1 : Hid (Blk w1 (w.heap.size + 1 + 1) Try.zeroCells28 28) := Z0.out.below (Blk.lt Z0.out) hbw; have fr := B1.out.free 12584; obtain ⟨y, c2⟩ : ∃ y : Nat, w1.cell? ⟨w.heap.size, 12584, none⟩ = some (.int .u8 y) := ⟨_, (B1.out.cell _).trans (HV.out.2 12584 (by decide))⟩; clear hbw B0 BB Z0 L0 VA))
  go_upto_region 4 with fail
  have Z2 : Hid (Blk (w1.setCell ⟨w.heap.size, 12584, none⟩ (.int .u8 (v : Nat))) (w.heap.size + 1 + 1) Try.zeroCells28 28) := Z1.out.other (by omega) 12584 _
  have BB2 : Hid (Blk (w1.setCell ⟨w.heap.size, 12584, none⟩ (.int .u8 (v : Nat))) (w.heap.size + 1) bc 37) := BB1.out.other (by omega) 12584 _
  have B2 : Hid (Blk (w1.setCell ⟨w.heap.size, 12584, none⟩ (.int .u8 (v : Nat))) w.heap.size (cs.setIfInBounds 12584 (.int .u8 (v : Nat))) 28) := B1.out.set 12584 _
  have L2 : Hid (Below w.heap.size w (w1.setCell ⟨w.heap.size, 12584, none⟩ (.int .u8 (v : Nat)))) := L1.out.setCell (p := ⟨w.heap.size, 12584, none⟩) (Nat.le_refl _) _
  have V2 : Hid (Vid (cs.setIfInBounds 12584 (.int .u8 (v : Nat))) (upd f 12584 v)) := HV.out.set 12584 v _ rfl
  generalize (w1.setCell ⟨w.heap.size, 12584, none⟩ (.int .u8 (v : Nat))) = w2 at *
  generalize (cs.setIfInBounds 12584 (.int .u8 (v : Nat))) = cs2 at *
  clear B1 BB1 Z1 L1 c2 fr HV
  generalize hf2 : upd f 12584 v = f2 at *
  have HF : Hid (upd f 12584 v = f2) := hf2
  clear hf2
  have fr := B2.out.free 12578
  have fr1 := B2.out.free 12581
  have cc : w2.cell? ⟨w.heap.size, 12578, none⟩ = some (.int .u16 (f2 12578 : Nat)) := (B2.out.cell _).trans (V2.out.2 12578 (by decide))
  rw [T8.out] at cc
  have cc1 : w2.cell? ⟨w.heap.size, 12581, none⟩ = some (.bool (f2 12581 != 0)) := (B2.out.cell _).trans (V2.out.2 12581 (by decide))
  generalize (f2 12581 != 0) = old at cc1
  clear T8
  go_upto_region 21 with (go_at_call 27; refine (WB _).mono ?_; rintro e w6 ⟨rfl, e6⟩; rw [e6]; clear e6)
  clear cc cc1 fr fr1
  have Z3 : Hid (Blk ((w2.setCell ⟨w.heap.size, 12578, none⟩ (.int .u16 (z : Nat))).setCell ⟨w.heap.size, 12581, none⟩ (.bool false)) (w.heap.size + 1 + 1) Try.zeroCells28 28) := (Blk.other ((Blk.other (Z2.out) (by omega) 12578 _)) (by omega) 12581 _)
  have B3 : Hid (Blk ((w2.setCell ⟨w.heap.size, 12578, none⟩ (.int .u16 (z : Nat))).setCell ⟨w.heap.size, 12581, none⟩ (.bool false)) w.heap.size ((cs2.setIfInBounds 12578 (.int .u16 (z : Nat))).setIfInBounds 12581 (.bool false)) 28) := (Blk.set ((Blk.set (B2.out) 12578 _)) 12581 _)
  have L3 : Hid (Below w.heap.size w ((w2.setCell ⟨w.heap.size, 12578, none⟩ (.int .u16 (z : Nat))).setCell ⟨w.heap.size, 12581, none⟩ (.bool false))) := (Below.setCell (p := ⟨w.heap.size, 12581, none⟩) ((Below.setCell (p := ⟨w.heap.size, 12578, none⟩) (L2.out) (Nat.le_refl _) _)) (Nat.le_refl _) _)
  have V3 : Hid (Vid ((cs2.setIfInBounds 12578 (.int .u16 (z : Nat))).setIfInBounds 12581 (.bool false)) (upd (upd f2 12578 z) 12581 0)) := (Vid.set ((Vid.set (V2.out) 12578 z _ rfl)) 12581 0 _ rfl)
  generalize ((w2.setCell ⟨w.heap.size, 12578, none⟩ (.int .u16 (z : Nat))).setCell ⟨w.heap.size, 12581, none⟩ (.bool false)) = w3 at *
  generalize ((cs2.setIfInBounds 12578 (.int .u16 (z : Nat))).setIfInBounds 12581 (.bool false)) = cs3 at *
  clear Z2 B2 L2 V2
  have VS : Hid (cs3.size = 12585) := V3.out.1
  have O3 : Hid (cs3.all (·.oneCell') = true) := V3.out.one
  go_wp2_with (first
        | (refine wpList_load_blk rfl 28 _ rfl w.heap.size rfl cs3 _ B3.out Try.underlying28 rfl (by rw [VS.out]; exact I8.out) ?_)
        | (refine wpList_store_blk rfl 28 _ _ rfl (w.heap.size + 1 + 1) Try.zeroCells28 cs3 28 rfl rfl Z3.out (VS.out.trans Try.zeroCells28_size.symm) (by rw [VS.out]; exact I8.out) O3.out w.heap.size w (by omega) L3.out ?_; intro w4 B4 L4 _))
  exact ret_vid Try.results13 rfl rfl B4 Try.underlying28 rfl (by rw [VS.out]; exact I8.out) ⟨cs3, rfl, by rw [HF.out]; exact V3.out, L4⟩
set_option maxRecDepth 100000 in
set_option maxHeartbeats 2000000 in
theorem write_1b (cs : Array Value) (f : Nat → Nat) (F : Fok f) (V : Vid cs f) (b : Bd) (B : b.Wf) (hval : valF f b = true) (reg : Int) (hd : bits .and .i64 reg 7 = 1) (v : Nat) (hv : v < 256) (hm : v % 2 = 1) (w : World) :
    Calls Try.prog 13 #[.agg cs, .agg b.cells, .int .i64 reg, .int .u8 (v : Nat)] w fun e w' => ∃ cs', e = .returned (.agg cs') ∧ Vid cs' (upd (upd f 12584 v) 12582 1) ∧ Below w.heap.size w w' := by
  obtain ⟨fv, ft, vb⟩ := valF_facts hval
  have F2 : Hid (Fok (upd f 12584 v)) := F.io' v hv
  have C := isB b B.rlen
  have VA := fun (W : World) (h : Hid (Blk W w.heap.size cs 28)) => vvalid_any cs f F V b B.rlen w.heap.size W h.out
  rw [hval] at VA
  have HV : Hid (Vid cs f) := V
  have h1 : bits .and .u8 (v : Int) 1 = 1 := by rw [and1V v hv, hm]; rfl
  clear F2
  clear B hval F V
  generalize b.cells = bc at *
  have hbs : Hid (bc.size = 31) := C.size
  clear C
  have IB : Hid ((Try.prog.info? 37).map (·.size) = some 31) := (by kernel_rfl : (Try.prog.info? 37).map (·.size) = some 31)
  have I8 : Hid ((Try.prog.info? 28).map (·.size) = some 12585) := Try.infoVid
  go_enter Try.func13, Try.ntmps13
  go_upto_region 1 with fail
  obtain ⟨B0, BB, Z0, L0⟩ := three w cs bc Try.zeroCells28 28 37 28
  generalize (((w.alloc (.cells cs 28)).alloc (.cells bc 37)).alloc (.cells Try.zeroCells28 28)) = W at *
  go_upto_region 3 with (first
    | (refine wpList_load_want (by rfl) 37 _ rfl (w.heap.size + 1) 0 rfl bc.toList _ (Blk.range' BB.out) Try.underlying37 rfl (by rw [Array.length_toList, hbs.out]; exact IB.out) ?_; rw [Array.toArray_toList])
    | (go_at_call 25; refine (VA _ B0).mono ?_; rintro e w1 ⟨rfl, hbw⟩; have L1 : Hid (Below w.heap.size w w1) := L0.out.trans (hbw.mono (Nat.le_of_lt (Blk.lt B0.out))); have B1 : Hid (Blk w1 w.heap.size cs 28) := B0.out.below (Blk.lt B0.out) hbw; have BB1 : Hid (Blk w1 (w.heap.size + 1) bc 37) := BB.out.below (Blk.lt BB.out) hbw; have Z1 : Hid (Blk w1 (w.heap.size + 1 + 1) Try.zeroCells28 28) := Z0.out.below (Blk.lt Z0.out) hbw; have fr := B1.out.free 12584; obtain ⟨y, c2⟩ : ∃ y : Nat, w1.cell? ⟨w.heap.size, 12584, none⟩ = some (.int .u8 y) := ⟨_, (B1.out.cell _).trans (HV.out.2 12584 (by decide))⟩; clear hbw B0 BB Z0 L0 VA))
  go_upto_region 4 with fail
  have Z2 : Hid (Blk (w1.setCell ⟨w.heap.size, 12584, none⟩ (.int .u8 (v : Nat))) (w.heap.size + 1 + 1) Try.zeroCells28 28) := Z1.out.other (by omega) 12584 _
  have BB2 : Hid (Blk (w1.setCell ⟨w.heap.size, 12584, none⟩ (.int .u8 (v : Nat))) (w.heap.size + 1) bc 37) := BB1.out.other (by omega) 12584 _
  have B2 : Hid (Blk (w1.setCell ⟨w.heap.size, 12584, none⟩ (.int .u8 (v : Nat))) w.heap.size (cs.setIfInBounds 12584 (.int .u8 (v : Nat))) 28) := B1.out.set 12584 _
  have L2 : Hid (Below w.heap.size w (w1.setCell ⟨w.heap.size, 12584, none⟩ (.int .u8 (v : Nat)))) := L1.out.setCell (p := ⟨w.heap.size, 12584, none⟩) (Nat.le_refl _) _
  have V2 : Hid (Vid (cs.setIfInBounds 12584 (.int .u8 (v : Nat))) (upd f 12584 v)) := HV.out.set 12584 v _ rfl
  generalize (w1.setCell ⟨w.heap.size, 12584, none⟩ (.int .u8 (v : Nat))) = w2 at *
  generalize (cs.setIfInBounds 12584 (.int .u8 (v : Nat))) = cs2 at *
  clear B1 BB1 Z1 L1 c2 fr HV
  generalize hf2 : upd f 12584 v = f2 at *
  have HF : Hid (upd f 12584 v = f2) := hf2
  clear hf2
  have fr := B2.out.free 12582
  have cc : w2.cell? ⟨w.heap.size, 12582, none⟩ = some (.bool (f2 12582 != 0)) := (B2.out.cell _).trans (V2.out.2 12582 (by decide))
  generalize (f2 12582 != 0) = old at cc
  go_upto_region 21 with fail
  clear cc fr
  have Z3 : Hid (Blk (w2.setCell ⟨w.heap.size, 12582, none⟩ (.bool true)) (w.heap.size + 1 + 1) Try.zeroCells28 28) := (Blk.other (Z2.out) (by omega) 12582 _)
  have B3 : Hid (Blk (w2.setCell ⟨w.heap.size, 12582, none⟩ (.bool true)) w.heap.size (cs2.setIfInBounds 12582 (.bool true)) 28) := (Blk.set (B2.out) 12582 _)
  have L3 : Hid (Below w.heap.size w (w2.setCell ⟨w.heap.size, 12582, none⟩ (.bool true))) := (Below.setCell (p := ⟨w.heap.size, 12582, none⟩) (L2.out) (Nat.le_refl _) _)
  have V3 : Hid (Vid (cs2.setIfInBounds 12582 (.bool true)) (upd f2 12582 1)) := (Vid.set (V2.out) 12582 1 _ rfl)
  generalize (w2.setCell ⟨w.heap.size, 12582, none⟩ (.bool true)) = w3 at *
  generalize (cs2.setIfInBounds 12582 (.bool true)) = cs3 at *
  clear Z2 B2 L2 V2
  have VS : Hid (cs3.size = 12585) := V3.out.1
  have O3 : Hid (cs3.all (·.oneCell') = true) := V3.out.one
  go_wp2_with (first
        | (refine wpList_load_blk rfl 28 _ rfl w.heap.size rfl cs3 _ B3.out Try.underlying28 rfl (by rw [VS.out]; exact I8.out) ?_)
        | (refine wpList_store_blk rfl 28 _ _ rfl (w.heap.size + 1 + 1) Try.zeroCells28 cs3 28 rfl rfl Z3.out (VS.out.trans Try.zeroCells28_size.symm) (by rw [VS.out]; exact I8.out) O3.out w.heap.size w (by omega) L3.out ?_; intro w4 B4 L4 _))
  exact ret_vid Try.results13 rfl rfl B4 Try.underlying28 rfl (by rw [VS.out]; exact I8.out) ⟨cs3, rfl, by rw [HF.out]; exact V3.out, L4⟩
set_option maxRecDepth 100000 in
set_option maxHeartbeats 2000000 in
theorem write_0b (cs : Array Value) (f : Nat → Nat) (F : Fok f) (V : Vid cs f) (b : Bd) (B : b.Wf) (hval : valF f b = true) (reg : Int) (hd : bits .and .i64 reg 7 = 0) (v : Nat) (hv : v < 256) (hm : v / 4 % 2 = 1) (w : World) :
    Calls Try.prog 13 #[.agg cs, .agg b.cells, .int .i64 reg, .int .u8 (v : Nat)] w fun e w' => ∃ cs', e = .returned (.agg cs') ∧ Vid cs' (upd (upd (upd f 12584 v) 12578 (f 12578 - f 12578 / 1024 % 4 * 1024 + v % 4 * 1024)) 12581 1) ∧ Below w.heap.size w w' := by
  obtain ⟨fv, ft, vb⟩ := valF_facts hval
  have F2 : Hid (Fok (upd f 12584 v)) := F.io' v hv
  have C := isB b B.rlen
  have VA := fun (W : World) (h : Hid (Blk W w.heap.size cs 28)) => vvalid_any cs f F V b B.rlen w.heap.size W h.out
  rw [hval] at VA
  have HV : Hid (Vid cs f) := V
  have h1 : bits .and .u8 (v : Int) 4 = 4 := by rw [and4V v hv, hm]; rfl
  obtain ⟨s, hs⟩ : ∃ s, s = v * 1024 % 65536 := ⟨_, rfl⟩
  have WB := fun W => withBits_any (f 12578) 3072 s (by omega) (by decide) (by omega) W
  rw [hs, wbA (f 12578) v (by omega) hv, ← hs] at WB
  obtain ⟨z, hz⟩ : ∃ z, z = f 12578 - f 12578 / 1024 % 4 * 1024 + v % 4 * 1024 := ⟨_, rfl⟩
  rw [← hz] at WB ⊢
  have es : IntKind.u16.wrap ((v : Int) * 1024) = (s : Int) := by rw [show ∀ n : Int, IntKind.u16.wrap n = n % 65536 from fun n => by simp [IntKind.wrap, IntKind.bits, IntKind.signed]]; omega
  have T8 : Hid (upd f 12584 v 12578 = f 12578) := upd_ne _ _ (by decide)
  obtain ⟨t, ht⟩ : ∃ t, t = f 12578 := ⟨_, rfl⟩
  rw [← ht] at WB T8
  clear hs hz ht F2
  clear B hval F V
  generalize b.cells = bc at *
  have hbs : Hid (bc.size = 31) := C.size
  clear C
  have IB : Hid ((Try.prog.info? 37).map (·.size) = some 31) := (by kernel_rfl : (Try.prog.info? 37).map (·.size) = some 31)
  have I8 : Hid ((Try.prog.info? 28).map (·.size) = some 12585) := Try.infoVid
  go_enter Try.func13, Try.ntmps13
  go_upto_region 1 with fail
  obtain ⟨B0, BB, Z0, L0⟩ := three w cs bc Try.zeroCells28 28 37 28
  generalize (((w.alloc (.cells cs 28)).alloc (.cells bc 37)).alloc (.cells Try.zeroCells28 28)) = W at *
  go_upto_region 3 with (first
    | (refine wpList_load_want (by rfl) 37 _ rfl (w.heap.size + 1) 0 rfl bc.toList _ (Blk.range' BB.out) Try.underlying37 rfl (by rw [Array.length_toList, hbs.out]; exact IB.out) ?_; rw [Array.toArray_toList])
    | (go_at_call 25; refine (VA _ B0).mono ?_; rintro e w1 ⟨rfl, hbw⟩; have L1 : Hid (Below w.heap.size w w1) := L0.out.trans (hbw.mono (Nat.le_of_lt (Blk.lt B0.out))); have B1 : Hid (Blk w1 w.heap.size cs 28) := B0.out.below (Blk.lt B0.out) hbw; have BB1 : Hid (Blk w1 (w.heap.size + 1) bc 37) := BB.out.below (Blk.lt BB.out) hbw; have Z1 : Hid (Blk w1 (w.heap.size + 1 + 1) Try.zeroCells28 28) := Z0.out.below (Blk.lt Z0.out) hbw; have fr := B1.out.free 12584; obtain ⟨y, c2⟩ : ∃ y : Nat, w1.cell? ⟨w.heap.size, 12584, none⟩ = some (.int .u8 y) := ⟨_, (B1.out.cell _).trans (HV.out.2 12584 (by decide))⟩; clear hbw B0 BB Z0 L0 VA))
  go_upto_region 4 with fail
  have Z2 : Hid (Blk (w1.setCell ⟨w.heap.size, 12584, none⟩ (.int .u8 (v : Nat))) (w.heap.size + 1 + 1) Try.zeroCells28 28) := Z1.out.other (by omega) 12584 _
  have BB2 : Hid (Blk (w1.setCell ⟨w.heap.size, 12584, none⟩ (.int .u8 (v : Nat))) (w.heap.size + 1) bc 37) := BB1.out.other (by omega) 12584 _
  have B2 : Hid (Blk (w1.setCell ⟨w.heap.size, 12584, none⟩ (.int .u8 (v : Nat))) w.heap.size (cs.setIfInBounds 12584 (.int .u8 (v : Nat))) 28) := B1.out.set 12584 _
  have L2 : Hid (Below w.heap.size w (w1.setCell ⟨w.heap.size, 12584, none⟩ (.int .u8 (v : Nat)))) := L1.out.setCell (p := ⟨w.heap.size, 12584, none⟩) (Nat.le_refl _) _
  have V2 : Hid (Vid (cs.setIfInBounds 12584 (.int .u8 (v : Nat))) (upd f 12584 v)) := HV.out.set 12584 v _ rfl
  generalize (w1.setCell ⟨w.heap.size, 12584, none⟩ (.int .u8 (v : Nat))) = w2 at *
  generalize (cs.setIfInBounds 12584 (.int .u8 (v : Nat))) = cs2 at *
  clear B1 BB1 Z1 L1 c2 fr HV
  generalize hf2 : upd f 12584 v = f2 at *
  have HF : Hid (upd f 12584 v = f2) := hf2
  clear hf2
  have fr := B2.out.free 12578
  have fr1 := B2.out.free 12581
  have cc : w2.cell? ⟨w.heap.size, 12578, none⟩ = some (.int .u16 (f2 12578 : Nat)) := (B2.out.cell _).trans (V2.out.2 12578 (by decide))
  rw [T8.out] at cc
  have cc1 : w2.cell? ⟨w.heap.size, 12581, none⟩ = some (.bool (f2 12581 != 0)) := (B2.out.cell _).trans (V2.out.2 12581 (by decide))
  generalize (f2 12581 != 0) = old at cc1
  clear T8
  go_upto_region 21 with (go_at_call 27; refine (WB _).mono ?_; rintro e w6 ⟨rfl, e6⟩; rw [e6]; clear e6)
  clear cc cc1 fr fr1
  have Z3 : Hid (Blk ((w2.setCell ⟨w.heap.size, 12578, none⟩ (.int .u16 (z : Nat))).setCell ⟨w.heap.size, 12581, none⟩ (.bool true)) (w.heap.size + 1 + 1) Try.zeroCells28 28) := (Blk.other ((Blk.other (Z2.out) (by omega) 12578 _)) (by omega) 12581 _)
  have B3 : Hid (Blk ((w2.setCell ⟨w.heap.size, 12578, none⟩ (.int .u16 (z : Nat))).setCell ⟨w.heap.size, 12581, none⟩ (.bool true)) w.heap.size ((cs2.setIfInBounds 12578 (.int .u16 (z : Nat))).setIfInBounds 12581 (.bool true)) 28) := (Blk.set ((Blk.set (B2.out) 12578 _)) 12581 _)
  have L3 : Hid (Below w.heap.size w ((w2.setCell ⟨w.heap.size, 12578, none⟩ (.int .u16 (z : Nat))).setCell ⟨w.heap.size, 12581, none⟩ (.bool true))) := (Below.setCell (p := ⟨w.heap.size, 12581, none⟩) ((Below.setCell (p := ⟨w.heap.size, 12578, none⟩) (L2.out) (Nat.le_refl _) _)) (Nat.le_refl _) _)
  have V3 : Hid (Vid ((cs2.setIfInBounds 12578 (.int .u16 (z : Nat))).setIfInBounds 12581 (.bool true)) (upd (upd f2 12578 z) 12581 1)) := (Vid.set ((Vid.set (V2.out) 12578 z _ rfl)) 12581 1 _ rfl)
  generalize ((w2.setCell ⟨w.heap.size, 12578, none⟩ (.int .u16 (z : Nat))).setCell ⟨w.heap.size, 12581, none⟩ (.bool true)) = w3 at *
  generalize ((cs2.setIfInBounds 12578 (.int .u16 (z : Nat))).setIfInBounds 12581 (.bool true)) = cs3 at *
  clear Z2 B2 L2 V2
  have VS : Hid (cs3.size = 12585) := V3.out.1
  have O3 : Hid (cs3.all (·.oneCell') = true) := V3.out.one
  go_wp2_with (first
        | (refine wpList_load_blk rfl 28 _ rfl w.heap.size rfl cs3 _ B3.out Try.underlying28 rfl (by rw [VS.out]; exact I8.out) ?_)
        | (refine wpList_store_blk rfl 28 _ _ rfl (w.heap.size + 1 + 1) Try.zeroCells28 cs3 28 rfl rfl Z3.out (VS.out.trans Try.zeroCells28_size.symm) (by rw [VS.out]; exact I8.out) O3.out w.heap.size w (by omega) L3.out ?_; intro w4 B4 L4 _))
  exact ret_vid Try.results13 rfl rfl B4 Try.underlying28 rfl (by rw [VS.out]; exact I8.out) ⟨cs3, rfl, by rw [HF.out]; exact V3.out, L4⟩
theorem pok_v {f : Nat → Nat} {b : Bd} (o : b.Ok) {a v : Nat} : pokF f b a v 12577 = f 12577 := by
  unfold pokF
  split
  · rfl
  · rename_i h
    have := whr_lt o a h
    exact upd_ne _ _ (by omega)
set_option maxRecDepth 100000 in
set_option maxHeartbeats 2000000 in
theorem write_7 (cs : Array Value) (f : Nat → Nat) (F : Fok f) (V : Vid cs f) (b : Bd) (B : b.Wf) (hval : valF f b = true) (reg : Int) (hd : bits .and .i64 reg 7 = 7) (v : Nat) (hv : v < 256) (w : World) :
    Calls Try.prog 13 #[.agg cs, .agg b.cells, .int .i64 reg, .int .u8 (v : Nat)] w fun e w' => ∃ cs', e = .returned (.agg cs') ∧ Vid cs' (onF (pokF (upd f 12584 v) b (upd f 12584 v 12577) v)) ∧ Below w.heap.size w w' := by
  obtain ⟨fv, ft, vb⟩ := valF_facts hval
  have F2 : Hid (Fok (upd f 12584 v)) := F.io' v hv
  have C := isB b B.rlen
  have VA := fun (W : World) (h : Hid (Blk W w.heap.size cs 28)) => vvalid_any cs f F V b B.rlen w.heap.size W h.out
  rw [hval] at VA
  have HV : Hid (Vid cs f) := V
  have T7 : Hid (upd f 12584 v 12577 < 32768) := by unfold Hid; rw [upd_ne _ _ (by decide)]; exact fv
  have ok : b.Ok := Bd.ok B vb
  have F3 : Hid (Fok (pokF (upd f 12584 v) b (upd f 12584 v 12577) v)) := (F.io' v hv).pok ok _ v hv
  have T3 : Hid (pokF (upd f 12584 v) b (upd f 12584 v 12577) v 12577 < 32768) := by unfold Hid; rw [pok_v ok]; exact T7.out
  have PK : Hid (∀ cs2, Vid cs2 (upd f 12584 v) → ∀ W, Blk W w.heap.size cs2 28 → Calls Try.prog 31 #[.pointer (some ⟨w.heap.size, 0, none⟩), .agg b.cells, .int .u16 (upd f 12584 v 12577 : Nat), .int .u8 (v : Nat)] W fun e w' => e = .returned (.tuple #[]) ∧ Onb w.heap.size W w' ∧ ∃ cs', Blk w' w.heap.size cs' 28 ∧ Vid cs' (pokF (upd f 12584 v) b (upd f 12584 v 12577) v)) :=
    fun cs2 V2 W h => poke_any cs2 _ V2 b B vb _ v (Nat.lt_trans T7.out (by decide)) hv w.heap.size W h
  generalize hf3 : pokF (upd f 12584 v) b (upd f 12584 v 12577) v = f3 at *
  clear hf3 ok F2
  clear B hval F V
  generalize b.cells = bc at *
  have hbs : Hid (bc.size = 31) := C.size
  clear C
  have IB : Hid ((Try.prog.info? 37).map (·.size) = some 31) := (by kernel_rfl : (Try.prog.info? 37).map (·.size) = some 31)
  have I8 : Hid ((Try.prog.info? 28).map (·.size) = some 12585) := Try.infoVid
  go_enter Try.func13, Try.ntmps13
  go_upto_region 1 with fail
  obtain ⟨B0, BB, Z0, L0⟩ := three w cs bc Try.zeroCells28 28 37 28
  generalize (((w.alloc (.cells cs 28)).alloc (.cells bc 37)).alloc (.cells Try.zeroCells28 28)) = W at *
  go_upto_region 3 with (first
    | (refine wpList_load_want (by rfl) 37 _ rfl (w.heap.size + 1) 0 rfl bc.toList _ (Blk.range' BB.out) Try.underlying37 rfl (by rw [Array.length_toList, hbs.out]; exact IB.out) ?_; rw [Array.toArray_toList])
    | (go_at_call 25; refine (VA _ B0).mono ?_; rintro e w1 ⟨rfl, hbw⟩; have L1 : Hid (Below w.heap.size w w1) := L0.out.trans (hbw.mono (Nat.le_of_lt (Blk.lt B0.out))); have B1 : Hid (Blk w1 w.heap.size cs 28) := B0.out.below (Blk.lt B0.out) hbw; have BB1 : Hid (Blk w1 (w.heap.size + 1) bc 37) := BB.out.below (Blk.lt BB.out) hbw; have Z1 : Hid (Blk w1 (w.heap.size + 1 + 1) Try.zeroCells28 28) := Z0.out.below (Blk.lt Z0.out) hbw; have fr := B1.out.free 12584; obtain ⟨y, c2⟩ : ∃ y : Nat, w1.cell? ⟨w.heap.size, 12584, none⟩ = some (.int .u8 y) := ⟨_, (B1.out.cell _).trans (HV.out.2 12584 (by decide))⟩; clear hbw B0 BB Z0 L0 VA))
  go_upto_region 4 with fail
  have Z2 : Hid (Blk (w1.setCell ⟨w.heap.size, 12584, none⟩ (.int .u8 (v : Nat))) (w.heap.size + 1 + 1) Try.zeroCells28 28) := Z1.out.other (by omega) 12584 _
  have BB2 : Hid (Blk (w1.setCell ⟨w.heap.size, 12584, none⟩ (.int .u8 (v : Nat))) (w.heap.size + 1) bc 37) := BB1.out.other (by omega) 12584 _
  have B2 : Hid (Blk (w1.setCell ⟨w.heap.size, 12584, none⟩ (.int .u8 (v : Nat))) w.heap.size (cs.setIfInBounds 12584 (.int .u8 (v : Nat))) 28) := B1.out.set 12584 _
  have L2 : Hid (Below w.heap.size w (w1.setCell ⟨w.heap.size, 12584, none⟩ (.int .u8 (v : Nat)))) := L1.out.setCell (p := ⟨w.heap.size, 12584, none⟩) (Nat.le_refl _) _
  have V2 : Hid (Vid (cs.setIfInBounds 12584 (.int .u8 (v : Nat))) (upd f 12584 v)) := HV.out.set 12584 v _ rfl
  generalize (w1.setCell ⟨w.heap.size, 12584, none⟩ (.int .u8 (v : Nat))) = w2 at *
  generalize (cs.setIfInBounds 12584 (.int .u8 (v : Nat))) = cs2 at *
  clear B1 BB1 Z1 L1 c2 fr HV
  generalize hf2 : upd f 12584 v = f2 at *
  have HF : Hid (upd f 12584 v = f2) := hf2
  clear hf2
  have c7 : w2.cell? ⟨w.heap.size, 12577, none⟩ = some (.int .u16 (f2 12577 : Nat)) := (B2.out.cell _).trans (V2.out.2 12577 (by decide))
  have PA := fun (W : World) (h : Hid (Blk W w.heap.size cs2 28)) => PK.out cs2 V2.out W h.out
  generalize f2 12577 = a7 at *
  clear PK T7
  go_upto_region 21 with (first
    | (refine wpList_load_want (by rfl) 37 _ rfl (w.heap.size + 1) 0 rfl bc.toList _ (Blk.range' BB2.out) Try.underlying37 rfl (by rw [Array.length_toList, hbs.out]; exact IB.out) ?_; rw [Array.toArray_toList])
    | (go_at_call 31; refine (PA _ B2).mono ?_; rintro e w5 ⟨rfl, O5, cs5, b5, v5⟩; have B5 : Hid (Blk w5 w.heap.size cs5 28) := b5; have V5 : Hid (Vid cs5 f3) := v5; have Z5 : Hid (Blk w5 (w.heap.size + 1 + 1) Try.zeroCells28 28) := O5.blk Z2.out (by omega); have L5 : Hid (Below w.heap.size w w5) := L2.out.trans (O5.below (Nat.le_refl _) (Nat.le_of_lt (Blk.lt B2.out))); have GA := fun (W : World) (h : Hid (Blk W w.heap.size cs5 28)) => goOn_any cs5 f3 F3.out V5.out T3.out w.heap.size W h.out; clear b5 v5 O5 B2 Z2 L2 V2 PA BB2)
    | (go_at_call 32; refine (GA _ B5).mono ?_; rintro e w3 ⟨rfl, O1, cs3, b3, v3⟩; have B3 : Hid (Blk w3 w.heap.size cs3 28) := b3; have V3 : Hid (Vid cs3 (onF f3)) := v3; have Z3 : Hid (Blk w3 (w.heap.size + 1 + 1) Try.zeroCells28 28) := O1.blk Z5.out (by omega); have L3 : Hid (Below w.heap.size w w3) := L5.out.trans (O1.below (Nat.le_refl _)); clear b3 v3 O1 B5 Z5 L5 V5 GA))
  have VS : Hid (cs3.size = 12585) := V3.out.1
  have O3 : Hid (cs3.all (·.oneCell') = true) := V3.out.one
  go_wp2_with (first
        | (refine wpList_load_blk rfl 28 _ rfl w.heap.size rfl cs3 _ B3.out Try.underlying28 rfl (by rw [VS.out]; exact I8.out) ?_)
        | (refine wpList_store_blk rfl 28 _ _ rfl (w.heap.size + 1 + 1) Try.zeroCells28 cs3 28 rfl rfl Z3.out (VS.out.trans Try.zeroCells28_size.symm) (by rw [VS.out]; exact I8.out) O3.out w.heap.size w (by omega) L3.out ?_; intro w4 B4 L4 _))
  exact ret_vid Try.results13 rfl rfl B4 Try.underlying28 rfl (by rw [VS.out]; exact I8.out) ⟨cs3, rfl, V3.out, L4⟩
set_option maxRecDepth 100000 in
set_option maxHeartbeats 2000000 in
theorem write_4 (cs : Array Value) (f : Nat → Nat) (F : Fok f) (V : Vid cs f) (b : Bd) (B : b.Wf) (hval : valF f b = true) (reg : Int) (hd : bits .and .i64 reg 7 = 4) (v : Nat) (hv : v < 256) (w : World) :
    Calls Try.prog 13 #[.agg cs, .agg b.cells, .int .i64 reg, .int .u8 (v : Nat)] w fun e w' => ∃ cs', e = .returned (.agg cs') ∧ Vid cs' (spr (upd f 12584 v) v) ∧ Below w.heap.size w w' := by
  obtain ⟨fv, ft, vb⟩ := valF_facts hval
  have F2 : Hid (Fok (upd f 12584 v)) := F.io' v hv
  have C := isB b B.rlen
  have VA := fun (W : World) (h : Hid (Blk W w.heap.size cs 28)) => vvalid_any cs f F V b B.rlen w.heap.size W h.out
  rw [hval] at VA
  have HV : Hid (Vid cs f) := V
  have T2 : Hid (upd f 12584 v 12578 < 32768) := by unfold Hid; rw [upd_ne _ _ (by decide)]; exact ft
  clear B hval F V
  generalize b.cells = bc at *
  have hbs : Hid (bc.size = 31) := C.size
  clear C
  have IB : Hid ((Try.prog.info? 37).map (·.size) = some 31) := (by kernel_rfl : (Try.prog.info? 37).map (·.size) = some 31)
  have I8 : Hid ((Try.prog.info? 28).map (·.size) = some 12585) := Try.infoVid
  go_enter Try.func13, Try.ntmps13
  go_upto_region 1 with fail
  obtain ⟨B0, BB, Z0, L0⟩ := three w cs bc Try.zeroCells28 28 37 28
  generalize (((w.alloc (.cells cs 28)).alloc (.cells bc 37)).alloc (.cells Try.zeroCells28 28)) = W at *
  go_upto_region 3 with (first
    | (refine wpList_load_want (by rfl) 37 _ rfl (w.heap.size + 1) 0 rfl bc.toList _ (Blk.range' BB.out) Try.underlying37 rfl (by rw [Array.length_toList, hbs.out]; exact IB.out) ?_; rw [Array.toArray_toList])
    | (go_at_call 25; refine (VA _ B0).mono ?_; rintro e w1 ⟨rfl, hbw⟩; have L1 : Hid (Below w.heap.size w w1) := L0.out.trans (hbw.mono (Nat.le_of_lt (Blk.lt B0.out))); have B1 : Hid (Blk w1 w.heap.size cs 28) := B0.out.below (Blk.lt B0.out) hbw; have BB1 : Hid (Blk w1 (w.heap.size + 1) bc 37) := BB.out.below (Blk.lt BB.out) hbw; have Z1 : Hid (Blk w1 (w.heap.size + 1 + 1) Try.zeroCells28 28) := Z0.out.below (Blk.lt Z0.out) hbw; have fr := B1.out.free 12584; obtain ⟨y, c2⟩ : ∃ y : Nat, w1.cell? ⟨w.heap.size, 12584, none⟩ = some (.int .u8 y) := ⟨_, (B1.out.cell _).trans (HV.out.2 12584 (by decide))⟩; clear hbw B0 BB Z0 L0 VA))
  go_upto_region 4 with fail
  have Z2 : Hid (Blk (w1.setCell ⟨w.heap.size, 12584, none⟩ (.int .u8 (v : Nat))) (w.heap.size + 1 + 1) Try.zeroCells28 28) := Z1.out.other (by omega) 12584 _
  have BB2 : Hid (Blk (w1.setCell ⟨w.heap.size, 12584, none⟩ (.int .u8 (v : Nat))) (w.heap.size + 1) bc 37) := BB1.out.other (by omega) 12584 _
  have B2 : Hid (Blk (w1.setCell ⟨w.heap.size, 12584, none⟩ (.int .u8 (v : Nat))) w.heap.size (cs.setIfInBounds 12584 (.int .u8 (v : Nat))) 28) := B1.out.set 12584 _
  have L2 : Hid (Below w.heap.size w (w1.setCell ⟨w.heap.size, 12584, none⟩ (.int .u8 (v : Nat)))) := L1.out.setCell (p := ⟨w.heap.size, 12584, none⟩) (Nat.le_refl _) _
  have V2 : Hid (Vid (cs.setIfInBounds 12584 (.int .u8 (v : Nat))) (upd f 12584 v)) := HV.out.set 12584 v _ rfl
  generalize (w1.setCell ⟨w.heap.size, 12584, none⟩ (.int .u8 (v : Nat))) = w2 at *
  generalize (cs.setIfInBounds 12584 (.int .u8 (v : Nat))) = cs2 at *
  clear B1 BB1 Z1 L1 c2 fr HV
  generalize hf2 : upd f 12584 v = f2 at *
  have HF : Hid (upd f 12584 v = f2) := hf2
  clear hf2
  have ft2 : f2 12578 < 32768 := T2.out
  have CA := fun (W : World) (h : Hid (Blk W w.heap.size cs2 28)) => writeOam_any cs2 f2 F2.out V2.out v hv w.heap.size W h.out
  clear ft2 F2 T2
  go_upto_region 21 with (go_at_call 28; refine (CA _ B2).mono ?_; rintro e w3 ⟨rfl, O1, cs3, b3, v3⟩; have B3 : Hid (Blk w3 w.heap.size cs3 28) := b3; have V3 : Hid (Vid cs3 (spr f2 v)) := v3; have Z3 : Hid (Blk w3 (w.heap.size + 1 + 1) Try.zeroCells28 28) := O1.blk Z2.out (by omega); have L3 : Hid (Below w.heap.size w w3) := L2.out.trans (O1.below (Nat.le_refl _)); clear b3 v3 O1 B2 Z2 L2 V2; clear CA)
  have VS : Hid (cs3.size = 12585) := V3.out.1
  have O3 : Hid (cs3.all (·.oneCell') = true) := V3.out.one
  go_wp2_with (first
        | (refine wpList_load_blk rfl 28 _ rfl w.heap.size rfl cs3 _ B3.out Try.underlying28 rfl (by rw [VS.out]; exact I8.out) ?_)
        | (refine wpList_store_blk rfl 28 _ _ rfl (w.heap.size + 1 + 1) Try.zeroCells28 cs3 28 rfl rfl Z3.out (VS.out.trans Try.zeroCells28_size.symm) (by rw [VS.out]; exact I8.out) O3.out w.heap.size w (by omega) L3.out ?_; intro w4 B4 L4 _))
  exact ret_vid Try.results13 rfl rfl B4 Try.underlying28 rfl (by rw [VS.out]; exact I8.out) ⟨cs3, rfl, by rw [HF.out]; exact V3.out, L4⟩
set_option maxRecDepth 100000 in
set_option maxHeartbeats 2000000 in
theorem write_5 (cs : Array Value) (f : Nat → Nat) (F : Fok f) (V : Vid cs f) (b : Bd) (B : b.Wf) (hval : valF f b = true) (reg : Int) (hd : bits .and .i64 reg 7 = 5) (v : Nat) (hv : v < 256) (w : World) :
    Calls Try.prog 13 #[.agg cs, .agg b.cells, .int .i64 reg, .int .u8 (v : Nat)] w fun e w' => ∃ cs', e = .returned (.agg cs') ∧ Vid cs' (scrF (upd f 12584 v) v) ∧ Below w.heap.size w w' := by
  obtain ⟨fv, ft, vb⟩ := valF_facts hval
  have F2 : Hid (Fok (upd f 12584 v)) := F.io' v hv
  have C := isB b B.rlen
  have VA := fun (W : World) (h : Hid (Blk W w.heap.size cs 28)) => vvalid_any cs f F V b B.rlen w.heap.size W h.out
  rw [hval] at VA
  have HV : Hid (Vid cs f) := V
  have T2 : Hid (upd f 12584 v 12578 < 32768) := by unfold Hid; rw [upd_ne _ _ (by decide)]; exact ft
  clear B hval F V
  generalize b.cells = bc at *
  have hbs : Hid (bc.size = 31) := C.size
  clear C
  have IB : Hid ((Try.prog.info? 37).map (·.size) = some 31) := (by kernel_rfl : (Try.prog.info? 37).map (·.size) = some 31)
  have I8 : Hid ((Try.prog.info? 28).map (·.size) = some 12585) := Try.infoVid
  go_enter Try.func13, Try.ntmps13
  go_upto_region 1 with fail
  obtain ⟨B0, BB, Z0, L0⟩ := three w cs bc Try.zeroCells28 28 37 28
  generalize (((w.alloc (.cells cs 28)).alloc (.cells bc 37)).alloc (.cells Try.zeroCells28 28)) = W at *
  go_upto_region 3 with (first
    | (refine wpList_load_want (by rfl) 37 _ rfl (w.heap.size + 1) 0 rfl bc.toList _ (Blk.range' BB.out) Try.underlying37 rfl (by rw [Array.length_toList, hbs.out]; exact IB.out) ?_; rw [Array.toArray_toList])
    | (go_at_call 25; refine (VA _ B0).mono ?_; rintro e w1 ⟨rfl, hbw⟩; have L1 : Hid (Below w.heap.size w w1) := L0.out.trans (hbw.mono (Nat.le_of_lt (Blk.lt B0.out))); have B1 : Hid (Blk w1 w.heap.size cs 28) := B0.out.below (Blk.lt B0.out) hbw; have BB1 : Hid (Blk w1 (w.heap.size + 1) bc 37) := BB.out.below (Blk.lt BB.out) hbw; have Z1 : Hid (Blk w1 (w.heap.size + 1 + 1) Try.zeroCells28 28) := Z0.out.below (Blk.lt Z0.out) hbw; have fr := B1.out.free 12584; obtain ⟨y, c2⟩ : ∃ y : Nat, w1.cell? ⟨w.heap.size, 12584, none⟩ = some (.int .u8 y) := ⟨_, (B1.out.cell _).trans (HV.out.2 12584 (by decide))⟩; clear hbw B0 BB Z0 L0 VA))
  go_upto_region 4 with fail
  have Z2 : Hid (Blk (w1.setCell ⟨w.heap.size, 12584, none⟩ (.int .u8 (v : Nat))) (w.heap.size + 1 + 1) Try.zeroCells28 28) := Z1.out.other (by omega) 12584 _
  have BB2 : Hid (Blk (w1.setCell ⟨w.heap.size, 12584, none⟩ (.int .u8 (v : Nat))) (w.heap.size + 1) bc 37) := BB1.out.other (by omega) 12584 _
  have B2 : Hid (Blk (w1.setCell ⟨w.heap.size, 12584, none⟩ (.int .u8 (v : Nat))) w.heap.size (cs.setIfInBounds 12584 (.int .u8 (v : Nat))) 28) := B1.out.set 12584 _
  have L2 : Hid (Below w.heap.size w (w1.setCell ⟨w.heap.size, 12584, none⟩ (.int .u8 (v : Nat)))) := L1.out.setCell (p := ⟨w.heap.size, 12584, none⟩) (Nat.le_refl _) _
  have V2 : Hid (Vid (cs.setIfInBounds 12584 (.int .u8 (v : Nat))) (upd f 12584 v)) := HV.out.set 12584 v _ rfl
  generalize (w1.setCell ⟨w.heap.size, 12584, none⟩ (.int .u8 (v : Nat))) = w2 at *
  generalize (cs.setIfInBounds 12584 (.int .u8 (v : Nat))) = cs2 at *
  clear B1 BB1 Z1 L1 c2 fr HV
  generalize hf2 : upd f 12584 v = f2 at *
  have HF : Hid (upd f 12584 v = f2) := hf2
  clear hf2
  have ft2 : f2 12578 < 32768 := T2.out
  have CA := fun (W : World) (h : Hid (Blk W w.heap.size cs2 28)) => writeScroll_any cs2 f2 F2.out V2.out ft2 v hv w.heap.size W h.out
  clear ft2 F2 T2
  go_upto_region 21 with (go_at_call 29; refine (CA _ B2).mono ?_; rintro e w3 ⟨rfl, O1, cs3, b3, v3⟩; have B3 : Hid (Blk w3 w.heap.size cs3 28) := b3; have V3 : Hid (Vid cs3 (scrF f2 v)) := v3; have Z3 : Hid (Blk w3 (w.heap.size + 1 + 1) Try.zeroCells28 28) := O1.blk Z2.out (by omega); have L3 : Hid (Below w.heap.size w w3) := L2.out.trans (O1.below (Nat.le_refl _)); clear b3 v3 O1 B2 Z2 L2 V2; clear CA)
  have VS : Hid (cs3.size = 12585) := V3.out.1
  have O3 : Hid (cs3.all (·.oneCell') = true) := V3.out.one
  go_wp2_with (first
        | (refine wpList_load_blk rfl 28 _ rfl w.heap.size rfl cs3 _ B3.out Try.underlying28 rfl (by rw [VS.out]; exact I8.out) ?_)
        | (refine wpList_store_blk rfl 28 _ _ rfl (w.heap.size + 1 + 1) Try.zeroCells28 cs3 28 rfl rfl Z3.out (VS.out.trans Try.zeroCells28_size.symm) (by rw [VS.out]; exact I8.out) O3.out w.heap.size w (by omega) L3.out ?_; intro w4 B4 L4 _))
  exact ret_vid Try.results13 rfl rfl B4 Try.underlying28 rfl (by rw [VS.out]; exact I8.out) ⟨cs3, rfl, by rw [HF.out]; exact V3.out, L4⟩
set_option maxRecDepth 100000 in
set_option maxHeartbeats 2000000 in
theorem write_6 (cs : Array Value) (f : Nat → Nat) (F : Fok f) (V : Vid cs f) (b : Bd) (B : b.Wf) (hval : valF f b = true) (reg : Int) (hd : bits .and .i64 reg 7 = 6) (v : Nat) (hv : v < 256) (w : World) :
    Calls Try.prog 13 #[.agg cs, .agg b.cells, .int .i64 reg, .int .u8 (v : Nat)] w fun e w' => ∃ cs', e = .returned (.agg cs') ∧ Vid cs' (plcF (upd f 12584 v) v) ∧ Below w.heap.size w w' := by
  obtain ⟨fv, ft, vb⟩ := valF_facts hval
  have F2 : Hid (Fok (upd f 12584 v)) := F.io' v hv
  have C := isB b B.rlen
  have VA := fun (W : World) (h : Hid (Blk W w.heap.size cs 28)) => vvalid_any cs f F V b B.rlen w.heap.size W h.out
  rw [hval] at VA
  have HV : Hid (Vid cs f) := V
  have T2 : Hid (upd f 12584 v 12578 < 32768) := by unfold Hid; rw [upd_ne _ _ (by decide)]; exact ft
  clear B hval F V
  generalize b.cells = bc at *
  have hbs : Hid (bc.size = 31) := C.size
  clear C
  have IB : Hid ((Try.prog.info? 37).map (·.size) = some 31) := (by kernel_rfl : (Try.prog.info? 37).map (·.size) = some 31)
  have I8 : Hid ((Try.prog.info? 28).map (·.size) = some 12585) := Try.infoVid
  go_enter Try.func13, Try.ntmps13
  go_upto_region 1 with fail
  obtain ⟨B0, BB, Z0, L0⟩ := three w cs bc Try.zeroCells28 28 37 28
  generalize (((w.alloc (.cells cs 28)).alloc (.cells bc 37)).alloc (.cells Try.zeroCells28 28)) = W at *
  go_upto_region 3 with (first
    | (refine wpList_load_want (by rfl) 37 _ rfl (w.heap.size + 1) 0 rfl bc.toList _ (Blk.range' BB.out) Try.underlying37 rfl (by rw [Array.length_toList, hbs.out]; exact IB.out) ?_; rw [Array.toArray_toList])
    | (go_at_call 25; refine (VA _ B0).mono ?_; rintro e w1 ⟨rfl, hbw⟩; have L1 : Hid (Below w.heap.size w w1) := L0.out.trans (hbw.mono (Nat.le_of_lt (Blk.lt B0.out))); have B1 : Hid (Blk w1 w.heap.size cs 28) := B0.out.below (Blk.lt B0.out) hbw; have BB1 : Hid (Blk w1 (w.heap.size + 1) bc 37) := BB.out.below (Blk.lt BB.out) hbw; have Z1 : Hid (Blk w1 (w.heap.size + 1 + 1) Try.zeroCells28 28) := Z0.out.below (Blk.lt Z0.out) hbw; have fr := B1.out.free 12584; obtain ⟨y, c2⟩ : ∃ y : Nat, w1.cell? ⟨w.heap.size, 12584, none⟩ = some (.int .u8 y) := ⟨_, (B1.out.cell _).trans (HV.out.2 12584 (by decide))⟩; clear hbw B0 BB Z0 L0 VA))
  go_upto_region 4 with fail
  have Z2 : Hid (Blk (w1.setCell ⟨w.heap.size, 12584, none⟩ (.int .u8 (v : Nat))) (w.heap.size + 1 + 1) Try.zeroCells28 28) := Z1.out.other (by omega) 12584 _
  have BB2 : Hid (Blk (w1.setCell ⟨w.heap.size, 12584, none⟩ (.int .u8 (v : Nat))) (w.heap.size + 1) bc 37) := BB1.out.other (by omega) 12584 _
  have B2 : Hid (Blk (w1.setCell ⟨w.heap.size, 12584, none⟩ (.int .u8 (v : Nat))) w.heap.size (cs.setIfInBounds 12584 (.int .u8 (v : Nat))) 28) := B1.out.set 12584 _
  have L2 : Hid (Below w.heap.size w (w1.setCell ⟨w.heap.size, 12584, none⟩ (.int .u8 (v : Nat)))) := L1.out.setCell (p := ⟨w.heap.size, 12584, none⟩) (Nat.le_refl _) _
  have V2 : Hid (Vid (cs.setIfInBounds 12584 (.int .u8 (v : Nat))) (upd f 12584 v)) := HV.out.set 12584 v _ rfl
  generalize (w1.setCell ⟨w.heap.size, 12584, none⟩ (.int .u8 (v : Nat))) = w2 at *
  generalize (cs.setIfInBounds 12584 (.int .u8 (v : Nat))) = cs2 at *
  clear B1 BB1 Z1 L1 c2 fr HV
  generalize hf2 : upd f 12584 v = f2 at *
  have HF : Hid (upd f 12584 v = f2) := hf2
  clear hf2
  have ft2 : f2 12578 < 32768 := T2.out
  have CA := fun (W : World) (h : Hid (Blk W w.heap.size cs2 28)) => writeAddr_any cs2 f2 F2.out V2.out ft2 v hv w.heap.size W h.out
  clear ft2 F2 T2
  go_upto_region 21 with (go_at_call 30; refine (CA _ B2).mono ?_; rintro e w3 ⟨rfl, O1, cs3, b3, v3⟩; have B3 : Hid (Blk w3 w.heap.size cs3 28) := b3; have V3 : Hid (Vid cs3 (plcF f2 v)) := v3; have Z3 : Hid (Blk w3 (w.heap.size + 1 + 1) Try.zeroCells28 28) := O1.blk Z2.out (by omega); have L3 : Hid (Below w.heap.size w w3) := L2.out.trans (O1.below (Nat.le_refl _)); clear b3 v3 O1 B2 Z2 L2 V2; clear CA)
  have VS : Hid (cs3.size = 12585) := V3.out.1
  have O3 : Hid (cs3.all (·.oneCell') = true) := V3.out.one
  go_wp2_with (first
        | (refine wpList_load_blk rfl 28 _ rfl w.heap.size rfl cs3 _ B3.out Try.underlying28 rfl (by rw [VS.out]; exact I8.out) ?_)
        | (refine wpList_store_blk rfl 28 _ _ rfl (w.heap.size + 1 + 1) Try.zeroCells28 cs3 28 rfl rfl Z3.out (VS.out.trans Try.zeroCells28_size.symm) (by rw [VS.out]; exact I8.out) O3.out w.heap.size w (by omega) L3.out ?_; intro w4 B4 L4 _))
  exact ret_vid Try.results13 rfl rfl B4 Try.underlying28 rfl (by rw [VS.out]; exact I8.out) ⟨cs3, rfl, by rw [HF.out]; exact V3.out, L4⟩
end Go.Proofs.Ytecaipakaaongaa
namespace Go.Proofs.Ytecaipakaaongaa
open Go.RowKit Classical
set_option maxRecDepth 100000 in
set_option maxHeartbeats 2000000 in
theorem write_bad (cs : Array Value) (f : Nat → Nat) (F : Fok f) (V : Vid cs f) (b : Bd) (B : b.Wf) (hval : valF f b = false) (reg : Int) (v : Nat) (w : World) :
    Calls Try.prog 13 #[.agg cs, .agg b.cells, .int .i64 reg, .int .u8 (v : Nat)] w fun e w' => e = .returned (.agg cs) ∧ Below w.heap.size w w' := by
  have C := isB b B.rlen
  have VA := fun (W : World) (h : Hid (Blk W w.heap.size cs 28)) => vvalid_any cs f F V b B.rlen w.heap.size W h.out
  rw [hval] at VA
  have VS : Hid (cs.size = 12585) := V.1
  have O3 : Hid (cs.all (·.oneCell') = true) := V.one
  clear B hval F V
  generalize b.cells = bc at *
  have hbs : Hid (bc.size = 31) := C.size
  clear C
  have IB : Hid ((Try.prog.info? 37).map (·.size) = some 31) := (by kernel_rfl : (Try.prog.info? 37).map (·.size) = some 31)
  have I8 : Hid ((Try.prog.info? 28).map (·.size) = some 12585) := Try.infoVid
  go_enter Try.func13, Try.ntmps13
  go_upto_region 1 with fail
  obtain ⟨B0, BB, Z0, L0⟩ := three w cs bc Try.zeroCells28 28 37 28
  generalize (((w.alloc (.cells cs 28)).alloc (.cells bc 37)).alloc (.cells Try.zeroCells28 28)) = W at *
  go_upto_region 2 with (first
    | (refine wpList_load_want (by rfl) 37 _ rfl (w.heap.size + 1) 0 rfl bc.toList _ (Blk.range' BB.out) Try.underlying37 rfl (by rw [Array.length_toList, hbs.out]; exact IB.out) ?_; rw [Array.toArray_toList])
    | (go_at_call 25; refine (VA _ B0).mono ?_; rintro e w3 ⟨rfl, hbw⟩; have L3 : Hid (Below w.heap.size w w3) := L0.out.trans (hbw.mono (Nat.le_of_lt (Blk.lt B0.out))); have B3 : Hid (Blk w3 w.heap.size cs 28) := B0.out.below (Blk.lt B0.out) hbw; have Z3 : Hid (Blk w3 (w.heap.size + 1 + 1) Try.zeroCells28 28) := Z0.out.below (Blk.lt Z0.out) hbw; clear hbw B0 BB Z0 L0 VA))
  go_wp2_with (first
        | (refine wpList_load_blk rfl 28 _ rfl w.heap.size rfl cs _ B3.out Try.underlying28 rfl (by rw [VS.out]; exact I8.out) ?_)
        | (refine wpList_store_blk rfl 28 _ _ rfl (w.heap.size + 1 + 1) Try.zeroCells28 cs 28 rfl rfl Z3.out (VS.out.trans Try.zeroCells28_size.symm) (by rw [VS.out]; exact I8.out) O3.out w.heap.size w (by omega) L3.out ?_; intro w4 B4 L4 _))
  exact ret_vid Try.results13 rfl rfl B4 Try.underlying28 rfl (by rw [VS.out]; exact I8.out) ⟨rfl, L4⟩
/-- What a write to register d makes of a valid memory. -/
def wr8 (f : Nat → Nat) (b : Bd) (d v : Nat) : Nat → Nat :=
  if d = 0 then upd (upd (upd f 12584 v) 12578 (f 12578 - f 12578 / 1024 % 4 * 1024 + v % 4 * 1024)) 12581 (v / 4 % 2)
  else if d = 1 then upd (upd f 12584 v) 12582 (v % 2)
  else if d = 3 then upd (upd f 12584 v) 256 v
  else if d = 4 then spr (upd f 12584 v) v
  else if d = 5 then scrF (upd f 12584 v) v
  else if d = 6 then plcF (upd f 12584 v) v
  else if d = 7 then onF (pokF (upd f 12584 v) b (upd f 12584 v 12577) v)
  else upd f 12584 v
def wrF (f : Nat → Nat) (b : Bd) (d v : Nat) : Nat → Nat := if valF f b = true then wr8 f b d v else f
theorem write_any (cs : Array Value) (f : Nat → Nat) (F : Fok f) (V : Vid cs f) (b : Bd) (B : b.Wf) (reg : Int) (d : Nat) (d8 : d < 8) (hd : bits .and .i64 reg 7 = (d : Int)) (v : Nat) (hv : v < 256) (w : World) :
    Calls Try.prog 13 #[.agg cs, .agg b.cells, .int .i64 reg, .int .u8 (v : Nat)] w fun e w' => ∃ cs', e = .returned (.agg cs') ∧ Vid cs' (wrF f b d v) ∧ Below w.heap.size w w' := by
  unfold wrF
  cases hval : valF f b
  · rw [if_neg (by simp)]
    exact (write_bad cs f F V b B hval reg v w).mono fun e w' h => ⟨cs, h.1, V, h.2⟩
  · rw [if_pos rfl]
    rcases (show d = 0 ∨ d = 1 ∨ d = 2 ∨ d = 3 ∨ d = 4 ∨ d = 5 ∨ d = 6 ∨ d = 7 by omega) with h | h | h | h | h | h | h | h <;> subst h
    · rcases (show v / 4 % 2 = 0 ∨ v / 4 % 2 = 1 by omega) with h | h
      · have r := write_0a cs f F V b B hval reg hd v hv h w
        rw [show (upd (upd (upd f 12584 v) 12578 (f 12578 - f 12578 / 1024 % 4 * 1024 + v % 4 * 1024)) 12581 0) = wr8 f b 0 v by unfold wr8; rw [if_pos rfl, h]] at r
        exact r
      · have r := write_0b cs f F V b B hval reg hd v hv h w
        rw [show (upd (upd (upd f 12584 v) 12578 (f 12578 - f 12578 / 1024 % 4 * 1024 + v % 4 * 1024)) 12581 1) = wr8 f b 0 v by unfold wr8; rw [if_pos rfl, h]] at r
        exact r
    · rcases (show v % 2 = 0 ∨ v % 2 = 1 by omega) with h | h
      · have r := write_1a cs f F V b B hval reg hd v hv h w
        rw [show (upd (upd f 12584 v) 12582 0) = wr8 f b 1 v by unfold wr8; rw [if_neg (by decide), if_pos rfl, h]] at r
        exact r
      · have r := write_1b cs f F V b B hval reg hd v hv h w
        rw [show (upd (upd f 12584 v) 12582 1) = wr8 f b 1 v by unfold wr8; rw [if_neg (by decide), if_pos rfl, h]] at r
        exact r
    · exact write_2 cs f F V b B hval reg hd v hv w
    · exact write_3 cs f F V b B hval reg hd v hv w
    · exact write_4 cs f F V b B hval reg hd v hv w
    · exact write_5 cs f F V b B hval reg hd v hv w
    · exact write_6 cs f F V b B hval reg hd v hv w
    · exact write_7 cs f F V b B hval reg hd v hv w
end Go.Proofs.Ytecaipakaaongaa
