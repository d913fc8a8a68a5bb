/-
  The law VramWrites, for every video memory, every board, every register and every byte.
-/
import Derived.Test.YtecaipakaaongaaXvRWr
import Derived.Test.YtecaipakaaongaaXvEq
set_option linter.unusedSimpArgs false
set_option linter.unusedVariables false
namespace Go.Proofs.Ytecaipakaaongaa
open Go.RowKit Classical
theorem i64_and7 (n : Int) : bits .and .i64 n 7 = n % 8 := by
  have h : (BitVec.ofInt 64 7).toNat = 2 ^ 3 - 1 := by decide
  have key : (BitVec.ofInt 64 n &&& BitVec.ofInt 64 7).toNat = (n % ((2 ^ 64 : Nat) : Int)).toNat % 2 ^ 3 := by
    rw [BitVec.toNat_and, BitVec.toNat_ofInt, h, Nat.and_two_pow_sub_one_eq_mod]
  show IntKind.i64.wrap ((BitVec.ofInt 64 n &&& BitVec.ofInt 64 7).toNat : Nat) = n % 8
  rw [key, IntKind.wrap_i64]
  omega
set_option maxRecDepth 100000 in
set_option maxHeartbeats 2000000 in
theorem writes_law (cs : Array Value) (f : Nat → Nat) (F : Fok f) (V : Vid cs f) (b : Bd) (B : b.Wf) (reg : Int) (x : Nat) (hx : x < 256) (w : World) :
    Calls Try.prog 5 #[.agg cs, .agg b.cells, .int .i64 reg, .int .u8 (x : Nat)] w fun e w' => e = .returned (.bool true) ∧ Below w.heap.size w w' := by
  obtain ⟨d, hd⟩ : ∃ d : Nat, bits .and .i64 reg 7 = (d : Int) := ⟨(reg % 8).toNat, by rw [i64_and7]; omega⟩
  have d8 : d < 8 := by
    have := i64_and7 reg
    omega
  have CA : Hid (∀ v, Calls Try.prog 13 #[.agg cs, .agg b.cells, .int .i64 reg, .int .u8 (x : Nat)] v fun e w' => ∃ y, e = .returned y ∧ ∃ cs', y = .agg cs' ∧ Vid cs' (wrF f b d x) ∧ Below v.heap.size v w') := fun v => (write_any cs f F V b B reg d d8 hd x hx v).mono fun e w' ⟨cs', h1, h2, h3⟩ => ⟨.agg cs', h1, cs', rfl, h2, h3⟩
  have RA : Hid (∀ v, Calls Try.prog 14 #[.agg cs, .agg b.cells, .int .i64 reg, .int .u8 (x : Nat)] v fun e w' => ∃ y, e = .returned y ∧ ∃ cs', y = .agg cs' ∧ Vid cs' (wrF f b d x) ∧ Below v.heap.size v w') := fun v => (rwrite_any cs f F V b B reg d d8 hd x hx v).mono fun e w' ⟨cs', h1, h2, h3⟩ => ⟨.agg cs', h1, cs', rfl, h2, h3⟩
  clear d8 hd
  have C := isB b B.rlen
  generalize b.cells = bc at *
  have hbs : Hid (bc.size = 31) := C.size
  have hb6 : Hid (bc[6]? = some (.bool b.chrRam)) := C.h6
  clear C
  have IB : Hid ((Try.prog.info? 37).map (·.size) = some 31) := (by kernel_rfl : (Try.prog.info? 37).map (·.size) = some 31)
  have I8 : Hid ((Try.prog.info? 28).map (·.size) = some 12585) := Try.infoVid
  have VS : Hid (cs.size = 12585) := V.1
  generalize wrF f b d x = f9 at *
  go_enter Try.func5, Try.ntmps5
  go_upto_region 1 with fail
  have BV : Hid (Blk ((w.alloc (.cells cs 28)).alloc (.cells bc 37)) w.heap.size cs 28) := (Blk.new w cs _).old _
  have BB : Hid (Blk ((w.alloc (.cells cs 28)).alloc (.cells bc 37)) (w.heap.size + 1) bc 37) := by
    have := Blk.new (w.alloc (.cells cs 28)) bc 37
    rwa [World.size_alloc] at this
  have L0 : Hid (Below w.heap.size w ((w.alloc (.cells cs 28)).alloc (.cells bc 37))) := below_allocs _ _
  generalize ((w.alloc (.cells cs 28)).alloc (.cells bc 37)) = W at *
  have s0 : Below W.heap.size W W.drew := (Below.refl _ _).drew
  refine wp_region_held (S := fun v => Below W.heap.size W v) (by kernel_rfl) ?_
  refine takeH (i := 0) (v := .agg cs) _ rfl (by kernel_rfl) (by kernel_rfl) (by kernel_rfl) (fun _ _ _ h => h) (yieldsVd (by kernel_rfl) (.tmp 4) rfl w.heap.size (by kernel_rfl) cs (fun v hv => Blk.below BV.out (Blk.lt BV.out) hv) VS.out) s0 rfl ?_
  refine takeH (i := 1) (v := .agg bc) _ rfl (by kernel_rfl) (by kernel_rfl) (by kernel_rfl) (fun _ _ _ h => h) (yieldsBd (by kernel_rfl) (.tmp 5) rfl (w.heap.size + 1) (by kernel_rfl) bc (fun v hv => Blk.below BB.out (Blk.lt BB.out) hv) hbs.out) s0 rfl ?_
  refine takeH (i := 2) (v := .int .i64 reg) _ rfl (by kernel_rfl) (by kernel_rfl) (by kernel_rfl) (fun _ _ _ h => h) (.inl ⟨by kernel_rfl, fun _ _ => by kernel_rfl⟩) s0 rfl ?_
  refine takeH (i := 3) (v := .int .u8 (x : Nat)) _ rfl (by kernel_rfl) (by kernel_rfl) (by kernel_rfl) (fun _ _ _ h => h) (.inl ⟨by kernel_rfl, fun _ _ => by kernel_rfl⟩) s0 rfl ?_
  refine takeH (i := 5) (v := .agg cs) _ rfl (by kernel_rfl) (by kernel_rfl) (by kernel_rfl) (fun _ _ _ h => h) (yieldsVd (by kernel_rfl) (.tmp 4) rfl w.heap.size (by kernel_rfl) cs (fun v hv => Blk.below BV.out (Blk.lt BV.out) hv) VS.out) s0 rfl ?_
  refine takeH (i := 6) (v := .agg bc) _ rfl (by kernel_rfl) (by kernel_rfl) (by kernel_rfl) (fun _ _ _ h => h) (yieldsBd (by kernel_rfl) (.tmp 5) rfl (w.heap.size + 1) (by kernel_rfl) bc (fun v hv => Blk.below BB.out (Blk.lt BB.out) hv) hbs.out) s0 rfl ?_
  refine takeH (i := 7) (v := .int .i64 reg) _ rfl (by kernel_rfl) (by kernel_rfl) (by kernel_rfl) (fun _ _ _ h => h) (.inl ⟨by kernel_rfl, fun _ _ => by kernel_rfl⟩) s0 rfl ?_
  refine takeH (i := 8) (v := .int .u8 (x : Nat)) _ rfl (by kernel_rfl) (by kernel_rfl) (by kernel_rfl) (fun _ _ _ h => h) (.inl ⟨by kernel_rfl, fun _ _ => by kernel_rfl⟩) s0 rfl ?_
  refine callHE (i := 4) (f := 13) (by kernel_rfl) rfl (by kernel_rfl) (by kernel_rfl) (CA.out _) ?_
  rintro x1 Wa ⟨ca, rfl, Va, hba⟩
  have s1 : Below W.heap.size W Wa := s0.trans (hba.mono (Nat.le_refl _))
  refine ⟨s1, ?_⟩
  clear hba s0 CA
  refine callHE (i := 9) (f := 14) (by kernel_rfl) rfl (by kernel_rfl) (by kernel_rfl) (RA.out _) ?_
  rintro x2 Wb ⟨cb, rfl, Vb, hbb⟩
  have s2 : Below W.heap.size W Wb := s1.trans (hbb.mono s1.size)
  refine ⟨s2, ?_⟩
  clear hbb s1 RA
  refine takeH (i := 10) (v := .bool true) _ rfl (by kernel_rfl) (by kernel_rfl) (by kernel_rfl) (fun _ _ _ h => h) (.inl ⟨by kernel_rfl, fun v _ => exec_eqVid rfl (by kernel_rfl) (by kernel_rfl) Va Vb⟩) s2 rfl ?_
  refine takeH (i := 11) (v := .bool true) _ rfl (by kernel_rfl) (by kernel_rfl) (by kernel_rfl) (fun _ _ _ h => h) (.inl ⟨by kernel_rfl, fun _ _ => by kernel_rfl⟩) s2 rfl ?_
  refine wpAnyH_done (by kernel_rfl) ?_ _
  go_wp2
  refine bodyPost_ret (v := .bool true) ((results_tmp Try.results5 _ _ _).trans (by kernel_rfl)) (by kernel_rfl) ?_
  exact ⟨rfl, L0.out.trans (s2.mono (Nat.le_of_lt (Blk.lt BV.out)))⟩
end Go.Proofs.Ytecaipakaaongaa
