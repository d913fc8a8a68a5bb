/-
  What the document's put makes of a memory that is valid with its board.
-/
import Derived.Test.YtecaipakaaongaaXVR
import Derived.Test.YtecaipakaaongaaXvRent
import Derived.Test.YtecaipakaaongaaXNR
import Derived.Test.YtecaipakaaongaaXNS
set_option linter.unusedSimpArgs false
set_option linter.unusedVariables false
namespace Go.Proofs.Ytecaipakaaongaa
open Go.RowKit Classical
set_option maxRecDepth 100000 in
set_option maxHeartbeats 2000000 in
theorem rput_pal (cs : Array Value) (f : Nat → Nat) (V : Vid cs f) (b : Bd) (B : b.Wf) (a : Nat) (ha : a < 16384) (v : Nat) (hv : v < 256) (h : 16128 ≤ a) (w : World) :
    Calls Try.prog 36 #[.agg cs, .agg b.cells, .int .i64 (a : Nat), .int .u8 (v : Nat)] w fun e w' => ∃ cs', e = .returned (.agg cs') ∧ Vid cs' (upd f (4353 + entN a) (v % 64)) ∧ Below w.heap.size w w' := by
  have HV : Hid (Vid cs f) := V
  have C := isB b B.rlen
  have a16 : a < 65536 := by omega
  have d : decide ((16128 : Int) ≤ (a : Int)) = true := decide_eq_true (by omega)
  obtain ⟨e, he⟩ : ∃ e, e = entN a := ⟨_, rfl⟩
  have e32 : e < 32 := by rw [he]; exact entN_lt a
  have EA := fun W : World => (rentry_any a a16 W).mono (R' := fun e' w' => e' = .returned (.int .i64 (entN a : Nat)) ∧ Below W.heap.size W w') fun e' w' h => ⟨h.1, by rw [h.2]; exact Below.refl _ _⟩
  rw [← he] at EA ⊢
  obtain ⟨z, hz⟩ : ∃ z, z = v % 64 := ⟨_, rfl⟩
  rw [← hz]
  have ez : (v : Int).tmod 64 = (z : Int) := by rw [Int.tmod_eq_emod_of_nonneg (by omega)]; omega
  have zb : z < 256 := by omega
  clear B V h he hz ha
  generalize b.cells = bc at *
  have hbs : Hid (bc.size = 31) := C.size
  have h6 : Hid (bc[6]? = some (.bool b.chrRam)) := C.h6
  clear C
  have IB : Hid ((Try.prog.info? 37).map (·.size) = some 31) := (by kernel_rfl : (Try.prog.info? 37).map (·.size) = some 31)
  have I8 : Hid ((Try.prog.info? 28).map (·.size) = some 12585) := Try.infoVid
  go_enter Try.func36, Try.ntmps36
  go_upto_region 1 with fail
  obtain ⟨B0, BB, Z0, L0⟩ := three w cs bc Try.zeroCells28 28 37 28
  generalize (((w.alloc (.cells cs 28)).alloc (.cells bc 37)).alloc (.cells Try.zeroCells28 28)) = w2 at *
  go_upto_region 7 with (go_at_call 44; refine (EA _).mono ?_; rintro e0 w4 ⟨rfl, hbw⟩; have B2 : Hid (Blk w4 w.heap.size cs 28) := B0.out.below (Blk.lt B0.out) hbw; have Z2 : Hid (Blk w4 (w.heap.size + 1 + 1) Try.zeroCells28 28) := Z0.out.below (Blk.lt Z0.out) hbw; have L2 : Hid (Below w.heap.size w w4) := L0.out.trans (hbw.mono (Nat.le_of_lt (Blk.lt B0.out))); have fr := B2.out.free (4353 + e); have cc := (B2.out.cell (4353 + e)).trans (HV.out.byte (4353 + e) (by omega)); clear hbw B0 BB Z0 L0)
  have Z3 : Hid (Blk (w4.setCell ⟨w.heap.size, 4353 + e, none⟩ (.int .u8 (z : Nat))) (w.heap.size + 1 + 1) Try.zeroCells28 28) := Z2.out.other (by omega) _ _
  have B3 : Hid (Blk (w4.setCell ⟨w.heap.size, 4353 + e, none⟩ (.int .u8 (z : Nat))) w.heap.size (cs.setIfInBounds (4353 + e) (.int .u8 (z : Nat))) 28) := B2.out.set _ _
  have L3 : Hid (Below w.heap.size w (w4.setCell ⟨w.heap.size, 4353 + e, none⟩ (.int .u8 (z : Nat)))) := L2.out.setCell (p := ⟨w.heap.size, 4353 + e, none⟩) (Nat.le_refl _) _
  have V3 : Hid (Vid (cs.setIfInBounds (4353 + e) (.int .u8 (z : Nat))) (upd f (4353 + e) z)) := HV.out.set _ z _ (cel_b z (by omega)).symm
  generalize (w4.setCell ⟨w.heap.size, 4353 + e, none⟩ (.int .u8 (z : Nat))) = w3 at *
  generalize (cs.setIfInBounds (4353 + e) (.int .u8 (z : Nat))) = cs3 at *
  clear Z2 B2 L2
  have VS : Hid (cs3.size = 12585) := V3.out.1
  have O3 : Hid (cs3.all (·.oneCell') = true) := V3.out.one
  go_wp2_with (first
        | (refine wpList_load_blk rfl 28 _ rfl w.heap.size rfl cs3 _ B3.out Try.underlying28 rfl (by rw [VS.out]; exact I8.out) ?_)
        | (refine wpList_store_blk rfl 28 _ _ rfl (w.heap.size + 1 + 1) Try.zeroCells28 cs3 28 rfl rfl Z3.out (VS.out.trans Try.zeroCells28_size.symm) (by rw [VS.out]; exact I8.out) O3.out w.heap.size w (by omega) L3.out ?_; intro w5 B5 L5 _))
  exact ret_vid Try.results36 rfl rfl B5 Try.underlying28 rfl (by rw [VS.out]; exact I8.out) ⟨cs3, rfl, V3.out, L5⟩
set_option maxRecDepth 100000 in
set_option maxHeartbeats 2000000 in
theorem rput_nt (cs : Array Value) (f : Nat → Nat) (V : Vid cs f) (b : Bd) (B : b.Wf) (a : Nat) (ha : a < 16384) (v : Nat) (hv : v < 256) (h : a < 16128) (h2 : 8192 ≤ a) (vb : validB b = true) (w : World) :
    Calls Try.prog 36 #[.agg cs, .agg b.cells, .int .i64 (a : Nat), .int .u8 (v : Nat)] w fun e w' => ∃ cs', e = .returned (.agg cs') ∧ Vid cs' (upd f (257 + (1024 * (pageB b (a : Int)).toNat + a % 1024)) v) ∧ Below w.heap.size w w' := by
  have HV : Hid (Vid cs f) := V
  have C := isB b B.rlen
  have a16 : a < 65536 := by omega
  have d : decide ((16128 : Int) ≤ (a : Int)) = false := decide_eq_false (by omega)
  have d2 : decide ((8192 : Int) ≤ (a : Int)) = true := decide_eq_true (by omega)
  have hpg := pageB_lt (b := b) (a : Int) (by omega)
  obtain ⟨g, hg⟩ : ∃ g : Nat, g = (pageB b (a : Int)).toNat := ⟨_, rfl⟩
  have hgi : pageB b (a : Int) = (g : Int) := by omega
  have PA := fun W => rpage_all W b (a : Int) B (by omega) (by omega)
  unfold pageA at PA
  rw [if_pos vb, hgi] at PA
  obtain ⟨m, hm⟩ : ∃ m, m = a % 1024 := ⟨_, rfl⟩
  have em : (a : Int).tmod 1024 = (m : Int) := by rw [Int.tmod_eq_emod_of_nonneg (by omega)]; omega
  obtain ⟨gg, hgg⟩ : ∃ gg, gg = 1024 * g := ⟨_, rfl⟩
  have eg : 1024 * (g : Int) = (gg : Int) := by omega
  obtain ⟨k, hk⟩ : ∃ k, k = gg + m := ⟨_, rfl⟩
  have ek : (gg : Int) + (m : Int) = (k : Int) := by omega
  have kb : k < 4096 := by omega
  have mb : m < 65536 := by omega
  have ggb : gg < 65536 := by omega
  have hkk : 257 + (1024 * (pageB b (a : Int)).toNat + a % 1024) = 257 + k := by omega
  rw [hkk]
  clear B V h h2 vb hpg hg hgi hm hgg hk hkk ha
  generalize b.cells = bc at *
  have hbs : Hid (bc.size = 31) := C.size
  have h6 : Hid (bc[6]? = some (.bool b.chrRam)) := C.h6
  clear C
  have IB : Hid ((Try.prog.info? 37).map (·.size) = some 31) := (by kernel_rfl : (Try.prog.info? 37).map (·.size) = some 31)
  have I8 : Hid ((Try.prog.info? 28).map (·.size) = some 12585) := Try.infoVid
  go_enter Try.func36, Try.ntmps36
  go_upto_region 1 with fail
  obtain ⟨B0, BB, Z0, L0⟩ := three w cs bc Try.zeroCells28 28 37 28
  generalize (((w.alloc (.cells cs 28)).alloc (.cells bc 37)).alloc (.cells Try.zeroCells28 28)) = w2 at *
  go_upto_region 7 with (first
    | (refine wpList_load_want (by rfl) 37 _ rfl (w.heap.size + 1) 0 rfl bc.toList _ (Blk.range' BB.out) Try.underlying37 rfl (by rw [Array.length_toList, hbs.out]; exact IB.out) ?_; rw [Array.toArray_toList])
    | (go_at_call 45; refine (PA _).mono ?_; rintro e0 w4 ⟨rfl, hbw⟩; have B2 : Hid (Blk w4 w.heap.size cs 28) := B0.out.below (Blk.lt B0.out) hbw; have Z2 : Hid (Blk w4 (w.heap.size + 1 + 1) Try.zeroCells28 28) := Z0.out.below (Blk.lt Z0.out) hbw; have L2 : Hid (Below w.heap.size w w4) := L0.out.trans (hbw.mono (Nat.le_of_lt (Blk.lt B0.out))); have fr := B2.out.free (257 + k); have cc := (B2.out.cell (257 + k)).trans (HV.out.byte (257 + k) (by omega)); clear hbw B0 BB Z0 L0))
  have Z3 : Hid (Blk (w4.setCell ⟨w.heap.size, 257 + k, none⟩ (.int .u8 (v : Nat))) (w.heap.size + 1 + 1) Try.zeroCells28 28) := Z2.out.other (by omega) _ _
  have B3 : Hid (Blk (w4.setCell ⟨w.heap.size, 257 + k, none⟩ (.int .u8 (v : Nat))) w.heap.size (cs.setIfInBounds (257 + k) (.int .u8 (v : Nat))) 28) := B2.out.set _ _
  have L3 : Hid (Below w.heap.size w (w4.setCell ⟨w.heap.size, 257 + k, none⟩ (.int .u8 (v : Nat)))) := L2.out.setCell (p := ⟨w.heap.size, 257 + k, none⟩) (Nat.le_refl _) _
  have V3 : Hid (Vid (cs.setIfInBounds (257 + k) (.int .u8 (v : Nat))) (upd f (257 + k) v)) := HV.out.set _ v _ (cel_b v (by omega)).symm
  generalize (w4.setCell ⟨w.heap.size, 257 + k, none⟩ (.int .u8 (v : Nat))) = w3 at *
  generalize (cs.setIfInBounds (257 + k) (.int .u8 (v : Nat))) = cs3 at *
  clear Z2 B2 L2
  have VS : Hid (cs3.size = 12585) := V3.out.1
  have O3 : Hid (cs3.all (·.oneCell') = true) := V3.out.one
  go_wp2_with (first
        | (refine wpList_load_blk rfl 28 _ rfl w.heap.size rfl cs3 _ B3.out Try.underlying28 rfl (by rw [VS.out]; exact I8.out) ?_)
        | (refine wpList_store_blk rfl 28 _ _ rfl (w.heap.size + 1 + 1) Try.zeroCells28 cs3 28 rfl rfl Z3.out (VS.out.trans Try.zeroCells28_size.symm) (by rw [VS.out]; exact I8.out) O3.out w.heap.size w (by omega) L3.out ?_; intro w5 B5 L5 _))
  exact ret_vid Try.results36 rfl rfl B5 Try.underlying28 rfl (by rw [VS.out]; exact I8.out) ⟨cs3, rfl, V3.out, L5⟩
set_option maxRecDepth 100000 in
set_option maxHeartbeats 2000000 in
theorem rput_chr (cs : Array Value) (f : Nat → Nat) (V : Vid cs f) (b : Bd) (B : b.Wf) (a : Nat) (ha : a < 16384) (v : Nat) (hv : v < 256) (h2 : a < 8192) (vb : validB b = true) (hr : b.chrRam = true) (w : World) :
    Calls Try.prog 36 #[.agg cs, .agg b.cells, .int .i64 (a : Nat), .int .u8 (v : Nat)] w fun e w' => ∃ cs', e = .returned (.agg cs') ∧ Vid cs' (upd f (4385 + (chrB b ((a : Int) / 1024) * 1024 + (a : Int) % 1024).toNat) v) ∧ Below w.heap.size w w' := by
  have HV : Hid (Vid cs f) := V
  have C := isB b B.rlen
  have a16 : a < 65536 := by omega
  have d : decide ((16128 : Int) ≤ (a : Int)) = false := decide_eq_false (by omega)
  have d2 : decide ((8192 : Int) ≤ (a : Int)) = false := decide_eq_false (by omega)
  have hcl := chrB_ram (Bd.ok B vb) hr ((a : Int) / 1024)
  obtain ⟨k, hk⟩ : ∃ k : Nat, k = (chrB b ((a : Int) / 1024) * 1024 + (a : Int) % 1024).toNat := ⟨_, rfl⟩
  have hki : chrB b ((a : Int) / 1024) * 1024 + (a : Int) % 1024 = (k : Int) := by omega
  have CA := fun W => rchrAt_all W b (a : Int) B (by omega) (by omega)
  unfold chrAtA at CA
  rw [if_pos ⟨vb, by omega⟩, hki] at CA
  have kb : k < 8192 := by omega
  rw [← hk]
  clear B V h2 vb hcl hk hki ha
  generalize b.cells = bc at *
  have hbs : Hid (bc.size = 31) := C.size
  have h6 : Hid (bc[6]? = some (.bool b.chrRam)) := C.h6
  clear C
  have IB : Hid ((Try.prog.info? 37).map (·.size) = some 31) := (by kernel_rfl : (Try.prog.info? 37).map (·.size) = some 31)
  have I8 : Hid ((Try.prog.info? 28).map (·.size) = some 12585) := Try.infoVid
  go_enter Try.func36, Try.ntmps36
  go_upto_region 1 with fail
  obtain ⟨B0, BB, Z0, L0⟩ := three w cs bc Try.zeroCells28 28 37 28
  generalize (((w.alloc (.cells cs 28)).alloc (.cells bc 37)).alloc (.cells Try.zeroCells28 28)) = w2 at *
  have c6 : w2.cell? ⟨w.heap.size + 1, 6, none⟩ = some (.bool true) := (BB.out.cell 6).trans (h6.out.trans (by rw [hr]))
  clear hr h6
  go_upto_region 7 with (first
    | (refine wpList_load_want (by rfl) 37 _ rfl (w.heap.size + 1) 0 rfl bc.toList _ (Blk.range' BB.out) Try.underlying37 rfl (by rw [Array.length_toList, hbs.out]; exact IB.out) ?_; rw [Array.toArray_toList])
    | (go_at_call 46; refine (CA _).mono ?_; rintro e0 w4 ⟨rfl, hbw⟩; have B2 : Hid (Blk w4 w.heap.size cs 28) := B0.out.below (Blk.lt B0.out) hbw; have Z2 : Hid (Blk w4 (w.heap.size + 1 + 1) Try.zeroCells28 28) := Z0.out.below (Blk.lt Z0.out) hbw; have L2 : Hid (Below w.heap.size w w4) := L0.out.trans (hbw.mono (Nat.le_of_lt (Blk.lt B0.out))); have fr := B2.out.free (4385 + k); have cc := (B2.out.cell (4385 + k)).trans (HV.out.byte (4385 + k) (by omega)); clear hbw B0 BB Z0 L0; clear c6))
  have Z3 : Hid (Blk (w4.setCell ⟨w.heap.size, 4385 + k, none⟩ (.int .u8 (v : Nat))) (w.heap.size + 1 + 1) Try.zeroCells28 28) := Z2.out.other (by omega) _ _
  have B3 : Hid (Blk (w4.setCell ⟨w.heap.size, 4385 + k, none⟩ (.int .u8 (v : Nat))) w.heap.size (cs.setIfInBounds (4385 + k) (.int .u8 (v : Nat))) 28) := B2.out.set _ _
  have L3 : Hid (Below w.heap.size w (w4.setCell ⟨w.heap.size, 4385 + k, none⟩ (.int .u8 (v : Nat)))) := L2.out.setCell (p := ⟨w.heap.size, 4385 + k, none⟩) (Nat.le_refl _) _
  have V3 : Hid (Vid (cs.setIfInBounds (4385 + k) (.int .u8 (v : Nat))) (upd f (4385 + k) v)) := HV.out.set _ v _ (cel_b v (by omega)).symm
  generalize (w4.setCell ⟨w.heap.size, 4385 + k, none⟩ (.int .u8 (v : Nat))) = w3 at *
  generalize (cs.setIfInBounds (4385 + k) (.int .u8 (v : Nat))) = cs3 at *
  clear Z2 B2 L2
  have VS : Hid (cs3.size = 12585) := V3.out.1
  have O3 : Hid (cs3.all (·.oneCell') = true) := V3.out.one
  go_wp2_with (first
        | (refine wpList_load_blk rfl 28 _ rfl w.heap.size rfl cs3 _ B3.out Try.underlying28 rfl (by rw [VS.out]; exact I8.out) ?_)
        | (refine wpList_store_blk rfl 28 _ _ rfl (w.heap.size + 1 + 1) Try.zeroCells28 cs3 28 rfl rfl Z3.out (VS.out.trans Try.zeroCells28_size.symm) (by rw [VS.out]; exact I8.out) O3.out w.heap.size w (by omega) L3.out ?_; intro w5 B5 L5 _))
  exact ret_vid Try.results36 rfl rfl B5 Try.underlying28 rfl (by rw [VS.out]; exact I8.out) ⟨cs3, rfl, V3.out, L5⟩
set_option maxRecDepth 100000 in
set_option maxHeartbeats 2000000 in
theorem rput_no (cs : Array Value) (f : Nat → Nat) (V : Vid cs f) (b : Bd) (B : b.Wf) (a : Nat) (ha : a < 16384) (v : Nat) (hv : v < 256) (h2 : a < 8192) (hr : b.chrRam = false) (w : World) :
    Calls Try.prog 36 #[.agg cs, .agg b.cells, .int .i64 (a : Nat), .int .u8 (v : Nat)] w fun e w' => ∃ cs', e = .returned (.agg cs') ∧ Vid cs' f ∧ Below w.heap.size w w' := by
  have HV : Hid (Vid cs f) := V
  have C := isB b B.rlen
  have a16 : a < 65536 := by omega
  have d : decide ((16128 : Int) ≤ (a : Int)) = false := decide_eq_false (by omega)
  have d2 : decide ((8192 : Int) ≤ (a : Int)) = false := decide_eq_false (by omega)
  clear B V h2 ha
  generalize b.cells = bc at *
  have hbs : Hid (bc.size = 31) := C.size
  have h6 : Hid (bc[6]? = some (.bool b.chrRam)) := C.h6
  clear C
  have IB : Hid ((Try.prog.info? 37).map (·.size) = some 31) := (by kernel_rfl : (Try.prog.info? 37).map (·.size) = some 31)
  have I8 : Hid ((Try.prog.info? 28).map (·.size) = some 12585) := Try.infoVid
  go_enter Try.func36, Try.ntmps36
  go_upto_region 1 with fail
  obtain ⟨B0, BB, Z0, L0⟩ := three w cs bc Try.zeroCells28 28 37 28
  generalize (((w.alloc (.cells cs 28)).alloc (.cells bc 37)).alloc (.cells Try.zeroCells28 28)) = w2 at *
  have c6 : w2.cell? ⟨w.heap.size + 1, 6, none⟩ = some (.bool false) := (BB.out.cell 6).trans (h6.out.trans (by rw [hr]))
  clear hr h6
  go_upto_region 7 with fail
  clear c6 BB
  have B2 := B0
  have Z2 := Z0
  have L2 := L0
  clear B0 Z0 L0
  generalize w2 = w4 at *
  have Z3 := Z2
  have B3 := B2
  have L3 := L2
  have V3 := HV
  clear Z2 B2 L2
  generalize w4 = w3 at *
  generalize cs = cs3 at *
  have VS : Hid (cs3.size = 12585) := V3.out.1
  have O3 : Hid (cs3.all (·.oneCell') = true) := V3.out.one
  go_wp2_with (first
        | (refine wpList_load_blk rfl 28 _ rfl w.heap.size rfl cs3 _ B3.out Try.underlying28 rfl (by rw [VS.out]; exact I8.out) ?_)
        | (refine wpList_store_blk rfl 28 _ _ rfl (w.heap.size + 1 + 1) Try.zeroCells28 cs3 28 rfl rfl Z3.out (VS.out.trans Try.zeroCells28_size.symm) (by rw [VS.out]; exact I8.out) O3.out w.heap.size w (by omega) L3.out ?_; intro w5 B5 L5 _))
  exact ret_vid Try.results36 rfl rfl B5 Try.underlying28 rfl (by rw [VS.out]; exact I8.out) ⟨cs3, rfl, V3.out, L5⟩
theorem rput_any (cs : Array Value) (f : Nat → Nat) (V : Vid cs f) (b : Bd) (B : b.Wf) (vb : validB b = true) (a : Nat) (ha : a < 16384) (v : Nat) (hv : v < 256) (w : World) :
    Calls Try.prog 36 #[.agg cs, .agg b.cells, .int .i64 (a : Nat), .int .u8 (v : Nat)] w fun e w' => ∃ cs', e = .returned (.agg cs') ∧ Vid cs' (pokF f b a v) ∧ Below w.heap.size w w' := by
  have ea : a % 16384 = a := Nat.mod_eq_of_lt ha
  unfold pokF whr pkv
  rw [ea]
  by_cases h1 : 16128 ≤ a
  · rw [if_neg (by omega), if_pos h1, if_pos h1]
    exact rput_pal cs f V b B a ha v hv h1 w
  by_cases h2 : 8192 ≤ a
  · rw [if_neg (by omega), if_neg h1, if_neg h1, if_pos h2]
    exact rput_nt cs f V b B a ha v hv (by omega) h2 vb w
  cases hr : b.chrRam
  · rw [if_pos ⟨by omega, rfl⟩]
    exact rput_no cs f V b B a ha v hv (by omega) hr w
  · rw [if_neg (by simp), if_neg h1, if_neg h1, if_neg h2]
    exact rput_chr cs f V b B a ha v hv (by omega) vb hr w
end Go.Proofs.Ytecaipakaaongaa
