/-
  What the document's on answers of every video memory.
  What the document's place answers of every video memory.
  What the document's scroll answers of every video memory.
-/
import Derived.Test.YtecaipakaaongaaXVW
set_option linter.unusedSimpArgs false
set_option linter.unusedVariables false
namespace Go.Proofs.Ytecaipakaaongaa
open Go.RowKit Classical
theorem two (w : World) (a c : Array Value) (s u : TypeId) : Hid (Blk ((w.alloc (.cells a s)).alloc (.cells c u)) w.heap.size a s) ∧ Hid (Blk ((w.alloc (.cells a s)).alloc (.cells c u)) (w.heap.size + 1) c u) ∧ Hid (Below w.heap.size w ((w.alloc (.cells a s)).alloc (.cells c u))) := by
  refine ⟨(Blk.new w a _).old _, ?_, below_allocs _ _⟩
  have h := Blk.new (w.alloc (.cells a s)) c u
  rwa [World.size_alloc] at h
set_option maxRecDepth 100000 in
set_option maxHeartbeats 2000000 in
theorem ron_a (cs : Array Value) (f : Nat → Nat) (F : Fok f) (V : Vid cs f) (hm : f 12581 = 0) (w : World) :
    Calls Try.prog 35 #[.agg cs] w fun e w' => ∃ cs', e = .returned (.agg cs') ∧ Vid cs' (onF f) ∧ Below w.heap.size w w' := by
  have HV : Hid (Vid cs f) := V
  obtain ⟨v, hv⟩ : ∃ v, v = f 12577 := ⟨_, rfl⟩
  have vb : v < 65536 := by rw [hv]; exact F.v
  obtain ⟨n, hn⟩ : ∃ n, n = (v + 1) % 32768 := ⟨_, rfl⟩
  have nb : n < 65536 := by omega
  have en : ((v : Int) + 1).tmod 32768 = (n : Int) := by rw [Int.tmod_eq_emod_of_nonneg (by omega)]; omega
  have EF : Hid (onF f = upd f 12577 n) := by unfold Hid onF; rw [hm, hn, hv]; rfl
  have c7' : ∀ (W : World) p, Blk W p cs 28 → W.cell? ⟨p, 12577, none⟩ = some (.int .u16 (v : Nat)) := fun W p h => by rw [hv]; exact (h.cell _).trans (V.2 12577 (by decide))
  have c1' : ∀ (W : World) p, Blk W p cs 28 → W.cell? ⟨p, 12581, none⟩ = some (.bool false) := fun W p h => (h.cell _).trans ((V.2 12581 (by decide)).trans (by rw [hm]; rfl))
  have I8 : Hid ((Try.prog.info? 28).map (·.size) = some 12585) := Try.infoVid
  clear hn hv F V hm
  go_enter Try.func35, Try.ntmps35
  go_upto_region 1 with fail
  obtain ⟨B2, Z2, L2⟩ := two w cs Try.zeroCells28 28 28
  generalize ((w.alloc (.cells cs 28)).alloc (.cells Try.zeroCells28 28)) = w2 at *
  have c7 := c7' w2 w.heap.size B2.out
  have c1 := c1' w2 w.heap.size B2.out
  have fr := B2.out.free 12577
  clear c7' c1'
  go_upto_region 5 with fail
  clear c7 c1 fr
  have Z3 : Hid (Blk (w2.setCell ⟨w.heap.size, 12577, none⟩ (.int .u16 (n : Nat))) (w.heap.size + 1) Try.zeroCells28 28) := Z2.out.other (by omega) 12577 _
  have B3 : Hid (Blk (w2.setCell ⟨w.heap.size, 12577, none⟩ (.int .u16 (n : Nat))) w.heap.size (cs.setIfInBounds 12577 (.int .u16 (n : Nat))) 28) := B2.out.set 12577 _
  have L3 : Hid (Below w.heap.size w (w2.setCell ⟨w.heap.size, 12577, none⟩ (.int .u16 (n : Nat)))) := L2.out.setCell (p := ⟨w.heap.size, 12577, none⟩) (Nat.le_refl _) _
  have V3 : Hid (Vid (cs.setIfInBounds 12577 (.int .u16 (n : Nat))) (onF f)) := by rw [EF.out]; exact HV.out.set 12577 n _ rfl
  generalize (w2.setCell ⟨w.heap.size, 12577, none⟩ (.int .u16 (n : Nat))) = w3 at *
  generalize (cs.setIfInBounds 12577 (.int .u16 (n : Nat))) = cs3 at *
  clear Z2 B2 L2 EF HV
  have VS : Hid (cs3.size = 12585) := V3.out.1
  have O3 : Hid (cs3.all (·.oneCell') = true) := V3.out.one
  go_wp2_with (first
        | (refine wpList_load_blk rfl 28 _ rfl w.heap.size rfl cs3 _ B3.out Try.underlying28 rfl (by rw [VS.out]; exact I8.out) ?_)
        | (refine wpList_store_blk rfl 28 _ _ rfl (w.heap.size + 1) Try.zeroCells28 cs3 28 rfl rfl Z3.out (VS.out.trans Try.zeroCells28_size.symm) (by rw [VS.out]; exact I8.out) O3.out w.heap.size w (by omega) L3.out ?_; intro w4 B4 L4 _))
  exact ret_vid Try.results35 rfl rfl B4 Try.underlying28 rfl (by rw [VS.out]; exact I8.out) ⟨cs3, rfl, V3.out, L4⟩
set_option maxRecDepth 100000 in
set_option maxHeartbeats 2000000 in
theorem ron_b (cs : Array Value) (f : Nat → Nat) (F : Fok f) (V : Vid cs f) (hm : f 12581 = 1) (w : World) :
    Calls Try.prog 35 #[.agg cs] w fun e w' => ∃ cs', e = .returned (.agg cs') ∧ Vid cs' (onF f) ∧ Below w.heap.size w w' := by
  have HV : Hid (Vid cs f) := V
  obtain ⟨v, hv⟩ : ∃ v, v = f 12577 := ⟨_, rfl⟩
  have vb : v < 65536 := by rw [hv]; exact F.v
  obtain ⟨n, hn⟩ : ∃ n, n = (v + 32) % 32768 := ⟨_, rfl⟩
  have nb : n < 65536 := by omega
  have en : ((v : Int) + 32).tmod 32768 = (n : Int) := by rw [Int.tmod_eq_emod_of_nonneg (by omega)]; omega
  have EF : Hid (onF f = upd f 12577 n) := by unfold Hid onF; rw [hm, hn, hv]; rfl
  have c7' : ∀ (W : World) p, Blk W p cs 28 → W.cell? ⟨p, 12577, none⟩ = some (.int .u16 (v : Nat)) := fun W p h => by rw [hv]; exact (h.cell _).trans (V.2 12577 (by decide))
  have c1' : ∀ (W : World) p, Blk W p cs 28 → W.cell? ⟨p, 12581, none⟩ = some (.bool true) := fun W p h => (h.cell _).trans ((V.2 12581 (by decide)).trans (by rw [hm]; rfl))
  have I8 : Hid ((Try.prog.info? 28).map (·.size) = some 12585) := Try.infoVid
  clear hn hv F V hm
  go_enter Try.func35, Try.ntmps35
  go_upto_region 1 with fail
  obtain ⟨B2, Z2, L2⟩ := two w cs Try.zeroCells28 28 28
  generalize ((w.alloc (.cells cs 28)).alloc (.cells Try.zeroCells28 28)) = w2 at *
  have c7 := c7' w2 w.heap.size B2.out
  have c1 := c1' w2 w.heap.size B2.out
  have fr := B2.out.free 12577
  clear c7' c1'
  go_upto_region 5 with fail
  clear c7 c1 fr
  have Z3 : Hid (Blk (w2.setCell ⟨w.heap.size, 12577, none⟩ (.int .u16 (n : Nat))) (w.heap.size + 1) Try.zeroCells28 28) := Z2.out.other (by omega) 12577 _
  have B3 : Hid (Blk (w2.setCell ⟨w.heap.size, 12577, none⟩ (.int .u16 (n : Nat))) w.heap.size (cs.setIfInBounds 12577 (.int .u16 (n : Nat))) 28) := B2.out.set 12577 _
  have L3 : Hid (Below w.heap.size w (w2.setCell ⟨w.heap.size, 12577, none⟩ (.int .u16 (n : Nat)))) := L2.out.setCell (p := ⟨w.heap.size, 12577, none⟩) (Nat.le_refl _) _
  have V3 : Hid (Vid (cs.setIfInBounds 12577 (.int .u16 (n : Nat))) (onF f)) := by rw [EF.out]; exact HV.out.set 12577 n _ rfl
  generalize (w2.setCell ⟨w.heap.size, 12577, none⟩ (.int .u16 (n : Nat))) = w3 at *
  generalize (cs.setIfInBounds 12577 (.int .u16 (n : Nat))) = cs3 at *
  clear Z2 B2 L2 EF HV
  have VS : Hid (cs3.size = 12585) := V3.out.1
  have O3 : Hid (cs3.all (·.oneCell') = true) := V3.out.one
  go_wp2_with (first
        | (refine wpList_load_blk rfl 28 _ rfl w.heap.size rfl cs3 _ B3.out Try.underlying28 rfl (by rw [VS.out]; exact I8.out) ?_)
        | (refine wpList_store_blk rfl 28 _ _ rfl (w.heap.size + 1) Try.zeroCells28 cs3 28 rfl rfl Z3.out (VS.out.trans Try.zeroCells28_size.symm) (by rw [VS.out]; exact I8.out) O3.out w.heap.size w (by omega) L3.out ?_; intro w4 B4 L4 _))
  exact ret_vid Try.results35 rfl rfl B4 Try.underlying28 rfl (by rw [VS.out]; exact I8.out) ⟨cs3, rfl, V3.out, L4⟩
theorem ron_any (cs : Array Value) (f : Nat → Nat) (F : Fok f) (V : Vid cs f) (w : World) :
    Calls Try.prog 35 #[.agg cs] w fun e w' => ∃ cs', e = .returned (.agg cs') ∧ Vid cs' (onF f) ∧ Below w.heap.size w w' := by
  have h2 := F.wide
  rcases (show f 12581 = 0 ∨ f 12581 = 1 by omega) with h | h
  · exact ron_a cs f F V h w
  · exact ron_b cs f F V h w
end Go.Proofs.Ytecaipakaaongaa
namespace Go.Proofs.Ytecaipakaaongaa
open Go.RowKit Classical
set_option maxRecDepth 100000 in
set_option maxHeartbeats 2000000 in
theorem rplace_b (cs : Array Value) (f : Nat → Nat) (F : Fok f) (V : Vid cs f) (ht : f 12578 < 32768) (hm : f 12580 = 1) (v : Nat) (hv : v < 256) (w : World) :
    Calls Try.prog 34 #[.agg cs, .int .i64 (v : Nat)] w fun e w' => ∃ cs', e = .returned (.agg cs') ∧ Vid cs' (plcF f v) ∧ Below w.heap.size w w' := by
  have HV : Hid (Vid cs f) := V
  obtain ⟨t, ht2⟩ : ∃ t, t = f 12578 := ⟨_, rfl⟩
  have tb : t < 32768 := by omega
  obtain ⟨z, hz⟩ : ∃ z, z = t / 256 * 256 + v := ⟨_, rfl⟩
  obtain ⟨q, hq⟩ : ∃ q, q = t / 256 := ⟨_, rfl⟩
  obtain ⟨q2, hq2⟩ : ∃ q2, q2 = q * 256 := ⟨_, rfl⟩
  have e1 : (t : Int) / 256 = (q : Int) := by omega
  have e2 : (q : Int) * 256 = (q2 : Int) := by omega
  have e3 : (q2 : Int) + (v : Int) = (z : Int) := by omega
  have qb : q < 65536 := by omega
  have q2b : q2 < 65536 := by omega
  have zb : z < 65536 := by omega
  have EF : Hid (plcF f v = (upd (upd (upd f 12578 z) 12577 z) 12580 0)) := by unfold Hid plcF; rw [hm, ← ht2]; rw [if_pos rfl, ← hz]
  have c8' : ∀ (W : World) p, Blk W p cs 28 → W.cell? ⟨p, 12578, none⟩ = some (.int .u16 (t : Nat)) := fun W p h => by rw [ht2]; exact (h.cell _).trans (V.2 12578 (by decide))
  have c7' : ∀ (W : World) p, Blk W p cs 28 → W.cell? ⟨p, 12577, none⟩ = some (.int .u16 (f 12577 : Nat)) := fun W p h => (h.cell _).trans (V.2 12577 (by decide))
  have c1' : ∀ (W : World) p, Blk W p cs 28 → W.cell? ⟨p, 12580, none⟩ = some (.bool true) := fun W p h => (h.cell _).trans ((V.2 12580 (by decide)).trans (by rw [hm]; rfl))
  have I8 : Hid ((Try.prog.info? 28).map (·.size) = some 12585) := Try.infoVid
  clear ht ht2 hz hq hq2 F V hm
  go_enter Try.func34, Try.ntmps34
  go_upto_region 1 with fail
  obtain ⟨B2, Z2, L2⟩ := two w cs Try.zeroCells28 28 28
  generalize ((w.alloc (.cells cs 28)).alloc (.cells Try.zeroCells28 28)) = w2 at *
  have c7 := c7' w2 w.heap.size B2.out
  have c8 := c8' w2 w.heap.size B2.out
  have c1 := c1' w2 w.heap.size B2.out
  have fr7 := B2.out.free 12577
  have fr8 := B2.out.free 12578
  have fr := B2.out.free 12580
  clear c7' c1' c8'
  generalize f 12577 = v7 at c7
  go_upto_region 6 with fail
  clear c7 c1 c8 fr fr7 fr8
  have Z3 : Hid (Blk (((w2.setCell ⟨w.heap.size, 12578, none⟩ (.int .u16 (z : Nat))).setCell ⟨w.heap.size, 12577, none⟩ (.int .u16 (z : Nat))).setCell ⟨w.heap.size, 12580, none⟩ (.bool false)) (w.heap.size + 1) Try.zeroCells28 28) := (Blk.other ((Blk.other ((Blk.other (Z2.out) (by omega) 12578 _)) (by omega) 12577 _)) (by omega) 12580 _)
  have B3 : Hid (Blk (((w2.setCell ⟨w.heap.size, 12578, none⟩ (.int .u16 (z : Nat))).setCell ⟨w.heap.size, 12577, none⟩ (.int .u16 (z : Nat))).setCell ⟨w.heap.size, 12580, none⟩ (.bool false)) w.heap.size (((cs.setIfInBounds 12578 (.int .u16 (z : Nat))).setIfInBounds 12577 (.int .u16 (z : Nat))).setIfInBounds 12580 (.bool false)) 28) := (Blk.set ((Blk.set ((Blk.set (B2.out) 12578 _)) 12577 _)) 12580 _)
  have L3 : Hid (Below w.heap.size w (((w2.setCell ⟨w.heap.size, 12578, none⟩ (.int .u16 (z : Nat))).setCell ⟨w.heap.size, 12577, none⟩ (.int .u16 (z : Nat))).setCell ⟨w.heap.size, 12580, none⟩ (.bool false))) := (Below.setCell (p := ⟨w.heap.size, 12580, none⟩) ((Below.setCell (p := ⟨w.heap.size, 12577, none⟩) ((Below.setCell (p := ⟨w.heap.size, 12578, none⟩) (L2.out) (Nat.le_refl _) _)) (Nat.le_refl _) _)) (Nat.le_refl _) _)
  have V3 : Hid (Vid (((cs.setIfInBounds 12578 (.int .u16 (z : Nat))).setIfInBounds 12577 (.int .u16 (z : Nat))).setIfInBounds 12580 (.bool false)) (plcF f v)) := by rw [EF.out]; exact (Vid.set ((Vid.set ((Vid.set (HV.out) 12578 z _ rfl)) 12577 z _ rfl)) 12580 0 _ rfl)
  generalize (((w2.setCell ⟨w.heap.size, 12578, none⟩ (.int .u16 (z : Nat))).setCell ⟨w.heap.size, 12577, none⟩ (.int .u16 (z : Nat))).setCell ⟨w.heap.size, 12580, none⟩ (.bool false)) = w3 at *
  generalize (((cs.setIfInBounds 12578 (.int .u16 (z : Nat))).setIfInBounds 12577 (.int .u16 (z : Nat))).setIfInBounds 12580 (.bool false)) = cs3 at *
  clear Z2 B2 L2 EF HV
  have VS : Hid (cs3.size = 12585) := V3.out.1
  have O3 : Hid (cs3.all (·.oneCell') = true) := V3.out.one
  go_wp2_with (first
        | (refine wpList_load_blk rfl 28 _ rfl w.heap.size rfl cs3 _ B3.out Try.underlying28 rfl (by rw [VS.out]; exact I8.out) ?_)
        | (refine wpList_store_blk rfl 28 _ _ rfl (w.heap.size + 1) Try.zeroCells28 cs3 28 rfl rfl Z3.out (VS.out.trans Try.zeroCells28_size.symm) (by rw [VS.out]; exact I8.out) O3.out w.heap.size w (by omega) L3.out ?_; intro w4 B4 L4 _))
  exact ret_vid Try.results34 rfl rfl B4 Try.underlying28 rfl (by rw [VS.out]; exact I8.out) ⟨cs3, rfl, V3.out, L4⟩
set_option maxRecDepth 100000 in
set_option maxHeartbeats 2000000 in
theorem rplace_a (cs : Array Value) (f : Nat → Nat) (F : Fok f) (V : Vid cs f) (ht : f 12578 < 32768) (hm : f 12580 = 0) (v : Nat) (hv : v < 256) (w : World) :
    Calls Try.prog 34 #[.agg cs, .int .i64 (v : Nat)] w fun e w' => ∃ cs', e = .returned (.agg cs') ∧ Vid cs' (plcF f v) ∧ Below w.heap.size w w' := by
  have HV : Hid (Vid cs f) := V
  obtain ⟨t, ht2⟩ : ∃ t, t = f 12578 := ⟨_, rfl⟩
  have tb : t < 32768 := by omega
  obtain ⟨z, hz⟩ : ∃ z, z = v % 64 * 256 + t % 256 := ⟨_, rfl⟩
  obtain ⟨q, hq⟩ : ∃ q, q = v % 64 := ⟨_, rfl⟩
  obtain ⟨q2, hq2⟩ : ∃ q2, q2 = q * 256 := ⟨_, rfl⟩
  obtain ⟨r, hr⟩ : ∃ r, r = t % 256 := ⟨_, rfl⟩
  have e1 : ((v : Int)).tmod 64 = (q : Int) := by rw [Int.tmod_eq_emod_of_nonneg (by omega)]; omega
  have e2 : (q : Int) * 256 = (q2 : Int) := by omega
  have e3 : ((t : Int)).tmod 256 = (r : Int) := by rw [Int.tmod_eq_emod_of_nonneg (by omega)]; omega
  have e4 : (q2 : Int) + (r : Int) = (z : Int) := by omega
  have qb : q < 65536 := by omega
  have q2b : q2 < 65536 := by omega
  have rb : r < 65536 := by omega
  have zb : z < 65536 := by omega
  have EF : Hid (plcF f v = (upd (upd f 12578 z) 12580 1)) := by unfold Hid plcF; rw [hm, ← ht2]; rw [if_neg (by decide), ← hz]
  have c8' : ∀ (W : World) p, Blk W p cs 28 → W.cell? ⟨p, 12578, none⟩ = some (.int .u16 (t : Nat)) := fun W p h => by rw [ht2]; exact (h.cell _).trans (V.2 12578 (by decide))
  have c7' : ∀ (W : World) p, Blk W p cs 28 → W.cell? ⟨p, 12577, none⟩ = some (.int .u16 (f 12577 : Nat)) := fun W p h => (h.cell _).trans (V.2 12577 (by decide))
  have c1' : ∀ (W : World) p, Blk W p cs 28 → W.cell? ⟨p, 12580, none⟩ = some (.bool false) := fun W p h => (h.cell _).trans ((V.2 12580 (by decide)).trans (by rw [hm]; rfl))
  have I8 : Hid ((Try.prog.info? 28).map (·.size) = some 12585) := Try.infoVid
  clear ht ht2 hz hq hq2 hr F V hm
  go_enter Try.func34, Try.ntmps34
  go_upto_region 1 with fail
  obtain ⟨B2, Z2, L2⟩ := two w cs Try.zeroCells28 28 28
  generalize ((w.alloc (.cells cs 28)).alloc (.cells Try.zeroCells28 28)) = w2 at *
  have c7 := c7' w2 w.heap.size B2.out
  have c8 := c8' w2 w.heap.size B2.out
  have c1 := c1' w2 w.heap.size B2.out
  have fr7 := B2.out.free 12577
  have fr8 := B2.out.free 12578
  have fr := B2.out.free 12580
  clear c7' c1' c8'
  generalize f 12577 = v7 at c7
  go_upto_region 6 with fail
  clear c7 c1 c8 fr fr7 fr8
  have Z3 : Hid (Blk ((w2.setCell ⟨w.heap.size, 12578, none⟩ (.int .u16 (z : Nat))).setCell ⟨w.heap.size, 12580, none⟩ (.bool true)) (w.heap.size + 1) Try.zeroCells28 28) := (Blk.other ((Blk.other (Z2.out) (by omega) 12578 _)) (by omega) 12580 _)
  have B3 : Hid (Blk ((w2.setCell ⟨w.heap.size, 12578, none⟩ (.int .u16 (z : Nat))).setCell ⟨w.heap.size, 12580, none⟩ (.bool true)) w.heap.size ((cs.setIfInBounds 12578 (.int .u16 (z : Nat))).setIfInBounds 12580 (.bool true)) 28) := (Blk.set ((Blk.set (B2.out) 12578 _)) 12580 _)
  have L3 : Hid (Below w.heap.size w ((w2.setCell ⟨w.heap.size, 12578, none⟩ (.int .u16 (z : Nat))).setCell ⟨w.heap.size, 12580, none⟩ (.bool true))) := (Below.setCell (p := ⟨w.heap.size, 12580, none⟩) ((Below.setCell (p := ⟨w.heap.size, 12578, none⟩) (L2.out) (Nat.le_refl _) _)) (Nat.le_refl _) _)
  have V3 : Hid (Vid ((cs.setIfInBounds 12578 (.int .u16 (z : Nat))).setIfInBounds 12580 (.bool true)) (plcF f v)) := by rw [EF.out]; exact (Vid.set ((Vid.set (HV.out) 12578 z _ rfl)) 12580 1 _ rfl)
  generalize ((w2.setCell ⟨w.heap.size, 12578, none⟩ (.int .u16 (z : Nat))).setCell ⟨w.heap.size, 12580, none⟩ (.bool true)) = w3 at *
  generalize ((cs.setIfInBounds 12578 (.int .u16 (z : Nat))).setIfInBounds 12580 (.bool true)) = cs3 at *
  clear Z2 B2 L2 EF HV
  have VS : Hid (cs3.size = 12585) := V3.out.1
  have O3 : Hid (cs3.all (·.oneCell') = true) := V3.out.one
  go_wp2_with (first
        | (refine wpList_load_blk rfl 28 _ rfl w.heap.size rfl cs3 _ B3.out Try.underlying28 rfl (by rw [VS.out]; exact I8.out) ?_)
        | (refine wpList_store_blk rfl 28 _ _ rfl (w.heap.size + 1) Try.zeroCells28 cs3 28 rfl rfl Z3.out (VS.out.trans Try.zeroCells28_size.symm) (by rw [VS.out]; exact I8.out) O3.out w.heap.size w (by omega) L3.out ?_; intro w4 B4 L4 _))
  exact ret_vid Try.results34 rfl rfl B4 Try.underlying28 rfl (by rw [VS.out]; exact I8.out) ⟨cs3, rfl, V3.out, L4⟩
theorem rplace_any (cs : Array Value) (f : Nat → Nat) (F : Fok f) (V : Vid cs f) (ht : f 12578 < 32768) (v : Nat) (hv : v < 256) (w : World) :
    Calls Try.prog 34 #[.agg cs, .int .i64 (v : Nat)] w fun e w' => ∃ cs', e = .returned (.agg cs') ∧ Vid cs' (plcF f v) ∧ Below w.heap.size w w' := by
  have h2 := F.w
  rcases (show f 12580 = 0 ∨ f 12580 = 1 by omega) with h | h
  · exact rplace_a cs f F V ht h v hv w
  · exact rplace_b cs f F V ht h v hv w
end Go.Proofs.Ytecaipakaaongaa
namespace Go.Proofs.Ytecaipakaaongaa
open Go.RowKit Classical
theorem upd_swap (f : Nat → Nat) (a b : Nat) : upd (upd f 12578 a) 12579 b = upd (upd f 12579 b) 12578 a := by
  funext j
  unfold upd
  by_cases h : j = 12579
  · subst h; rfl
  · simp only [h, if_false]
set_option maxRecDepth 100000 in
set_option maxHeartbeats 2000000 in
theorem rscroll_b (cs : Array Value) (f : Nat → Nat) (F : Fok f) (V : Vid cs f) (ht : f 12578 < 32768) (hm : f 12580 = 1) (v : Nat) (hv : v < 256) (w : World) :
    Calls Try.prog 33 #[.agg cs, .int .i64 (v : Nat)] w fun e w' => ∃ cs', e = .returned (.agg cs') ∧ Vid cs' (scrF f v) ∧ Below w.heap.size w w' := by
  have HV : Hid (Vid cs f) := V
  obtain ⟨t, ht2⟩ : ∃ t, t = f 12578 := ⟨_, rfl⟩
  have tb : t < 32768 := by omega
  obtain ⟨r1, hr1⟩ : ∃ r1, r1 = t % 4096 := ⟨_, rfl⟩
  obtain ⟨q, hq⟩ : ∃ q, q = v % 8 := ⟨_, rfl⟩
  obtain ⟨s1, hs1⟩ : ∃ s1, s1 = q * 4096 := ⟨_, rfl⟩
  obtain ⟨t1, ht1⟩ : ∃ t1, t1 = r1 + s1 := ⟨_, rfl⟩
  obtain ⟨d, hd⟩ : ∃ d, d = t1 / 32 := ⟨_, rfl⟩
  obtain ⟨d2, hd2⟩ : ∃ d2, d2 = d % 32 := ⟨_, rfl⟩
  obtain ⟨s2, hs2⟩ : ∃ s2, s2 = d2 * 32 := ⟨_, rfl⟩
  obtain ⟨u, hu⟩ : ∃ u, u = t1 - s2 := ⟨_, rfl⟩
  obtain ⟨k, hk⟩ : ∃ k, k = v / 8 := ⟨_, rfl⟩
  obtain ⟨s3, hs3⟩ : ∃ s3, s3 = k * 32 := ⟨_, rfl⟩
  obtain ⟨zz, hzz⟩ : ∃ zz, zz = u + s3 := ⟨_, rfl⟩
  have r1b : r1 < 65536 := by omega
  have qb : q < 65536 := by omega
  have s1b : s1 < 65536 := by omega
  have t1b : t1 < 65536 := by omega
  have db : d < 65536 := by omega
  have d2b : d2 < 65536 := by omega
  have s2b : s2 < 65536 := by omega
  have ub : u < 65536 := by omega
  have kb : k < 65536 := by omega
  have s3b : s3 < 65536 := by omega
  have zzb : zz < 65536 := by omega
  have er10 : (t : Int).tmod 4096 = (r1 : Int) := by rw [Int.tmod_eq_emod_of_nonneg (by omega)]; omega
  have eq0 : (v : Int).tmod 8 = (q : Int) := by rw [Int.tmod_eq_emod_of_nonneg (by omega)]; omega
  have es10 : (q : Int) * 4096 = (s1 : Int) := by omega
  have et10 : (r1 : Int) + (s1 : Int) = (t1 : Int) := by omega
  have ed0 : (t1 : Int) / 32 = (d : Int) := by omega
  have ed1 : (t1 : Int).tdiv 32 = (d : Int) := by rw [Int.tdiv_eq_ediv_of_nonneg (by omega)]; omega
  have ed20 : (d : Int).tmod 32 = (d2 : Int) := by rw [Int.tmod_eq_emod_of_nonneg (by omega)]; omega
  have es20 : (d2 : Int) * 32 = (s2 : Int) := by omega
  have eu0 : (t1 : Int) - (s2 : Int) = (u : Int) := by omega
  have ek0 : (v : Int) / 8 = (k : Int) := by omega
  have ek1 : (v : Int).tdiv 8 = (k : Int) := by rw [Int.tdiv_eq_ediv_of_nonneg (by omega)]; omega
  have es30 : (k : Int) * 32 = (s3 : Int) := by omega
  have ezz0 : (u : Int) + (s3 : Int) = (zz : Int) := by omega
  have hz : scrT1 t v = zz := by unfold scrT1; omega
  have EF : Hid (scrF f v = (upd (upd f 12578 zz) 12580 0)) := by unfold Hid scrF; rw [hm, ← ht2]; rw [if_pos rfl, hz]
  have c8' : ∀ (W : World) p, Blk W p cs 28 → W.cell? ⟨p, 12578, none⟩ = some (.int .u16 (t : Nat)) := fun W p h => by rw [ht2]; exact (h.cell _).trans (V.2 12578 (by decide))
  have c7' : ∀ (W : World) p, Blk W p cs 28 → W.cell? ⟨p, 12577, none⟩ = some (.int .u16 (f 12577 : Nat)) := fun W p h => (h.cell _).trans (V.2 12577 (by decide))
  have c1' : ∀ (W : World) p, Blk W p cs 28 → W.cell? ⟨p, 12580, none⟩ = some (.bool true) := fun W p h => (h.cell _).trans ((V.2 12580 (by decide)).trans (by rw [hm]; rfl))
  have I8 : Hid ((Try.prog.info? 28).map (·.size) = some 12585) := Try.infoVid
  clear ht ht2 hz hr1 hq hs1 ht1 hd hd2 hs2 hu hk hs3 hzz F V hm
  go_enter Try.func33, Try.ntmps33
  go_upto_region 1 with fail
  obtain ⟨B2, Z2, L2⟩ := two w cs Try.zeroCells28 28 28
  generalize ((w.alloc (.cells cs 28)).alloc (.cells Try.zeroCells28 28)) = w2 at *
  have c7 := c7' w2 w.heap.size B2.out
  have c8 := c8' w2 w.heap.size B2.out
  have c1 := c1' w2 w.heap.size B2.out
  have fr7 := B2.out.free 12577
  have fr8 := B2.out.free 12578
  have fr := B2.out.free 12580
  clear c7' c1' c8'
  generalize f 12577 = v7 at c7
  have c9 : w2.cell? ⟨w.heap.size, 12579, none⟩ = some (.int .u8 (f 12579 : Nat)) := (B2.out.cell _).trans (HV.out.2 12579 (by decide))
  have fr9 := B2.out.free 12579
  generalize f 12579 = x9 at c9
  go_upto_region 9 with fail
  clear c7 c1 c8 c9 fr fr7 fr8 fr9
  have Z3 : Hid (Blk ((w2.setCell ⟨w.heap.size, 12578, none⟩ (.int .u16 (zz : Nat))).setCell ⟨w.heap.size, 12580, none⟩ (.bool false)) (w.heap.size + 1) Try.zeroCells28 28) := (Blk.other ((Blk.other (Z2.out) (by omega) 12578 _)) (by omega) 12580 _)
  have B3 : Hid (Blk ((w2.setCell ⟨w.heap.size, 12578, none⟩ (.int .u16 (zz : Nat))).setCell ⟨w.heap.size, 12580, none⟩ (.bool false)) w.heap.size ((cs.setIfInBounds 12578 (.int .u16 (zz : Nat))).setIfInBounds 12580 (.bool false)) 28) := (Blk.set ((Blk.set (B2.out) 12578 _)) 12580 _)
  have L3 : Hid (Below w.heap.size w ((w2.setCell ⟨w.heap.size, 12578, none⟩ (.int .u16 (zz : Nat))).setCell ⟨w.heap.size, 12580, none⟩ (.bool false))) := (Below.setCell (p := ⟨w.heap.size, 12580, none⟩) ((Below.setCell (p := ⟨w.heap.size, 12578, none⟩) (L2.out) (Nat.le_refl _) _)) (Nat.le_refl _) _)
  have V3 : Hid (Vid ((cs.setIfInBounds 12578 (.int .u16 (zz : Nat))).setIfInBounds 12580 (.bool false)) (scrF f v)) := by rw [EF.out]; exact (Vid.set ((Vid.set (HV.out) 12578 zz _ rfl)) 12580 0 _ rfl)
  generalize ((w2.setCell ⟨w.heap.size, 12578, none⟩ (.int .u16 (zz : Nat))).setCell ⟨w.heap.size, 12580, none⟩ (.bool false)) = w3 at *
  generalize ((cs.setIfInBounds 12578 (.int .u16 (zz : Nat))).setIfInBounds 12580 (.bool false)) = cs3 at *
  clear Z2 B2 L2 EF HV
  have VS : Hid (cs3.size = 12585) := V3.out.1
  have O3 : Hid (cs3.all (·.oneCell') = true) := V3.out.one
  go_wp2_with (first
        | (refine wpList_load_blk rfl 28 _ rfl w.heap.size rfl cs3 _ B3.out Try.underlying28 rfl (by rw [VS.out]; exact I8.out) ?_)
        | (refine wpList_store_blk rfl 28 _ _ rfl (w.heap.size + 1) Try.zeroCells28 cs3 28 rfl rfl Z3.out (VS.out.trans Try.zeroCells28_size.symm) (by rw [VS.out]; exact I8.out) O3.out w.heap.size w (by omega) L3.out ?_; intro w4 B4 L4 _))
  exact ret_vid Try.results33 rfl rfl B4 Try.underlying28 rfl (by rw [VS.out]; exact I8.out) ⟨cs3, rfl, V3.out, L4⟩
set_option maxRecDepth 100000 in
set_option maxHeartbeats 2000000 in
theorem rscroll_a (cs : Array Value) (f : Nat → Nat) (F : Fok f) (V : Vid cs f) (ht : f 12578 < 32768) (hm : f 12580 = 0) (v : Nat) (hv : v < 256) (w : World) :
    Calls Try.prog 33 #[.agg cs, .int .i64 (v : Nat)] w fun e w' => ∃ cs', e = .returned (.agg cs') ∧ Vid cs' (scrF f v) ∧ Below w.heap.size w w' := by
  have HV : Hid (Vid cs f) := V
  obtain ⟨t, ht2⟩ : ∃ t, t = f 12578 := ⟨_, rfl⟩
  have tb : t < 32768 := by omega
  obtain ⟨r1, hr1⟩ : ∃ r1, r1 = t % 32 := ⟨_, rfl⟩
  obtain ⟨u, hu⟩ : ∃ u, u = t - r1 := ⟨_, rfl⟩
  obtain ⟨k, hk⟩ : ∃ k, k = v / 8 := ⟨_, rfl⟩
  obtain ⟨zz, hzz⟩ : ∃ zz, zz = u + k := ⟨_, rfl⟩
  obtain ⟨q, hq⟩ : ∃ q, q = v % 8 := ⟨_, rfl⟩
  have r1b : r1 < 65536 := by omega
  have ub : u < 65536 := by omega
  have kb : k < 65536 := by omega
  have zzb : zz < 65536 := by omega
  have qb : q < 65536 := by omega
  have er10 : (t : Int).tmod 32 = (r1 : Int) := by rw [Int.tmod_eq_emod_of_nonneg (by omega)]; omega
  have eu0 : (t : Int) - (r1 : Int) = (u : Int) := by omega
  have ek0 : (v : Int) / 8 = (k : Int) := by omega
  have ek1 : (v : Int).tdiv 8 = (k : Int) := by rw [Int.tdiv_eq_ediv_of_nonneg (by omega)]; omega
  have ezz0 : (u : Int) + (k : Int) = (zz : Int) := by omega
  have eq0 : (v : Int).tmod 8 = (q : Int) := by rw [Int.tmod_eq_emod_of_nonneg (by omega)]; omega
  have q8 : q < 256 := by omega
  have hz : t - t % 32 + v / 8 = zz := by omega
  have EF : Hid (scrF f v = (upd (upd (upd f 12579 q) 12578 zz) 12580 1)) := by unfold Hid scrF; rw [hm, ← ht2]; rw [if_neg (by decide), hz, ← hq, upd_swap f zz q]
  have c8' : ∀ (W : World) p, Blk W p cs 28 → W.cell? ⟨p, 12578, none⟩ = some (.int .u16 (t : Nat)) := fun W p h => by rw [ht2]; exact (h.cell _).trans (V.2 12578 (by decide))
  have c7' : ∀ (W : World) p, Blk W p cs 28 → W.cell? ⟨p, 12577, none⟩ = some (.int .u16 (f 12577 : Nat)) := fun W p h => (h.cell _).trans (V.2 12577 (by decide))
  have c1' : ∀ (W : World) p, Blk W p cs 28 → W.cell? ⟨p, 12580, none⟩ = some (.bool false) := fun W p h => (h.cell _).trans ((V.2 12580 (by decide)).trans (by rw [hm]; rfl))
  have I8 : Hid ((Try.prog.info? 28).map (·.size) = some 12585) := Try.infoVid
  clear ht ht2 hz hr1 hu hk hzz hq F V hm
  go_enter Try.func33, Try.ntmps33
  go_upto_region 1 with fail
  obtain ⟨B2, Z2, L2⟩ := two w cs Try.zeroCells28 28 28
  generalize ((w.alloc (.cells cs 28)).alloc (.cells Try.zeroCells28 28)) = w2 at *
  have c7 := c7' w2 w.heap.size B2.out
  have c8 := c8' w2 w.heap.size B2.out
  have c1 := c1' w2 w.heap.size B2.out
  have fr7 := B2.out.free 12577
  have fr8 := B2.out.free 12578
  have fr := B2.out.free 12580
  clear c7' c1' c8'
  generalize f 12577 = v7 at c7
  have c9 : w2.cell? ⟨w.heap.size, 12579, none⟩ = some (.int .u8 (f 12579 : Nat)) := (B2.out.cell _).trans (HV.out.2 12579 (by decide))
  have fr9 := B2.out.free 12579
  generalize f 12579 = x9 at c9
  go_upto_region 9 with fail
  clear c7 c1 c8 c9 fr fr7 fr8 fr9
  have Z3 : Hid (Blk (((w2.setCell ⟨w.heap.size, 12579, none⟩ (.int .u8 (q : Nat))).setCell ⟨w.heap.size, 12578, none⟩ (.int .u16 (zz : Nat))).setCell ⟨w.heap.size, 12580, none⟩ (.bool true)) (w.heap.size + 1) Try.zeroCells28 28) := (Blk.other ((Blk.other ((Blk.other (Z2.out) (by omega) 12579 _)) (by omega) 12578 _)) (by omega) 12580 _)
  have B3 : Hid (Blk (((w2.setCell ⟨w.heap.size, 12579, none⟩ (.int .u8 (q : Nat))).setCell ⟨w.heap.size, 12578, none⟩ (.int .u16 (zz : Nat))).setCell ⟨w.heap.size, 12580, none⟩ (.bool true)) w.heap.size (((cs.setIfInBounds 12579 (.int .u8 (q : Nat))).setIfInBounds 12578 (.int .u16 (zz : Nat))).setIfInBounds 12580 (.bool true)) 28) := (Blk.set ((Blk.set ((Blk.set (B2.out) 12579 _)) 12578 _)) 12580 _)
  have L3 : Hid (Below w.heap.size w (((w2.setCell ⟨w.heap.size, 12579, none⟩ (.int .u8 (q : Nat))).setCell ⟨w.heap.size, 12578, none⟩ (.int .u16 (zz : Nat))).setCell ⟨w.heap.size, 12580, none⟩ (.bool true))) := (Below.setCell (p := ⟨w.heap.size, 12580, none⟩) ((Below.setCell (p := ⟨w.heap.size, 12578, none⟩) ((Below.setCell (p := ⟨w.heap.size, 12579, none⟩) (L2.out) (Nat.le_refl _) _)) (Nat.le_refl _) _)) (Nat.le_refl _) _)
  have V3 : Hid (Vid (((cs.setIfInBounds 12579 (.int .u8 (q : Nat))).setIfInBounds 12578 (.int .u16 (zz : Nat))).setIfInBounds 12580 (.bool true)) (scrF f v)) := by rw [EF.out]; exact (Vid.set ((Vid.set ((Vid.set (HV.out) 12579 q _ rfl)) 12578 zz _ rfl)) 12580 1 _ rfl)
  generalize (((w2.setCell ⟨w.heap.size, 12579, none⟩ (.int .u8 (q : Nat))).setCell ⟨w.heap.size, 12578, none⟩ (.int .u16 (zz : Nat))).setCell ⟨w.heap.size, 12580, none⟩ (.bool true)) = w3 at *
  generalize (((cs.setIfInBounds 12579 (.int .u8 (q : Nat))).setIfInBounds 12578 (.int .u16 (zz : Nat))).setIfInBounds 12580 (.bool true)) = cs3 at *
  clear Z2 B2 L2 EF HV
  have VS : Hid (cs3.size = 12585) := V3.out.1
  have O3 : Hid (cs3.all (·.oneCell') = true) := V3.out.one
  go_wp2_with (first
        | (refine wpList_load_blk rfl 28 _ rfl w.heap.size rfl cs3 _ B3.out Try.underlying28 rfl (by rw [VS.out]; exact I8.out) ?_)
        | (refine wpList_store_blk rfl 28 _ _ rfl (w.heap.size + 1) Try.zeroCells28 cs3 28 rfl rfl Z3.out (VS.out.trans Try.zeroCells28_size.symm) (by rw [VS.out]; exact I8.out) O3.out w.heap.size w (by omega) L3.out ?_; intro w4 B4 L4 _))
  exact ret_vid Try.results33 rfl rfl B4 Try.underlying28 rfl (by rw [VS.out]; exact I8.out) ⟨cs3, rfl, V3.out, L4⟩
theorem rscroll_any (cs : Array Value) (f : Nat → Nat) (F : Fok f) (V : Vid cs f) (ht : f 12578 < 32768) (v : Nat) (hv : v < 256) (w : World) :
    Calls Try.prog 33 #[.agg cs, .int .i64 (v : Nat)] w fun e w' => ∃ cs', e = .returned (.agg cs') ∧ Vid cs' (scrF f v) ∧ Below w.heap.size w w' := by
  have h2 := F.w
  rcases (show f 12580 = 0 ∨ f 12580 = 1 by omega) with h | h
  · exact rscroll_a cs f F V ht h v hv w
  · exact rscroll_b cs f F V ht h v hv w
end Go.Proofs.Ytecaipakaaongaa
