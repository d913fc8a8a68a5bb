/-
  What Parse answers of every image; conditions: the image lies in its slice.
-/
import Derived.Test.YtilhlbnicmmaoaaDoorPag5
import Derived.Defers
import Derived.Recover
set_option linter.unusedSimpArgs false
set_option linter.unusedVariables false
namespace Go.Proofs.YtilhlbnicmmaoaaDoor
open Go.RowKit
theorem wp_at {P : Program} {c : Code} {Q : Exit → Act → World → Prop} {a : Act} {w : World} (a' : Act) (e : a = a') (h : c.wp P Q a' w) : c.wp P Q a w := e ▸ h
/-- What the deferred function leaves where a reader gave up. -/
def CtOk (bp bq br : Nat) (x pl : Int) (w : World) (e : Ending) (u' : FrameMode) (w' : World) : Prop :=
  e = .returned (.tuple #[]) ∧ u' = .panicking [{ v := .iface 55 (.agg #[.int .i64 x, .int .i64 pl]), recovered := true }] ∧ Blk w' bp Z19 25 ∧ Blk w' bq #[.int .i64 x] 26 ∧ Blk w' br #[.int .i64 pl] 3 ∧ Below bp w w'
set_option maxRecDepth 100000 in
set_option maxHeartbeats 1000000 in
theorem catch_fault (bp bq br : Nat) (x pl : Int) (w : World) (zp : Blk w bp Z19 25) (zq : Blk w bq #[.int .i64 0] 26) (zr : Blk w br #[.int .i64 0] 3) (d1 : bp < bq) (d2 : bq < br) :
    CallsD Tryd.prog 25 #[.pointer (some ⟨bp, 0, none⟩), .pointer (some ⟨bq, 0, none⟩), .pointer (some ⟨br, 0, none⟩)] (.panicking [{ v := .iface 55 (.agg #[.int .i64 x, .int .i64 pl]), recovered := false }]) w (CtOk bp bq br x pl w) := by
  have hta : ∀ w : World, Sem.run Tryd.prog (Instr.typeAssert (.iface 55 (.agg #[.int .i64 x, .int .i64 pl])) 20 55 true) w = .ok (.tuple #[.agg #[.int .i64 x, .int .i64 pl], .bool true]) w := fun _ => by kernel_rfl
  refine callsD_of_wpS Tryd.func25 rfl fun c₀ cs hu => ?_
  apply wpS_seq
  apply wpS_region
  simp [wpOpsS, go_sem, recoverD, hu, hta, Tryd.ntmps25, Exit.thenS]
  apply wpS_seq
  apply wpS_region
  simp [wpOpsS, go_sem, Exit.thenS]
  refine wpS_cond (t := true) (by simp [Act.eval, Array.replicate]) ?_
  simp only [if_true]
  refine wpS_of_wp ?_
  refine wp_at ⟨#[.pointer (some ⟨bp, 0, none⟩), .pointer (some ⟨bq, 0, none⟩), .pointer (some ⟨br, 0, none⟩), .pointer (some ⟨w.heap.size, 0, none⟩), .bool true, .tuple #[.agg #[.int .i64 x, .int .i64 pl], .bool true], .iface 55 (.agg #[.int .i64 x, .int .i64 pl]), .tuple #[.agg #[.int .i64 x, .int .i64 pl], .bool true], .agg #[.int .i64 x, .int .i64 pl], .bool true, .bool true, undef, undef, undef, undef, undef], []⟩ (by kernel_rfl) ?_
  have bf : Blk (w.alloc (.cells #[.int .i64 x, .int .i64 pl] 55)) w.heap.size #[.int .i64 x, .int .i64 pl] 55 := Blk.new w _ _
  have hb0 : Below w.heap.size w (w.alloc (.cells #[.int .i64 x, .int .i64 pl] 55)) := (Below.refl _ _).alloc (Nat.le_refl _) _
  have p0 := zp.below zp.lt hb0
  have q0 := zq.below zq.lt hb0
  have r0 := zr.below zr.lt hb0
  have lp := zp.lt
  have lr := zr.lt
  clear zp zq zr hta
  generalize w.alloc (.cells #[.int .i64 x, .int .i64 pl] 55) = W0 at *
  have s0 : Blk W0.drew w.heap.size #[.int .i64 x, .int .i64 pl] 55 := bf.drew
  refine wp_region_held (S := fun v => Blk v w.heap.size #[.int .i64 x, .int .i64 pl] 55) (by kernel_rfl) ?_
  refine takeH (i := 0) (v := .agg Z19) ⟨#[.pointer (some ⟨bp, 0, none⟩), .pointer (some ⟨bq, 0, none⟩), .pointer (some ⟨br, 0, none⟩), .pointer (some ⟨w.heap.size, 0, none⟩), .bool true, .tuple #[.agg #[.int .i64 x, .int .i64 pl], .bool true], .iface 55 (.agg #[.int .i64 x, .int .i64 pl]), .tuple #[.agg #[.int .i64 x, .int .i64 pl], .bool true], .agg #[.int .i64 x, .int .i64 pl], .bool true, .bool true, .agg Z19, undef, undef, undef, undef], []⟩ rfl (by kernel_rfl) (by kernel_rfl) (by kernel_rfl) (fun _ _ _ h => h) (.inl ⟨by kernel_rfl, fun _ _ => by kernel_rfl⟩) s0 (by kernel_rfl) ?_
  refine takeH (i := 1) (v := .pointer (some ⟨w.heap.size, 0, none⟩)) ⟨#[.pointer (some ⟨bp, 0, none⟩), .pointer (some ⟨bq, 0, none⟩), .pointer (some ⟨br, 0, none⟩), .pointer (some ⟨w.heap.size, 0, none⟩), .bool true, .tuple #[.agg #[.int .i64 x, .int .i64 pl], .bool true], .iface 55 (.agg #[.int .i64 x, .int .i64 pl]), .tuple #[.agg #[.int .i64 x, .int .i64 pl], .bool true], .agg #[.int .i64 x, .int .i64 pl], .bool true, .bool true, .agg Z19, .pointer (some ⟨w.heap.size, 0, none⟩), undef, undef, undef], []⟩ rfl (by kernel_rfl) (by kernel_rfl) (by kernel_rfl) (fun _ _ _ h => h) (.inl ⟨by kernel_rfl, fun _ _ => by kernel_rfl⟩) s0 (by kernel_rfl) ?_
  refine takeH (i := 2) (v := .int .i64 x) ⟨#[.pointer (some ⟨bp, 0, none⟩), .pointer (some ⟨bq, 0, none⟩), .pointer (some ⟨br, 0, none⟩), .pointer (some ⟨w.heap.size, 0, none⟩), .bool true, .tuple #[.agg #[.int .i64 x, .int .i64 pl], .bool true], .iface 55 (.agg #[.int .i64 x, .int .i64 pl]), .tuple #[.agg #[.int .i64 x, .int .i64 pl], .bool true], .agg #[.int .i64 x, .int .i64 pl], .bool true, .bool true, .agg Z19, .pointer (some ⟨w.heap.size, 0, none⟩), .int .i64 x, undef, undef], []⟩ rfl (by kernel_rfl) (by kernel_rfl) (by kernel_rfl) (fun _ _ _ h => h) (.inl ⟨by kernel_rfl, fun v hv => by have c : v.cell? ⟨w.heap.size, 0, none⟩ = some (.int .i64 x) := (Blk.cell hv 0).trans rfl; go_simp⟩) s0 (by kernel_rfl) ?_
  refine takeH (i := 3) (v := .pointer (some ⟨w.heap.size, 1, none⟩)) ⟨#[.pointer (some ⟨bp, 0, none⟩), .pointer (some ⟨bq, 0, none⟩), .pointer (some ⟨br, 0, none⟩), .pointer (some ⟨w.heap.size, 0, none⟩), .bool true, .tuple #[.agg #[.int .i64 x, .int .i64 pl], .bool true], .iface 55 (.agg #[.int .i64 x, .int .i64 pl]), .tuple #[.agg #[.int .i64 x, .int .i64 pl], .bool true], .agg #[.int .i64 x, .int .i64 pl], .bool true, .bool true, .agg Z19, .pointer (some ⟨w.heap.size, 0, none⟩), .int .i64 x, .pointer (some ⟨w.heap.size, 1, none⟩), undef], []⟩ rfl (by kernel_rfl) (by kernel_rfl) (by kernel_rfl) (fun _ _ _ h => h) (.inl ⟨by kernel_rfl, fun _ _ => by kernel_rfl⟩) s0 (by kernel_rfl) ?_
  refine takeH (i := 4) (v := .int .i64 pl) ⟨#[.pointer (some ⟨bp, 0, none⟩), .pointer (some ⟨bq, 0, none⟩), .pointer (some ⟨br, 0, none⟩), .pointer (some ⟨w.heap.size, 0, none⟩), .bool true, .tuple #[.agg #[.int .i64 x, .int .i64 pl], .bool true], .iface 55 (.agg #[.int .i64 x, .int .i64 pl]), .tuple #[.agg #[.int .i64 x, .int .i64 pl], .bool true], .agg #[.int .i64 x, .int .i64 pl], .bool true, .bool true, .agg Z19, .pointer (some ⟨w.heap.size, 0, none⟩), .int .i64 x, .pointer (some ⟨w.heap.size, 1, none⟩), .int .i64 pl], []⟩ rfl (by kernel_rfl) (by kernel_rfl) (by kernel_rfl) (fun _ _ _ h => h) (.inl ⟨by kernel_rfl, fun v hv => by have c : v.cell? ⟨w.heap.size, 1, none⟩ = some (.int .i64 pl) := (Blk.cell hv 1).trans rfl; go_simp⟩) s0 (by kernel_rfl) ?_
  refine wpAnyH_all (rs := [5]) (by kernel_rfl) (by simp) ?_
  intro i hi
  obtain rfl : i = 5 := by simpa using hi
  refine wpOp_store rfl (by kernel_rfl) 25 (.tmp 0) (.tmp 11) rfl bp 0 (.agg Z19) Z19 (by kernel_rfl) (by kernel_rfl) rfl (p0.drew.there 19 rfl) (by exact Tryd.infoCart) (by kernel_rfl) ⟨#[.pointer (some ⟨bp, 0, none⟩), .pointer (some ⟨bq, 0, none⟩), .pointer (some ⟨br, 0, none⟩), .pointer (some ⟨w.heap.size, 0, none⟩), .bool true, .tuple #[.agg #[.int .i64 x, .int .i64 pl], .bool true], .iface 55 (.agg #[.int .i64 x, .int .i64 pl]), .tuple #[.agg #[.int .i64 x, .int .i64 pl], .bool true], .agg #[.int .i64 x, .int .i64 pl], .bool true, .bool true, .agg Z19, .pointer (some ⟨w.heap.size, 0, none⟩), .int .i64 x, .pointer (some ⟨w.heap.size, 1, none⟩), .int .i64 pl], []⟩ (by kernel_rfl) ?_
  intro W1 eW1
  have s1 : Blk W1 w.heap.size #[.int .i64 x, .int .i64 pl] 55 := by rw [eW1]; exact s0.otherCells (by omega) _ _
  have p1 : Blk W1 bp Z19 25 := by rw [eW1]; exact p0.drew.setAll (L := Z19) rfl
  have q1 : Blk W1 bq #[.int .i64 0] 26 := by rw [eW1]; exact q0.drew.otherCells (by omega) _ _
  have r1 : Blk W1 br #[.int .i64 0] 3 := by rw [eW1]; exact r0.drew.otherCells (by omega) _ _
  have b1 : Below bp W0.drew W1 := by rw [eW1]; exact setCells_below (Nat.le_refl _) _ _ _ _ (Below.refl _ _)
  refine ⟨s1, ?_⟩
  clear hi eW1
  refine wpAnyH_all (rs := [6]) (by kernel_rfl) (by simp) ?_
  intro i hi
  obtain rfl : i = 6 := by simpa using hi
  refine wpOp_store rfl (by kernel_rfl) 26 (.tmp 1) (.tmp 13) rfl bq 0 (.int .i64 x) #[.int .i64 x] (by kernel_rfl) (by kernel_rfl) rfl (q1.there 1 rfl) (by kernel_rfl) (by kernel_rfl) ⟨#[.pointer (some ⟨bp, 0, none⟩), .pointer (some ⟨bq, 0, none⟩), .pointer (some ⟨br, 0, none⟩), .pointer (some ⟨w.heap.size, 0, none⟩), .bool true, .tuple #[.agg #[.int .i64 x, .int .i64 pl], .bool true], .iface 55 (.agg #[.int .i64 x, .int .i64 pl]), .tuple #[.agg #[.int .i64 x, .int .i64 pl], .bool true], .agg #[.int .i64 x, .int .i64 pl], .bool true, .bool true, .agg Z19, .pointer (some ⟨w.heap.size, 0, none⟩), .int .i64 x, .pointer (some ⟨w.heap.size, 1, none⟩), .int .i64 pl], []⟩ (by kernel_rfl) ?_
  intro W2 eW2
  have s2 : Blk W2 w.heap.size #[.int .i64 x, .int .i64 pl] 55 := by rw [eW2]; exact s1.otherCells (by omega) _ _
  have p2 : Blk W2 bp Z19 25 := by rw [eW2]; exact p1.otherCells (by omega) _ _
  have q2 : Blk W2 bq #[.int .i64 x] 26 := by rw [eW2]; exact q1.setAll (L := #[.int .i64 x]) rfl
  have r2 : Blk W2 br #[.int .i64 0] 3 := by rw [eW2]; exact r1.otherCells (by omega) _ _
  have b2 : Below bp W0.drew W2 := by rw [eW2]; exact setCells_below (by omega) _ _ _ _ b1
  refine ⟨s2, ?_⟩
  clear hi eW2
  refine wpAnyH_all (rs := [7]) (by kernel_rfl) (by simp) ?_
  intro i hi
  obtain rfl : i = 7 := by simpa using hi
  refine wpOp_store rfl (by kernel_rfl) 3 (.tmp 2) (.tmp 15) rfl br 0 (.int .i64 pl) #[.int .i64 pl] (by kernel_rfl) (by kernel_rfl) rfl (r2.there 1 rfl) (by kernel_rfl) (by kernel_rfl) ⟨#[.pointer (some ⟨bp, 0, none⟩), .pointer (some ⟨bq, 0, none⟩), .pointer (some ⟨br, 0, none⟩), .pointer (some ⟨w.heap.size, 0, none⟩), .bool true, .tuple #[.agg #[.int .i64 x, .int .i64 pl], .bool true], .iface 55 (.agg #[.int .i64 x, .int .i64 pl]), .tuple #[.agg #[.int .i64 x, .int .i64 pl], .bool true], .agg #[.int .i64 x, .int .i64 pl], .bool true, .bool true, .agg Z19, .pointer (some ⟨w.heap.size, 0, none⟩), .int .i64 x, .pointer (some ⟨w.heap.size, 1, none⟩), .int .i64 pl], []⟩ (by kernel_rfl) ?_
  intro W3 eW3
  have s3 : Blk W3 w.heap.size #[.int .i64 x, .int .i64 pl] 55 := by rw [eW3]; exact s2.otherCells (by omega) _ _
  have p3 : Blk W3 bp Z19 25 := by rw [eW3]; exact p2.otherCells (by omega) _ _
  have q3 : Blk W3 bq #[.int .i64 x] 26 := by rw [eW3]; exact q2.otherCells (by omega) _ _
  have r3 : Blk W3 br #[.int .i64 pl] 3 := by rw [eW3]; exact r2.setAll (L := #[.int .i64 pl]) rfl
  have b3 : Below bp W0.drew W3 := by rw [eW3]; exact setCells_below (by omega) _ _ _ _ b2
  refine ⟨s3, ?_⟩
  clear hi eW3
  refine wpAnyH_done (by kernel_rfl) ?_ _
  have bb : Below bp w W3 := ((hb0.mono (by omega)).trans ((Below.refl _ _).drew)).trans b3
  simp only [bodyPostS, results, Tryd.results25]
  simp [CtOk, p3, q3, r3, bb]
/-- What Parse is to answer of every image. -/
def PaG (L : List Nat) (w : World) (e : Ending) (w' : World) : Prop := ∃ xs, e = .returned (.tuple #[.agg xs, .int .i64 ((pz L).1 : Nat), .int .i64 ((pz L).2 : Nat)]) ∧ Cl w' xs (pC L) (pT L) (pP L) (pQ L) (pR L) ∧ Below w.heap.size w w'
theorem e_two (h : Hq) (n : Nat) : (h.e n).1 = 0 → (h.e n).2 = 0 ∧ h.fin ≤ n := by
  unfold Hq.e
  repeat' split
  all_goals first | (intro hh; simp at hh; done) | (intro _; exact ⟨rfl, by omega⟩)
theorem pz_good {L : List Nat} (h : (pz L).1 = 0) : (pz L).2 = 0 ∧ (hdOf L).fin ≤ L.length := by
  unfold pz at h ⊢
  by_cases h1 : 2097152 < L.length
  · rw [if_pos h1] at h; exact absurd h (by decide)
  · rw [if_neg h1] at h ⊢
    by_cases h2 : (frontE L L.length).1 ≠ 0
    · rw [if_pos h2] at h; exact absurd h h2
    · rw [if_neg h2] at h ⊢
      exact e_two _ _ h
theorem p_lens (L : List Nat) : (pT L).length = (pC L).nt ∧ (pP L).length = (pC L).np ∧ (pQ L).length = (pC L).nq ∧ (pR L).length = (pC L).nr := by
  unfold pT pP pQ pR pC
  by_cases h : (pz L).1 = 0
  · have hf := (pz_good h).2
    have e : (hdOf L).fin = 16 + (hdOf L).tr + (hdOf L).prg + (hdOf L).chr := rfl
    rw [if_pos h, if_pos h, if_pos h, if_pos h, if_pos h]
    refine ⟨?_, ?_, ?_, ?_⟩ <;> simp only [List.length_take, List.length_drop]
    · show min (hdOf L).tr _ = (hdOf L).tr; omega
    · show min (hdOf L).prg _ = (hdOf L).prg; omega
    · show min (hdOf L).chr _ = (hdOf L).chr; omega
    · show min (L.length - (hdOf L).fin) _ = L.length - (hdOf L).fin; omega
  · rw [if_neg h, if_neg h, if_neg h, if_neg h, if_neg h]
    exact ⟨rfl, rfl, rfl, rfl⟩
theorem cl_no (w : World) : Cl w Z19 noC [] [] [] [] :=
  ⟨⟨rfl, by kernel_rfl, rfl, rfl, rfl, rfl, rfl, rfl, rfl, rfl, rfl, rfl, rfl, rfl, rfl, rfl, rfl, ⟨_, _, rfl⟩, ⟨_, _, rfl⟩, ⟨_, _, rfl⟩, ⟨_, _, rfl⟩, by decide, by decide, by decide, by decide⟩, rfl, rfl, rfl, rfl, ⟨_, _, rfl, .inl rfl⟩, ⟨_, _, rfl, .inl rfl⟩, ⟨_, _, rfl, .inl rfl⟩, ⟨_, _, rfl, .inl rfl⟩⟩
set_option maxRecDepth 100000 in
set_option maxHeartbeats 3200000 in
theorem parse_bad (L : List Nat) (hB : Bytes L) (a : Option Addr) (n k : Nat) (w : World) (hI : L.length = n) (hk : n ≤ k) (hr : Row w a L) (hz : (pz L).1 ≠ 0) :
    Calls Tryd.prog 8 #[.slice a n k] w (PaG L w) := by
  have RC : Hid (∀ W : World, Below w.heap.size w W → Calls Tryd.prog 26 #[.slice a n k] W (FaOk ((pz L).1 : Nat) ((pz L).2 : Nat) W)) := fun W hb => (read_g L hB a n k W hI hk (hr.below hb)).mono fun e w' h => by unfold ReG at h; rwa [if_pos hz] at h
  have HPN : Hid (((pC L = noC ∧ pT L = []) ∧ (pP L = [] ∧ pQ L = [])) ∧ pR L = []) := by
    unfold pC pT pP pQ pR
    exact ⟨⟨⟨if_neg hz, if_neg hz⟩, if_neg hz, if_neg hz⟩, if_neg hz⟩
  clear hI hk hr hz hB
  obtain ⟨x, hx⟩ : ∃ x : Int, ((pz L).1 : Nat) = x := ⟨_, rfl⟩
  obtain ⟨pl, hpl⟩ : ∃ x : Int, ((pz L).2 : Nat) = x := ⟨_, rfl⟩
  rw [hx, hpl] at RC
  have HXP : Hid ((((pz L).1 : Nat) : Int) = x ∧ (((pz L).2 : Nat) : Int) = pl) := ⟨hx, hpl⟩
  clear hx hpl
  have hmf : ∀ (fn : Fn) (first cap : Array Value) (w : World), (Instr.makeFunc fn first cap).run Tryd.prog w = .ok (.func fn first cap) w := fun _ _ _ _ => rfl
  go_enter_defers Tryd.func8, Tryd.ntmps8
  go_upto_region 1 with fail
  have hb0 : Below w.heap.size w (((w.alloc (.cells Z19 25)).alloc (.cells #[.int .i64 0] 26)).alloc (.cells #[.int .i64 0] 3)) := (((Below.refl _ _).alloc (Nat.le_refl _) _).alloc (by simp) _).alloc (by simp; omega) _
  have z0 : Blk (((w.alloc (.cells Z19 25)).alloc (.cells #[.int .i64 0] 26)).alloc (.cells #[.int .i64 0] 3)) w.heap.size Z19 25 := ((Blk.new w Z19 _).old _).old _
  have y0 : Blk (((w.alloc (.cells Z19 25)).alloc (.cells #[.int .i64 0] 26)).alloc (.cells #[.int .i64 0] 3)) (w.heap.size + 1) #[.int .i64 0] 26 := by have := (Blk.new (w.alloc (.cells Z19 25)) #[.int .i64 0] 26).old (.cells #[.int .i64 0] 3); rwa [World.size_alloc] at this
  have x0 : Blk (((w.alloc (.cells Z19 25)).alloc (.cells #[.int .i64 0] 26)).alloc (.cells #[.int .i64 0] 3)) (w.heap.size + 1 + 1) #[.int .i64 0] 3 := by have := Blk.new ((w.alloc (.cells Z19 25)).alloc (.cells #[.int .i64 0] 26)) #[.int .i64 0] 3; rw [World.size_alloc, World.size_alloc] at this; exact this
  generalize ((w.alloc (.cells Z19 25)).alloc (.cells #[.int .i64 0] 26)).alloc (.cells #[.int .i64 0] 3) = W0 at *
  go_upto_region 2 with fail
  go_wp2_with fail
  refine (RC.out _ hb0).mono ?_
  rintro e W1 ⟨hf, hb1⟩
  unfold fault at hf
  subst hf
  have z1 := z0.below z0.lt hb1
  have y1 := y0.below y0.lt hb1
  have x1 := x0.below x0.lt hb1
  have hbw1 := hb0.trans (hb1.mono hb0.size)
  clear RC z0 y0 x0
  refine leaves_cons (f := 25) (args := #[.pointer (some ⟨w.heap.size, 0, none⟩), .pointer (some ⟨w.heap.size + 1, 0, none⟩), .pointer (some ⟨w.heap.size + 1 + 1, 0, none⟩)]) (by simp) (by simp [go_sem]) ?_
  refine (catch_fault w.heap.size (w.heap.size + 1) (w.heap.size + 1 + 1) x pl W1 z1 y1 x1 (by omega) (by omega)).mono ?_
  rintro e u' W4 ⟨rfl, rfl, z4, y4b, x4b, hb4⟩
  have y4 := y4b.cell 0
  have x4 := x4b.cell 0
  have hbw4 := hbw1.trans hb4
  have hl := run_loadVar_mid (P := Tryd.prog) W4 w.heap.size 0 25 Z19.toList _ z4.range Tryd.underlying25 rfl (by exact Tryd.infoCart)
  rw [Array.toArray_toList] at hl
  replace y4 : W4.cell? ⟨w.heap.size + 1, 0, none⟩ = some (.int .i64 x) := y4
  replace x4 : W4.cell? ⟨w.heap.size + 1 + 1, 0, none⟩ = some (.int .i64 pl) := x4
  have ly : (loadVar 26 ⟨w.heap.size + 1, 0, none⟩).run Tryd.prog W4 = .ok (.int .i64 x) W4 := by simp [go_sem, y4]
  have lx : (loadVar 3 ⟨w.heap.size + 1 + 1, 0, none⟩).run Tryd.prog W4 = .ok (.int .i64 pl) W4 := by simp [go_sem, x4]
  simp only [Leaves, settle]
  refine ⟨.tuple #[.agg Z19, .int .i64 x, .int .i64 pl], ?_, Z19, by rw [HXP.out.1, HXP.out.2], ?_, hbw4⟩
  · exact results_three Tryd.results8 rfl rfl rfl hl ly lx
  · rw [HPN.out.1.1.1, HPN.out.1.1.2, HPN.out.1.2.1, HPN.out.1.2.2, HPN.out.2]
    exact cl_no W4
set_option maxRecDepth 100000 in
set_option maxHeartbeats 3200000 in
theorem parse_fine (L : List Nat) (hB : Bytes L) (a : Option Addr) (n k : Nat) (w : World) (hI : L.length = n) (hk : n ≤ k) (hr : Row w a L) (hz : (pz L).1 = 0) :
    Calls Tryd.prog 8 #[.slice a n k] w (PaG L w) := by
  have RC : Hid (∀ W : World, Below w.heap.size w W → Calls Tryd.prog 26 #[.slice a n k] W (ReOk (pC L) (pT L) (pP L) (pQ L) (pR L) W)) := fun W hb => (read_g L hB a n k W hI hk (hr.below hb)).mono fun e w' h => by unfold ReG at h; rwa [if_neg (fun x => x hz)] at h
  have HLN : Hid ((pT L).length = (pC L).nt ∧ (pP L).length = (pC L).np ∧ (pQ L).length = (pC L).nq ∧ (pR L).length = (pC L).nr) := p_lens L
  have HE : Hid ((pz L).1 = 0 ∧ (pz L).2 = 0) := ⟨hz, (pz_good hz).1⟩
  clear hI hk hr hz hB
  have HQ : Hid (∀ e w', PaOk (pC L) (pT L) (pP L) (pQ L) (pR L) w e w' → PaG L w e w') := by
    rintro e w' ⟨xs, rfl, h1, h2⟩
    exact ⟨xs, by rw [HE.out.1, HE.out.2]; rfl, h1, h2⟩
  refine Calls.mono (R := PaOk (pC L) (pT L) (pP L) (pQ L) (pR L) w) ?_ HQ.out
  clear HQ HE
  generalize pC L = c at *
  generalize pT L = T at *
  generalize pP L = P at *
  generalize pQ L = Q at *
  generalize pR L = R at *
  have hmf : ∀ (fn : Fn) (first cap : Array Value) (w : World), (Instr.makeFunc fn first cap).run Tryd.prog w = .ok (.func fn first cap) w := fun _ _ _ _ => rfl
  go_enter_defers Tryd.func8, Tryd.ntmps8
  go_upto_region 1 with fail
  have hb0 : Below w.heap.size w (((w.alloc (.cells Z19 25)).alloc (.cells #[.int .i64 0] 26)).alloc (.cells #[.int .i64 0] 3)) := (((Below.refl _ _).alloc (Nat.le_refl _) _).alloc (by simp) _).alloc (by simp; omega) _
  have z0 : Blk (((w.alloc (.cells Z19 25)).alloc (.cells #[.int .i64 0] 26)).alloc (.cells #[.int .i64 0] 3)) w.heap.size Z19 25 := ((Blk.new w Z19 _).old _).old _
  have y0 : Blk (((w.alloc (.cells Z19 25)).alloc (.cells #[.int .i64 0] 26)).alloc (.cells #[.int .i64 0] 3)) (w.heap.size + 1) #[.int .i64 0] 26 := by have := (Blk.new (w.alloc (.cells Z19 25)) #[.int .i64 0] 26).old (.cells #[.int .i64 0] 3); rwa [World.size_alloc] at this
  have x0 : Blk (((w.alloc (.cells Z19 25)).alloc (.cells #[.int .i64 0] 26)).alloc (.cells #[.int .i64 0] 3)) (w.heap.size + 1 + 1) #[.int .i64 0] 3 := by have := Blk.new ((w.alloc (.cells Z19 25)).alloc (.cells #[.int .i64 0] 26)) #[.int .i64 0] 3; rw [World.size_alloc, World.size_alloc] at this; exact this
  generalize ((w.alloc (.cells Z19 25)).alloc (.cells #[.int .i64 0] 26)).alloc (.cells #[.int .i64 0] 3) = W0 at *
  go_upto_region 2 with fail
  go_wp2_with fail
  refine (RC.out _ hb0).mono ?_
  rintro e W1 ⟨xs, aT, kT, aP, kP, aQ, kQ, aR, kR, rfl, CX, es, ⟨FT, FP, FQ, FR⟩, hb1⟩
  have HX : Hid (xs.size = 19 ∧ xs.all (·.oneCell') = true) := ⟨CX.size, CX.one⟩
  have z1 := z0.below z0.lt hb1
  have y1 := y0.below y0.lt hb1
  have x1 := x0.below x0.lt hb1
  have hbw1 := hb0.trans (hb1.mono hb0.size)
  have hst := x0.lt
  clear RC z0 y0 x0
  go_wp2_with (refine wpList_store_mid rfl 25 _ _ rfl w.heap.size 0 xs rfl rfl (by exact z1.there _ HX.out.1.symm) (by rw [HX.out.1]; exact Tryd.infoCart) HX.out.2 ?_; have z2 := z1.setAll (L := xs) (by rw [HX.out.1]; rfl); have y2 := y1.otherCells (m := w.heap.size) (by omega) xs.toList 0; have x2 := x1.otherCells (m := w.heap.size) (by omega) xs.toList 0; have GT := RowF.puts (m := w.heap.size) (by omega) xs.toList 0 FT; have GP := RowF.puts (m := w.heap.size) (by omega) xs.toList 0 FP; have GQ := RowF.puts (m := w.heap.size) (by omega) xs.toList 0 FQ; have GR := RowF.puts (m := w.heap.size) (by omega) xs.toList 0 FR; have hbw2 := setCells_below (Nat.le_refl w.heap.size) xs.toList 0 _ _ hbw1; clear z1 y1 x1 FT FP FQ FR hbw1; generalize W1.setCells w.heap.size 0 xs.toList = W2 at *; have dy := (y2.cell 0).trans (show _ = some (.int .i64 0) from rfl); have fy := y2.free 0; have dx := (x2.cell 0).trans (show _ = some (.int .i64 0) from rfl); have fx := x2.free 0)
  have z3 := (z2.other (m := w.heap.size + 1) (by omega) 0 (.int .i64 0)).other (m := w.heap.size + 1 + 1) (by omega) 0 (.int .i64 0)
  have y3 := (y2.set 0 (.int .i64 0)).other (m := w.heap.size + 1 + 1) (by omega) 0 (.int .i64 0)
  have x3 := (x2.other (m := w.heap.size + 1) (by omega) 0 (.int .i64 0)).set 0 (.int .i64 0)
  have HT := (GT.put (m := w.heap.size + 1) (by omega) 0 (.int .i64 0)).put (m := w.heap.size + 1 + 1) (by omega) 0 (.int .i64 0)
  have HP := (GP.put (m := w.heap.size + 1) (by omega) 0 (.int .i64 0)).put (m := w.heap.size + 1 + 1) (by omega) 0 (.int .i64 0)
  have HQ := (GQ.put (m := w.heap.size + 1) (by omega) 0 (.int .i64 0)).put (m := w.heap.size + 1 + 1) (by omega) 0 (.int .i64 0)
  have HR := (GR.put (m := w.heap.size + 1) (by omega) 0 (.int .i64 0)).put (m := w.heap.size + 1 + 1) (by omega) 0 (.int .i64 0)
  have hbw3 := (hbw2.setCell (p := ⟨w.heap.size + 1, 0, none⟩) (by show w.heap.size ≤ w.heap.size + 1; omega) (.int .i64 0)).setCell (p := ⟨w.heap.size + 1 + 1, 0, none⟩) (by show w.heap.size ≤ w.heap.size + 1 + 1; omega) (.int .i64 0)
  clear z2 y2 x2 GT GP GQ GR hbw2 dy fy dx fx
  generalize (W2.setCell ⟨w.heap.size + 1, 0, none⟩ (.int .i64 0)).setCell ⟨w.heap.size + 1 + 1, 0, none⟩ (.int .i64 0) = W3 at *
  refine leaves_cons (f := 25) (args := #[.pointer (some ⟨w.heap.size, 0, none⟩), .pointer (some ⟨w.heap.size + 1, 0, none⟩), .pointer (some ⟨w.heap.size + 1 + 1, 0, none⟩)]) (by simp) (by simp [go_sem]) ?_
  refine (catch_idle _ _ _ W3).mono ?_
  rintro e u' W4 ⟨rfl, rfl, hb4⟩
  have z4 := z3.below z3.lt hb4
  have y4 := (y3.below y3.lt hb4).cell 0
  have x4 := (x3.below x3.lt hb4).cell 0
  have hbw4 := hbw3.trans (hb4.mono hbw3.size)
  have KT := HT.below hb4
  have KP := HP.below hb4
  have KQ := HQ.below hb4
  have KR := HR.below hb4
  have hl := run_loadVar_mid (P := Tryd.prog) W4 w.heap.size 0 25 xs.toList _ z4.range Tryd.underlying25 rfl (by rw [Array.length_toList, HX.out.1]; exact Tryd.infoCart)
  rw [Array.toArray_toList] at hl
  replace y4 : W4.cell? ⟨w.heap.size + 1, 0, none⟩ = some (.int .i64 0) := y4
  replace x4 : W4.cell? ⟨w.heap.size + 1 + 1, 0, none⟩ = some (.int .i64 0) := x4
  have ly : (loadVar 26 ⟨w.heap.size + 1, 0, none⟩).run Tryd.prog W4 = .ok (.int .i64 0) W4 := by simp [go_sem, y4]
  have lx : (loadVar 3 ⟨w.heap.size + 1 + 1, 0, none⟩).run Tryd.prog W4 = .ok (.int .i64 0) W4 := by simp [go_sem, x4]
  simp only [Leaves, settle]
  refine ⟨.tuple #[.agg xs, .int .i64 0, .int .i64 0], ?_, xs, rfl, ⟨CX, HLN.out.1, HLN.out.2.1, HLN.out.2.2.1, HLN.out.2.2.2, ⟨aT, kT, es.1, KT.row⟩, ⟨aP, kP, es.2.1, KP.row⟩, ⟨aQ, kQ, es.2.2.1, KQ.row⟩, ⟨aR, kR, es.2.2.2, KR.row⟩⟩, hbw4⟩
  exact results_three Tryd.results8 rfl rfl rfl hl ly lx
theorem parse_g (L : List Nat) (hB : Bytes L) (a : Option Addr) (n k : Nat) (w : World) (hI : L.length = n) (hk : n ≤ k) (hr : Row w a L) :
    Calls Tryd.prog 8 #[.slice a n k] w (PaG L w) := by
  by_cases hz : (pz L).1 = 0
  · exact parse_fine L hB a n k w hI hk hr hz
  · exact parse_bad L hB a n k w hI hk hr hz
end Go.Proofs.YtilhlbnicmmaoaaDoor
