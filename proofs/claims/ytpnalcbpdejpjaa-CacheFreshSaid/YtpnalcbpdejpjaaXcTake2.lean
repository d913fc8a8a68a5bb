/-
  take of a full slot.
-/
import Derived.Test.YtpnalcbpdejpjaaXcTakeS
set_option linter.unusedSimpArgs false
set_option linter.unusedVariables false
namespace Go.Proofs.Ytpnalcbpdejpjaa
open Go.RowKit Classical
set_option maxRecDepth 100000 in
set_option maxHeartbeats 4000000 in
theorem take_some (base q ga kA m k N sl i p fg fc : Nat) (A : List Nat) (es : List En) (cnt : Int → Int) (w : World) (H : Ca base q ga kA m k N (.slice (some ⟨fg, 0, none⟩) (p + 1) fc) A es cnt w) (hsl : A[sl]? = some (i + 1)) (hN : N ≤ 65536) (hes : es.length = p + 1) (hp : p < 65536) :
    Calls Try.prog 62 #[.pointer (some ⟨q, 0, none⟩), .int .i64 (sl : Nat)] w fun e w' => ∃ x l, es[i]? = some x ∧ x.slot = sl ∧ es[p]? = some l ∧ e = .returned (.tuple #[.agg x.key, .agg x.held, .bool true]) ∧ Ca base q ga kA m k N (.slice (some ⟨fg, 0, none⟩) p fc) ((A.set l.slot (i + 1)).set sl 0) ((es.set i l).take p) cnt w' ∧ Fr (CaS q ga m (.slice (some ⟨fg, 0, none⟩) (p + 1) fc)) w w' := by
  have hslN : sl < N := by rw [← H.v.len]; exact (List.getElem?_eq_some_iff.1 hsl).1
  obtain ⟨x, l, hx, hxs, hl, hlN, hi, CV⟩ := H.v.take hsl
  rw [hes] at hl hi CV
  rw [Nat.add_sub_cancel] at hl CV
  have hf0 := H.f
  rw [hes] at hf0
  have hqw := H.b.lt
  have hgw := (orow_base H.a).2.1
  have hfw := (orow_base hf0).2
  have c0 : w.cell? ⟨q, 0, none⟩ = some (.slice (some ⟨ga, 0, none⟩) N kA) := H.b.cell 0
  have c1 : w.cell? ⟨q, 1, none⟩ = some (.slice (some ⟨fg, 0, none⟩) (p + 1) fc) := H.b.cell 1
  have ca : w.cell? ⟨ga, sl, none⟩ = some (.int .i64 ((i + 1 : Nat) : Int)) := by
    rw [orow_cell H.a sl (by omega)]; simp [ints, hsl]
  have HH : Hid (Ca base q ga kA m k N (.slice (some ⟨fg, 0, none⟩) (p + 1) fc) A es cnt w) := H
  have HX : Hid (es[i]? = some x ∧ x.slot = sl ∧ es[p]? = some l ∧ l.slot < N) := ⟨hx, hxs, hl, hlN⟩
  have HV : Hid (Cv N ((A.set l.slot (i + 1)).set sl 0) ((es.set i l).take p)) := CV
  have HE : Hid (es.length = p + 1) := hes
  have HF0 : Hid (w.ownsRow base 113 12 (.slice (some ⟨fg, 0, none⟩) (p + 1) fc) (p + 1) (eflat es)) := hf0
  clear H hsl hx hxs hl CV hes hf0
  have hwi : IntKind.i64.wrap (i : Int) = (i : Int) := by rw [IntKind.wrap_i64]; omega
  have hwp : IntKind.i64.wrap (p : Int) = (p : Int) := by rw [IntKind.wrap_i64]; omega
  have hsli : (sl : Int) < (N : Int) := by omega
  have hii : (i : Int) < (p : Int) + 1 := by omega
  have hpi : (p : Int) < (p : Int) + 1 := by omega
  go_enter Try.func62, Try.ntmps62
  go_upto_region 1 with fail
  have hb0 : Below w.heap.size w ((w.alloc (.cells #[.int .u16 0, .int .i64 0] 24)).alloc (.cells #[.int .u16 0, .int .i64 0, .string ⟨#[]⟩, .int .i64 0, .slice none 0 0, .int .i64 0, .int .i64 0, .int .i64 0, .int .i64 0] 84)) := ((Below.refl _ _).alloc (Nat.le_refl _) _).alloc (by simp) _
  have zk : Blk ((w.alloc (.cells #[.int .u16 0, .int .i64 0] 24)).alloc (.cells #[.int .u16 0, .int .i64 0, .string ⟨#[]⟩, .int .i64 0, .slice none 0 0, .int .i64 0, .int .i64 0, .int .i64 0, .int .i64 0] 84)) w.heap.size #[.int .u16 0, .int .i64 0] 24 := (Blk.new w #[.int .u16 0, .int .i64 0] 24).old _
  have zh : Blk ((w.alloc (.cells #[.int .u16 0, .int .i64 0] 24)).alloc (.cells #[.int .u16 0, .int .i64 0, .string ⟨#[]⟩, .int .i64 0, .slice none 0 0, .int .i64 0, .int .i64 0, .int .i64 0, .int .i64 0] 84)) (w.heap.size + 1) #[.int .u16 0, .int .i64 0, .string ⟨#[]⟩, .int .i64 0, .slice none 0 0, .int .i64 0, .int .i64 0, .int .i64 0, .int .i64 0] 84 := by
    have := Blk.new (w.alloc (.cells #[.int .u16 0, .int .i64 0] 24)) #[.int .u16 0, .int .i64 0, .string ⟨#[]⟩, .int .i64 0, .slice none 0 0, .int .i64 0, .int .i64 0, .int .i64 0, .int .i64 0] 84
    simpa using this
  have T0 : Tw w q ga kA m N fg (p + 1) fc base A es ((w.alloc (.cells #[.int .u16 0, .int .i64 0] 24)).alloc (.cells #[.int .u16 0, .int .i64 0, .string ⟨#[]⟩, .int .i64 0, .slice none 0 0, .int .i64 0, .int .i64 0, .int .i64 0, .int .i64 0] 84)) := ⟨HH.out.b.below hqw hb0, orow_keep HH.out.a hb0, orow_keep HF0.out hb0, zk, zh, Fr.of_below hb0⟩
  replace c0 := (hb0.cell (p := ⟨q, 0, none⟩) (cell_lt c0)).trans c0
  replace c1 := (hb0.cell (p := ⟨q, 1, none⟩) (cell_lt c1)).trans c1
  replace ca := (hb0.cell (p := ⟨ga, sl, none⟩) (cell_lt ca)).trans ca
  clear zk zh hb0
  generalize (w.alloc (.cells #[.int .u16 0, .int .i64 0] 24)).alloc (.cells #[.int .u16 0, .int .i64 0, .string ⟨#[]⟩, .int .i64 0, .slice none 0 0, .int .i64 0, .int .i64 0, .int .i64 0, .int .i64 0] 84) = W0 at *
  go_quiet (fail)
  have T1 : Tw w q ga kA m N fg (p + 1) fc base A es (W0.drewN nq) := T0.on (below_drawsX (Below.refl _ _) nq)
  replace c0 : (W0.drewN nq).cell? ⟨q, 0, none⟩ = some (.slice (some ⟨ga, 0, none⟩) N kA) := c0
  replace c1 : (W0.drewN nq).cell? ⟨q, 1, none⟩ = some (.slice (some ⟨fg, 0, none⟩) (p + 1) fc) := c1
  clear T0 ca
  generalize W0.drewN nq = W1 at *
  go_upto_region 5 with fail
  have RX : W1.rangeAt fg (i * 12) x.cells.toList := fun t v hv => by
    have ht : t < 12 := (List.getElem?_eq_some_iff.1 hv).1
    rw [orow_cell T1.f (i * 12 + t) (by omega), eflat_at HX.out.1 t ht, ← Array.getElem?_toList]; exact hv
  have HRX : Hid (W1.rangeAt fg (i * 12) x.cells.toList) := RX
  clear RX
  obtain ⟨XC, hXC⟩ : ∃ XC, x.cells = XC := ⟨_, rfl⟩
  have HXC : Hid (x.cells = XC ∧ XC.size = 12 ∧ XC.all (·.oneCell') = true) := ⟨hXC, by rw [← hXC]; rfl, by rw [← hXC]; kernel_rfl⟩
  rw [hXC] at HRX
  clear hXC
  go_cut [10] (fun z wx => ∃ qe, z = .pointer (some ⟨qe, 0, none⟩) ∧ Tw w q ga kA m N fg (p + 1) fc base A es wx ∧ Blk wx qe XC 113 ∧ w.heap.size + 1 < qe)
  case first =>
    have hsz := T1.h.lt
    have hB : Below W1.heap.size W1 ((W1.alloc (.cells #[.int .i64 0, .int .u16 0, .int .i64 0, .int .u16 0, .int .i64 0, .string ⟨#[]⟩, .int .i64 0, .slice none 0 0, .int .i64 0, .int .i64 0, .int .i64 0, .int .i64 0] 113)).setCells W1.heap.size 0 XC.toList) := setCells_below' (Nat.le_refl _) _ _ _ _ ((Below.refl _ _).alloc (Nat.le_refl _) _)
    have z5 : Blk ((W1.alloc (.cells #[.int .i64 0, .int .u16 0, .int .i64 0, .int .u16 0, .int .i64 0, .string ⟨#[]⟩, .int .i64 0, .slice none 0 0, .int .i64 0, .int .i64 0, .int .i64 0, .int .i64 0] 113)).setCells W1.heap.size 0 XC.toList) W1.heap.size XC 113 := (Blk.new W1 #[.int .i64 0, .int .u16 0, .int .i64 0, .int .u16 0, .int .i64 0, .string ⟨#[]⟩, .int .i64 0, .slice none 0 0, .int .i64 0, .int .i64 0, .int .i64 0, .int .i64 0] 113).setAll (by rw [HXC.out.2.1]; rfl)
    have T2 := T1.on hB
    go_wp2_with (first
      | (refine wpList_load_mid rfl 113 _ rfl fg (i * 12) rfl XC.toList _ HRX.out Try.underlying113 rfl (by rw [Array.length_toList, HXC.out.2.1]; kernel_rfl) ?_; rw [Array.toArray_toList])
      | (refine wpList_store_mid rfl 113 _ _ rfl W1.heap.size 0 XC rfl rfl ((Blk.new W1 #[.int .i64 0, .int .u16 0, .int .i64 0, .int .u16 0, .int .i64 0, .string ⟨#[]⟩, .int .i64 0, .slice none 0 0, .int .i64 0, .int .i64 0, .int .i64 0, .int .i64 0] 113).there' 12 rfl |> fun h => by rw [HXC.out.2.1]; exact h) (by rw [HXC.out.2.1]; kernel_rfl) HXC.out.2.2 ?_))
    go_meet
    exact ⟨_, rfl, T2, z5, hsz⟩
  case rest =>
  clear HRX T1 c0 c1
  obtain ⟨qe, rfl, T1, ze, hqe⟩ := hcut
  generalize wc = W2 at *
  have c1 : W2.cell? ⟨q, 1, none⟩ = some (.slice (some ⟨fg, 0, none⟩) (p + 1) fc) := T1.b.cell 1
  have hl12 : ∀ t, t < 12 → W2.cell? ⟨fg, p * 12 + t, none⟩ = l.cells[t]? := fun t ht => by
    rw [orow_cell T1.f (p * 12 + t) (by omega)]; exact eflat_at HX.out.2.2.1 t ht
  have l0 : W2.cell? ⟨fg, p * 12, none⟩ = some (.int .i64 ((l.slot : Nat) : Int)) := hl12 0 (by decide)
  have l1 : W2.cell? ⟨fg, p * 12 + 1, none⟩ = some (.int .u16 l.pc) := hl12 1 (by decide)
  have l2 : W2.cell? ⟨fg, p * 12 + 2, none⟩ = some (.int .i64 l.tag) := hl12 2 (by decide)
  have l3 : W2.cell? ⟨fg, p * 12 + 3, none⟩ = some (.int .u16 l.pc) := hl12 3 (by decide)
  have l4 : W2.cell? ⟨fg, p * 12 + 4, none⟩ = some (.int .i64 l.tag) := hl12 4 (by decide)
  have l5 : W2.cell? ⟨fg, p * 12 + 5, none⟩ = some (.string l.s) := hl12 5 (by decide)
  have l6 : W2.cell? ⟨fg, p * 12 + 6, none⟩ = some (.int .i64 l.ni) := hl12 6 (by decide)
  have l7 : W2.cell? ⟨fg, p * 12 + 7, none⟩ = some (.slice l.oa l.on l.oc) := hl12 7 (by decide)
  have l8 : W2.cell? ⟨fg, p * 12 + 8, none⟩ = some (.int .i64 l.lo) := hl12 8 (by decide)
  have l9 : W2.cell? ⟨fg, p * 12 + 9, none⟩ = some (.int .i64 l.hi) := hl12 9 (by decide)
  have l10 : W2.cell? ⟨fg, p * 12 + 10, none⟩ = some (.int .i64 l.f) := hl12 10 (by decide)
  have l11 : W2.cell? ⟨fg, p * 12 + 11, none⟩ = some (.int .i64 l.sz) := hl12 11 (by decide)
  clear hl12
  have hnf : fg ≠ qe := by omega
  have TH : Hid (W2.drew.there fg (i * 12) 12) := fun j hj => by
    refine ⟨?_, orow_free T1.f (i * 12 + j)⟩
    show (W2.cell? ⟨fg, i * 12 + j, none⟩).isSome = true
    rw [orow_cell T1.f (i * 12 + j) (by omega), eflat_at HX.out.1 j hj]
    have : j < x.cells.size := hj
    simp [this]
  go_upto_region 6 with fail
  go_cut [] (fun wx => Tw w q ga kA m N fg (p + 1) fc base A (es.set i l) wx ∧ Blk wx qe XC 113)
  case first =>
    go_still_tail 15, (by kernel_rfl)
    go_wp2_with (refine wpList_store_mid rfl 113 _ _ rfl fg (i * 12) #[.int .i64 ((l.slot : Nat) : Int), .int .u16 l.pc, .int .i64 l.tag, .int .u16 l.pc, .int .i64 l.tag, .string l.s, .int .i64 l.ni, .slice l.oa l.on l.oc, .int .i64 l.lo, .int .i64 l.hi, .int .i64 l.f, .int .i64 l.sz] rfl rfl (TH.out) (by kernel_rfl) (by kernel_rfl) ?_)
    go_meet
    have T2 := (T1.on (v' := W2.drew) ((Below.refl _ _).drew)).setF HX.out.1 HE.out l (by omega) hqw hfw.1
    have eL : l.cells.toList = (#[.int .i64 ((l.slot : Nat) : Int), .int .u16 l.pc, .int .i64 l.tag, .int .u16 l.pc, .int .i64 l.tag, .string l.s, .int .i64 l.ni, .slice l.oa l.on l.oc, .int .i64 l.lo, .int .i64 l.hi, .int .i64 l.f, .int .i64 l.sz] : Array Value).toList := rfl
    have z2 : Blk (W2.drew.setCells fg (i * 12) l.cells.toList) qe XC 113 := ze.drew.otherCells (by omega) _ _
    rw [eL] at T2 z2
    exact ⟨T2, z2⟩
  case rest =>
  clear T1 ze l0 l1 l2 l3 l4 l5 l6 l7 l8 l9 l10 l11 c1 TH
  obtain ⟨T1, ze⟩ := hcut
  generalize wc = W3 at *
  have hAl : A[l.slot]? = some (p + 1) := (HH.out.v.e p l HX.out.2.2.1).2
  have hAs : (A.set l.slot (i + 1))[sl]? = some (i + 1) := by
    by_cases e : l.slot = sl
    · rw [e]; exact List.getElem?_set_self (by rw [HH.out.v.len]; exact hslN)
    · rw [List.getElem?_set_ne e]
      have := (HH.out.v.e i x HX.out.1).2
      rw [HX.out.2.1] at this
      exact this
  have HAS : Hid ((A.set l.slot (i + 1))[sl]? = some (i + 1)) := hAs
  clear hAs
  have c0 : W3.cell? ⟨q, 0, none⟩ = some (.slice (some ⟨ga, 0, none⟩) N kA) := T1.b.cell 0
  have c1 : W3.cell? ⟨q, 1, none⟩ = some (.slice (some ⟨fg, 0, none⟩) (p + 1) fc) := T1.b.cell 1
  have s0 : W3.cell? ⟨fg, i * 12, none⟩ = some (.int .i64 ((l.slot : Nat) : Int)) := by
    have hil : i < es.length := by rw [HE.out]; exact hi
    have h9 := orow_cell T1.f (i * 12 + 0) (by omega)
    rw [Nat.add_zero] at h9
    rw [h9]
    exact eflat_at (List.getElem?_set_self hil) 0 (by decide)
  have a0 : W3.cell? ⟨ga, l.slot, none⟩ = some (.int .i64 ((p + 1 : Nat) : Int)) := by
    rw [orow_cell T1.a l.slot (by omega)]; simp [ints, hAl]
  have fa := orow_free T1.a l.slot
  have hlNi : ((l.slot : Nat) : Int) < (N : Int) := by omega
  have T4 := (T1.on (v' := W3.drew) ((Below.refl _ _).drew)).setA hlN (i + 1) hqw hgw
  have z4 : Blk (W3.drew.setCell ⟨ga, l.slot, none⟩ (.int .i64 ((i + 1 : Nat) : Int))) qe XC 113 := ze.drew.other (by omega) _ _
  have HT4 : Hid (Tw w q ga kA m N fg (p + 1) fc base (A.set l.slot (i + 1)) (es.set i l) (W3.drew.setCell ⟨ga, l.slot, none⟩ (.int .i64 ((i + 1 : Nat) : Int))) ∧ Blk (W3.drew.setCell ⟨ga, l.slot, none⟩ (.int .i64 ((i + 1 : Nat) : Int))) qe XC 113) := ⟨T4, z4⟩
  clear T4 z4 hAl
  obtain ⟨ls, hls⟩ : ∃ ls, l.slot = ls := ⟨_, rfl⟩
  have HLS : Hid (l.slot = ls) := hls
  rw [hls] at s0 a0 fa hlNi HT4 HAS hlN
  clear hls
  go_upto_region 7 with fail
  go_cut [] (fun wx => Tw w q ga kA m N fg (p + 1) fc base (A.set ls (i + 1)) (es.set i l) wx ∧ Blk wx qe XC 113)
  case first =>
    go_still_tail 15, (by kernel_rfl)
    go_wp2
    go_meet
    have h9 := HT4.out
    rw [show ((i + 1 : Nat) : Int) = (i : Int) + 1 from rfl] at h9
    exact h9
  case rest =>
  clear T1 ze c0 c1 s0 a0 fa HT4
  obtain ⟨T1, ze⟩ := hcut
  generalize wc = W4 at *
  have c0 : W4.cell? ⟨q, 0, none⟩ = some (.slice (some ⟨ga, 0, none⟩) N kA) := T1.b.cell 0
  have c1 : W4.cell? ⟨q, 1, none⟩ = some (.slice (some ⟨fg, 0, none⟩) (p + 1) fc) := T1.b.cell 1
  have a0 : W4.cell? ⟨ga, sl, none⟩ = some (.int .i64 ((i + 1 : Nat) : Int)) := by
    rw [orow_cell T1.a sl (by omega)]; unfold ints; rw [List.getElem?_map, HAS.out]; rfl
  have fa := orow_free T1.a sl
  have T5 := T1.setA hslN 0 hqw hgw
  have z5 : Blk (W4.setCell ⟨ga, sl, none⟩ (.int .i64 ((0 : Nat) : Int))) qe XC 113 := ze.other (by omega) _ _
  have HT5 : Hid (Tw w q ga kA m N fg (p + 1) fc base ((A.set ls (i + 1)).set sl 0) (es.set i l) (W4.setCell ⟨ga, sl, none⟩ (.int .i64 0)) ∧ Blk (W4.setCell ⟨ga, sl, none⟩ (.int .i64 0)) qe XC 113) := ⟨T5, z5⟩
  clear T5 z5
  go_upto_region 8 with fail
  go_cut [] (fun wx => Tw w q ga kA m N fg (p + 1) fc base ((A.set ls (i + 1)).set sl 0) (es.set i l) wx ∧ Blk wx qe XC 113)
  case first =>
    go_wp2
    go_meet
    exact HT5.out
  case rest =>
  clear T1 ze c0 c1 a0 fa HT5
  obtain ⟨T1, ze⟩ := hcut
  generalize wc = W5 at *
  have c1 : W5.cell? ⟨q, 1, none⟩ = some (.slice (some ⟨fg, 0, none⟩) (p + 1) fc) := T1.b.cell 1
  have hpc : p + 1 ≤ fc := hfw.2
  have hpc0 : ¬ fc = p := by omega
  have hpc1 : (p : Int) + 1 ≤ (fc : Int) := by omega
  have hpl : p < (es.set i l).length := by rw [List.length_set, HE.out]; omega
  obtain ⟨y, hy⟩ : ∃ y, (es.set i l)[p]? = some y := ⟨_, List.getElem?_eq_getElem hpl⟩
  have TH9 : W5.there fg (p * 12) 12 := fun j hj => by
    refine ⟨?_, orow_free T1.f (p * 12 + j)⟩
    rw [orow_cell T1.f (p * 12 + j) (by omega), eflat_at hy j hj]
    have : j < y.cells.size := hj
    simp [this]
  have CLR : ∀ ty, (Builtin.clear_ #[77] ty #[.slice (some ⟨fg, p * 12, none⟩) 1 (fc - p)]).run Try.prog W5 = .ok (.tuple #[]) (W5.setCells fg (p * 12) (#[.int .i64 0, .int .u16 0, .int .i64 0, .int .u16 0, .int .i64 0, .string ⟨#[]⟩, .int .i64 0, .slice none 0 0, .int .i64 0, .int .i64 0, .int .i64 0, .int .i64 0] : Array Value).toList) := fun ty => clear_run fg (p * 12) (fc - p) ty W5 TH9
  have HT9 : Hid (Tw w q ga kA m N fg (p + 1) fc base ((A.set ls (i + 1)).set sl 0) ((es.set i l).set p ⟨0, 0, 0, ⟨#[]⟩, 0, none, 0, 0, 0, 0, 0, 0⟩) (W5.setCells fg (p * 12) (#[.int .i64 0, .int .u16 0, .int .i64 0, .int .u16 0, .int .i64 0, .string ⟨#[]⟩, .int .i64 0, .slice none 0 0, .int .i64 0, .int .i64 0, .int .i64 0, .int .i64 0] : Array Value).toList) ∧ Blk (W5.setCells fg (p * 12) (#[.int .i64 0, .int .u16 0, .int .i64 0, .int .u16 0, .int .i64 0, .string ⟨#[]⟩, .int .i64 0, .slice none 0 0, .int .i64 0, .int .i64 0, .int .i64 0, .int .i64 0] : Array Value).toList) qe XC 113) := ⟨T1.setF hy (by rw [List.length_set, HE.out]) ⟨0, 0, 0, ⟨#[]⟩, 0, none, 0, 0, 0, 0, 0, 0⟩ (by omega) hqw hfw.1, ze.otherCells (by omega) _ _⟩
  clear TH9 hy hpl
  generalize W5.setCells fg (p * 12) (#[.int .i64 0, .int .u16 0, .int .i64 0, .int .u16 0, .int .i64 0, .string ⟨#[]⟩, .int .i64 0, .slice none 0 0, .int .i64 0, .int .i64 0, .int .i64 0, .int .i64 0] : Array Value).toList = W6 at *
  go_upto_region 9 with fail
  go_cut [] (fun wx => wx = W6)
  case first =>
    go_wp2
    go_meet
    rfl
  case rest =>
  rw [hcut]
  clear hcut T1 ze c1 CLR
  obtain ⟨T1, ze⟩ := HT9.out
  clear HT9
  have c1 : W6.cell? ⟨q, 1, none⟩ = some (.slice (some ⟨fg, 0, none⟩) (p + 1) fc) := T1.b.cell 1
  have f1 := T1.b.free 1
  go_upto_region 10 with fail
  go_cut [] (fun wx => wx = W6.setCell ⟨q, 1, none⟩ (.slice (some ⟨fg, 0, none⟩) p fc))
  case first =>
    have hfc0 : ¬ fc = 0 := by omega
    have hpf : (p : Int) ≤ (fc : Int) := by omega
    go_wp2
    go_meet
    rfl
  case rest =>
  rw [hcut]
  clear hcut c1 f1
  have n1 := orow_blk T1.f T1.b (by decide)
  have n2 := orow_blk T1.a T1.b (by decide)
  have n3 := HH.out.mr.apart HH.out.b
  have n4 := HH.out.mr.row HH.out.a
  have n5 := HH.out.mr.row HF0.out
  have CA : Hid (Ca base q ga kA m k N (.slice (some ⟨fg, 0, none⟩) p fc) ((A.set l.slot (i + 1)).set sl 0) ((es.set i l).take p) cnt (W6.setCell ⟨q, 1, none⟩ (.slice (some ⟨fg, 0, none⟩) p fc)) ∧ Fr (fun k => k = q ∨ k = ga ∨ k = fg) w (W6.setCell ⟨q, 1, none⟩ (.slice (some ⟨fg, 0, none⟩) p fc))) := by
    have hfr := T1.fr.setCell (b := q) (.inl (.inl rfl)) 1 (.slice (some ⟨fg, 0, none⟩) p fc)
    refine ⟨⟨T1.b.set 1 _, ?_, ?_, HH.out.mr.keep (hfr.block m HH.out.mr.lt (fun h => by rcases h with h | h | h; exact n3 h; exact n4 h; exact n5 h)), HV.out, HH.out.hq, HH.out.hm⟩, hfr⟩
    · rw [HLS.out]; exact orow_ne T1.a (fun g c e => by cases e; exact n2)
    · have hlen : ((es.set i l).take p).length = p := by rw [List.length_take, List.length_set, HE.out]; omega
      rw [hlen]
      have h8 : eflat ((es.set i l).set p ⟨0, 0, 0, ⟨#[]⟩, 0, none, 0, 0, 0, 0, 0, 0⟩) = eflat ((es.set i l).take p) ++ (#[.int .i64 0, .int .u16 0, .int .i64 0, .int .u16 0, .int .i64 0, .string ⟨#[]⟩, .int .i64 0, .slice none 0 0, .int .i64 0, .int .i64 0, .int .i64 0, .int .i64 0] : Array Value).toList := by
        have h7 : (es.set i l).set p ⟨0, 0, 0, ⟨#[]⟩, 0, none, 0, 0, 0, 0, 0, 0⟩ = (es.set i l).take p ++ [⟨0, 0, 0, ⟨#[]⟩, 0, none, 0, 0, 0, 0, 0, 0⟩] := by
          rw [List.set_eq_take_append_cons_drop, if_pos (by rw [List.length_set, HE.out]; omega), List.drop_of_length_le (by rw [List.length_set, HE.out]; omega)]
        rw [h7, eflat_app]; rfl
      have h6 := T1.f
      rw [h8] at h6
      exact orow_ne (orow_prefix h6 (by rw [eflat_len, hlen])) (fun g c e => by cases e; exact n1)
  have zk9 : Blk (W6.setCell ⟨q, 1, none⟩ (.slice (some ⟨fg, 0, none⟩) p fc)) w.heap.size #[.int .u16 0, .int .i64 0] 24 := T1.k.other (by omega) _ _
  have zh9 : Blk (W6.setCell ⟨q, 1, none⟩ (.slice (some ⟨fg, 0, none⟩) p fc)) (w.heap.size + 1) #[.int .u16 0, .int .i64 0, .string ⟨#[]⟩, .int .i64 0, .slice none 0 0, .int .i64 0, .int .i64 0, .int .i64 0, .int .i64 0] 84 := T1.h.other (by omega) _ _
  have ze9 : Blk (W6.setCell ⟨q, 1, none⟩ (.slice (some ⟨fg, 0, none⟩) p fc)) qe XC 113 := ze.other (by omega) _ _
  clear T1 ze n1 n2 n3 n4 n5
  generalize W6.setCell ⟨q, 1, none⟩ (.slice (some ⟨fg, 0, none⟩) p fc) = W7 at *
  rw [← HXC.out.1] at ze9
  have hbC := CA.out.2.size
  go_upto_region 11 with fail
  have kh0 : Kh2 w W7 qe x.cells W7.drew := ⟨ze9, ⟨_, zk9, rfl⟩, ⟨_, zh9, rfl⟩, Fr.of_below (Below.refl _ _).drew⟩
  have hmw := HH.out.mr.lt
  clear ze9 zk9 zh9
  refine wp_region_held (S := Kh2 w W7 qe x.cells) (by kernel_rfl) ?_
  refine takeH (i := 0) (v := .pointer (some ⟨qe, 1, none⟩)) _ rfl (by kernel_rfl) (by kernel_rfl) (by kernel_rfl) (fun _ _ _ h => h) (.inl ⟨by kernel_rfl, fun _ _ => by kernel_rfl⟩) kh0 rfl ?_
  refine takeH (i := 1) (v := .agg (x.key : Array Value).toList.toArray) _ rfl (by kernel_rfl) (by kernel_rfl) (by kernel_rfl) (fun _ _ _ h => h) (.inl ⟨by kernel_rfl, fun v hv => exec_loadM (cs := (x.key : Array Value).toList) rfl (by kernel_rfl) (hv.e.rangeAt 1 _ (fun i hi => by rcases (show i = 0 ∨ i = 1 by have : i < 2 := hi; omega) with rfl | rfl <;> rfl)) Try.underlying24 rfl (by kernel_rfl)⟩) kh0 rfl ?_
  refine takeH (i := 2) (v := .pointer (some ⟨qe, 3, none⟩)) _ rfl (by kernel_rfl) (by kernel_rfl) (by kernel_rfl) (fun _ _ _ h => h) (.inl ⟨by kernel_rfl, fun _ _ => by kernel_rfl⟩) kh0 rfl ?_
  refine takeH (i := 3) (v := .agg (x.held : Array Value).toList.toArray) _ rfl (by kernel_rfl) (by kernel_rfl) (by kernel_rfl) (fun _ _ _ h => h) (.inl ⟨by kernel_rfl, fun v hv => exec_loadM (cs := (x.held : Array Value).toList) rfl (by kernel_rfl) (hv.e.rangeAt 3 _ (fun i hi => by rcases (show i = 0 ∨ i = 1 ∨ i = 2 ∨ i = 3 ∨ i = 4 ∨ i = 5 ∨ i = 6 ∨ i = 7 ∨ i = 8 by have : i < 9 := hi; omega) with rfl | rfl | rfl | rfl | rfl | rfl | rfl | rfl | rfl <;> rfl)) Try.underlying84 rfl (by kernel_rfl)⟩) kh0 rfl ?_
  obtain ⟨kc, zk, hkc⟩ := kh0.k
  refine storeH (i := 4) _ (by kernel_rfl) rfl (by kernel_rfl) 24 (.tmp 4) (.tmp 91) rfl w.heap.size 0 (.agg (x.key : Array Value).toList.toArray) x.key (by kernel_rfl) (by kernel_rfl) rfl (zk.there' 2 hkc) (by kernel_rfl) (by kernel_rfl) rfl ?_
  intro wS1 eS1
  have zk1 : Blk wS1 w.heap.size x.key 24 := by rw [eS1]; exact zk.setAll (by rw [hkc]; rfl)
  have kh1 : Kh2 w W7 qe x.cells wS1 := ⟨by rw [eS1]; exact kh0.e.otherCells (fun e => by omega) _ _, ⟨_, zk1, rfl⟩, by rw [eS1]; obtain ⟨c, z, hc⟩ := kh0.h; exact ⟨c, z.otherCells (by omega) _ _, hc⟩, by rw [eS1]; exact kh0.b.setCells (.inl (.inl rfl)) _ _⟩
  clear eS1
  refine ⟨kh1, ?_⟩
  obtain ⟨hc, zh, hhc⟩ := kh1.h
  refine storeH (i := 5) _ (by kernel_rfl) rfl (by kernel_rfl) 84 (.tmp 5) (.tmp 93) rfl (w.heap.size + 1) 0 (.agg (x.held : Array Value).toList.toArray) x.held (by kernel_rfl) (by kernel_rfl) rfl (zh.there' 9 hhc) (by kernel_rfl) (by kernel_rfl) rfl ?_
  intro wS2 eS2
  have zh2 : Blk wS2 (w.heap.size + 1) x.held 84 := by rw [eS2]; exact zh.setAll (by rw [hhc]; rfl)
  have zk2 : Blk wS2 w.heap.size x.key 24 := by rw [eS2]; exact zk1.otherCells (by omega) _ _
  have kh2 : Kh2 w W7 qe x.cells wS2 := ⟨by rw [eS2]; exact kh1.e.otherCells (fun e => by omega) _ _, ⟨_, zk2, rfl⟩, ⟨_, zh2, rfl⟩, by rw [eS2]; exact kh1.b.setCells (.inl (.inr rfl)) _ _⟩
  clear eS2
  refine ⟨kh2, ?_⟩
  refine takeH (i := 6) (v := .bool true) _ rfl (by kernel_rfl) (by kernel_rfl) (by kernel_rfl) (fun _ _ _ h => h) (.inl ⟨by kernel_rfl, fun _ _ => by kernel_rfl⟩) kh2 rfl ?_
  refine wpAnyH_done (by kernel_rfl) ?_ _
  go_wp2
  refine ret_c3 (m := w.heap.size) (m2 := w.heap.size + 1) (L := x.key) (M := x.held) (x := .bool true) Try.results62 (by kernel_rfl) (by kernel_rfl) (by kernel_rfl) (by kernel_rfl) zk2 Try.underlying24 rfl (by kernel_rfl) zh2 Try.underlying84 rfl (by kernel_rfl) ?_
  refine ⟨x, l, HX.out.1, HX.out.2.1, HX.out.2.2.1, rfl, CA.out.1.fr kh2.b (by omega) (by omega) (by omega) (fun b e => by cases e; omega), ?_⟩
  exact (CA.out.2.mono (fun k h => by rcases h with h | h | h; exact .inl h; exact .inr (.inl h); exact .inr (.inr (.inr (by rw [h]; rfl))))).andThen kh2.b (fun k h => .inr (by omega))
end Go.Proofs.Ytpnalcbpdejpjaa
