/-
  What the document's ChrBank answers of an MMC3.
-/
import Derived.Test.YtggphgmpdanliaaYRef0
import Derived.Test.YtggphgmpdanliaaYApi
set_option linter.unusedSimpArgs false
set_option linter.unusedVariables false
namespace Go.Proofs.Ytggphgmpdanliaa
open Go.RowKit
set_option maxRecDepth 100000 in
set_option maxHeartbeats 1000000 in
theorem rchr_4 (w : World) (b : Bd) (x : Int) (n0 : 0 ≤ x) (n1 : x ≤ 7) (o : b.Ok) (hk : b.kind = 4) :
    Calls Try.prog 31 #[.agg b.cells, .int .i64 x] w fun e w' => e = .returned (.int .i64 (chrB b x)) ∧ Below w.heap.size w w' := by
  have e128 := bit128 o.wf.sel.1 o.wf.sel.2
  have sb : b.sel / 128 % 2 = 0 ∨ b.sel / 128 % 2 = 1 := by omega
  have hx : x = 0 ∨ x = 1 ∨ x = 2 ∨ x = 3 ∨ x = 4 ∨ x = 5 ∨ x = 6 ∨ x = 7 := by omega
  have SX : Hid _ := sb
  have XH : Hid _ := hx
  clear sb hx n0 n1
  have p0 := o.c0
  have p1 := o.c1
  have pz : ¬ b.chr = 0 := by omega
  obtain ⟨ga0, gb0⟩ := o.wf.rget 0
  obtain ⟨ga1, gb1⟩ := o.wf.rget 1
  obtain ⟨ga2, gb2⟩ := o.wf.rget 2
  obtain ⟨ga3, gb3⟩ := o.wf.rget 3
  obtain ⟨ga4, gb4⟩ := o.wf.rget 4
  obtain ⟨ga5, gb5⟩ := o.wf.rget 5
  have v0 := and254 ga0 gb0
  have v1 := and254 ga1 gb1
  have h00 : 0 ≤ b.r.getD 0 0 - b.r.getD 0 0 % 2 := by omega
  have h01 : b.r.getD 0 0 - b.r.getD 0 0 % 2 ≤ 254 := by omega
  have h10 : 0 ≤ b.r.getD 1 0 - b.r.getD 1 0 % 2 := by omega
  have h11 : b.r.getD 1 0 - b.r.getD 1 0 % 2 ≤ 254 := by omega
  have SBH : Hid (chrB b x = (let t := if b.sel / 128 % 2 = 1 then (x + 4) % 8 else x
     if t < 2 then b.r.getD 0 0 - b.r.getD 0 0 % 2 + t else if t < 4 then b.r.getD 1 0 - b.r.getD 1 0 % 2 + (t - 2) else b.r.getD (t - 2).toNat 0) % b.chr) := by unfold Hid; simp [chrB, chrN, hk]
  have MI : Hid _ := fun (n : Int) (h : 0 ≤ n) => mod_in n b.chr h (by omega)
  obtain ⟨v, hv⟩ : ∃ v, chrB b x = v := ⟨_, rfl⟩
  rw [hv]
  have HV : Hid _ := hv
  clear hv
  have C := isB b o.wf.rlen
  have VA : ∀ W, Calls Try.prog 42 #[.agg b.cells] W fun e w' => e = .returned (.bool true) ∧ Below W.heap.size W w' := fun W => o.val ▸ refValid_any W b o.wf
  generalize b.cells = cs at *
  have HS : Hid _ := C.size
  have HVA : Hid _ := VA
  clear o VA
  go_enter Try.func31, Try.ntmps31
  go_upto_region 1 with fail
  have b0 : Blk (w.alloc (.cells cs 28)) w.heap.size cs 28 := Blk.new w cs _
  have hb0 : Below w.heap.size w (w.alloc (.cells cs 28)) := (Below.refl _ _).alloc (Nat.le_refl _) _
  generalize w.alloc (.cells cs 28) = W0 at *
  go_wp2_with (refine wpList_load_mid rfl 28 _ rfl w.heap.size 0 rfl cs.toList _ b0.range Try.underlying28 rfl (by rw [Array.length_toList, HS.out]; exact Try.infoBoard) ?_)
  refine (HVA.out W0).mono ?_
  rintro e W1 ⟨rfl, hb1'⟩
  have hb1 : Below w.heap.size w W1 := hb0.trans (hb1'.mono hb0.size)
  have b1 := b0.below b0.lt hb1'
  have d0 := (b1.cell 0).trans C.h0
  have d5 := (b1.cell 5).trans C.h5
  have d14 := (b1.cell 14).trans C.h14
  have d15 : _ = some (Value.int .u8 (b.r.getD 0 0)) := (b1.cell 15).trans (C.r 0 (by decide))
  have d16 : _ = some (Value.int .u8 (b.r.getD 1 0)) := (b1.cell 16).trans (C.r 1 (by decide))
  have d17 : _ = some (Value.int .u8 (b.r.getD 2 0)) := (b1.cell 17).trans (C.r 2 (by decide))
  have d18 : _ = some (Value.int .u8 (b.r.getD 3 0)) := (b1.cell 18).trans (C.r 3 (by decide))
  have d19 : _ = some (Value.int .u8 (b.r.getD 4 0)) := (b1.cell 19).trans (C.r 4 (by decide))
  have d20 : _ = some (Value.int .u8 (b.r.getD 5 0)) := (b1.cell 20).trans (C.r 5 (by decide))
  clear C b0 hb0 hb1' HVA
  rw [hk] at d0
  have sb := SX.out
  have hx := XH.out
  clear SX XH
  rcases sb with sb | sb <;> rcases hx with rfl | rfl | rfl | rfl | rfl | rfl | rfl | rfl
  · have HB : Hid (chrB b 0 = (b.r.getD 0 0 - b.r.getD 0 0 % 2 + 0) % b.chr) := by unfold Hid; rw [SBH.out]; simp [sb]
    rw [sb] at e128
    clear SBH sb d16 d17 d18 d19 d20
    generalize b.r.getD 0 0 = rr at *
    generalize rr - rr % 2 = re at *
    obtain ⟨em, m0, m1⟩ := MI.out (re) (by omega)
    have m2 : (re) % b.chr ≤ 512 := by omega
    have EQ : Hid ((re) % b.chr = v) := (congrArg (· % b.chr) (show re = re + 0 by omega)).trans (HB.out.symm.trans HV.out)
    generalize (re) % b.chr = fin at *
    clear MI HV HB m1
    go_wp2
    go_ret
    exact ⟨fin64 EQ.out, hb1⟩
  · have HB : Hid (chrB b 1 = (b.r.getD 0 0 - b.r.getD 0 0 % 2 + 1) % b.chr) := by unfold Hid; rw [SBH.out]; simp [sb]
    rw [sb] at e128
    clear SBH sb d16 d17 d18 d19 d20
    generalize b.r.getD 0 0 = rr at *
    generalize rr - rr % 2 = re at *
    obtain ⟨em, m0, m1⟩ := MI.out (re + 1) (by omega)
    have m2 : (re + 1) % b.chr ≤ 512 := by omega
    have EQ : Hid ((re + 1) % b.chr = v) := (congrArg (· % b.chr) (show re + 1 = re + 1 by omega)).trans (HB.out.symm.trans HV.out)
    generalize (re + 1) % b.chr = fin at *
    clear MI HV HB m1
    go_wp2
    go_ret
    exact ⟨fin64 EQ.out, hb1⟩
  · have HB : Hid (chrB b 2 = (b.r.getD 1 0 - b.r.getD 1 0 % 2 + 0) % b.chr) := by unfold Hid; rw [SBH.out]; simp [sb]
    rw [sb] at e128
    clear SBH sb d15 d17 d18 d19 d20
    generalize b.r.getD 1 0 = rr at *
    generalize rr - rr % 2 = re at *
    obtain ⟨em, m0, m1⟩ := MI.out (re) (by omega)
    have m2 : (re) % b.chr ≤ 512 := by omega
    have EQ : Hid ((re) % b.chr = v) := (congrArg (· % b.chr) (show re = re + 0 by omega)).trans (HB.out.symm.trans HV.out)
    generalize (re) % b.chr = fin at *
    clear MI HV HB m1
    go_wp2
    go_ret
    exact ⟨fin64 EQ.out, hb1⟩
  · have HB : Hid (chrB b 3 = (b.r.getD 1 0 - b.r.getD 1 0 % 2 + 1) % b.chr) := by unfold Hid; rw [SBH.out]; simp [sb]
    rw [sb] at e128
    clear SBH sb d15 d17 d18 d19 d20
    generalize b.r.getD 1 0 = rr at *
    generalize rr - rr % 2 = re at *
    obtain ⟨em, m0, m1⟩ := MI.out (re + 3 - 2) (by omega)
    have m2 : (re + 3 - 2) % b.chr ≤ 512 := by omega
    have EQ : Hid ((re + 3 - 2) % b.chr = v) := (congrArg (· % b.chr) (show re + 3 - 2 = re + 1 by omega)).trans (HB.out.symm.trans HV.out)
    generalize (re + 3 - 2) % b.chr = fin at *
    clear MI HV HB m1
    go_wp2
    go_ret
    exact ⟨fin64 EQ.out, hb1⟩
  · have HB : Hid (chrB b 4 = (b.r.getD 2 0) % b.chr) := by unfold Hid; rw [SBH.out]; simp [sb]
    rw [sb] at e128
    clear SBH sb d15 d16 d18 d19 d20
    generalize b.r.getD 2 0 = rr at *
    skip
    obtain ⟨em, m0, m1⟩ := MI.out (rr) (by omega)
    have m2 : (rr) % b.chr ≤ 512 := by omega
    have EQ : Hid ((rr) % b.chr = v) := (congrArg (· % b.chr) (show rr = rr by omega)).trans (HB.out.symm.trans HV.out)
    generalize (rr) % b.chr = fin at *
    clear MI HV HB m1
    go_wp2
    go_ret
    exact ⟨fin64 EQ.out, hb1⟩
  · have HB : Hid (chrB b 5 = (b.r.getD 3 0) % b.chr) := by unfold Hid; rw [SBH.out]; simp [sb]
    rw [sb] at e128
    clear SBH sb d15 d16 d17 d19 d20
    generalize b.r.getD 3 0 = rr at *
    skip
    obtain ⟨em, m0, m1⟩ := MI.out (rr) (by omega)
    have m2 : (rr) % b.chr ≤ 512 := by omega
    have EQ : Hid ((rr) % b.chr = v) := (congrArg (· % b.chr) (show rr = rr by omega)).trans (HB.out.symm.trans HV.out)
    generalize (rr) % b.chr = fin at *
    clear MI HV HB m1
    go_wp2
    go_ret
    exact ⟨fin64 EQ.out, hb1⟩
  · have HB : Hid (chrB b 6 = (b.r.getD 4 0) % b.chr) := by unfold Hid; rw [SBH.out]; simp [sb]
    rw [sb] at e128
    clear SBH sb d15 d16 d17 d18 d20
    generalize b.r.getD 4 0 = rr at *
    skip
    obtain ⟨em, m0, m1⟩ := MI.out (rr) (by omega)
    have m2 : (rr) % b.chr ≤ 512 := by omega
    have EQ : Hid ((rr) % b.chr = v) := (congrArg (· % b.chr) (show rr = rr by omega)).trans (HB.out.symm.trans HV.out)
    generalize (rr) % b.chr = fin at *
    clear MI HV HB m1
    go_wp2
    go_ret
    exact ⟨fin64 EQ.out, hb1⟩
  · have HB : Hid (chrB b 7 = (b.r.getD 5 0) % b.chr) := by unfold Hid; rw [SBH.out]; simp [sb]
    rw [sb] at e128
    clear SBH sb d15 d16 d17 d18 d19
    generalize b.r.getD 5 0 = rr at *
    skip
    obtain ⟨em, m0, m1⟩ := MI.out (rr) (by omega)
    have m2 : (rr) % b.chr ≤ 512 := by omega
    have EQ : Hid ((rr) % b.chr = v) := (congrArg (· % b.chr) (show rr = rr by omega)).trans (HB.out.symm.trans HV.out)
    generalize (rr) % b.chr = fin at *
    clear MI HV HB m1
    go_wp2
    go_ret
    exact ⟨fin64 EQ.out, hb1⟩
  · have HB : Hid (chrB b 0 = (b.r.getD 2 0) % b.chr) := by unfold Hid; rw [SBH.out]; simp [sb]
    rw [sb] at e128
    clear SBH sb d15 d16 d18 d19 d20
    generalize b.r.getD 2 0 = rr at *
    skip
    obtain ⟨em, m0, m1⟩ := MI.out (rr) (by omega)
    have m2 : (rr) % b.chr ≤ 512 := by omega
    have EQ : Hid ((rr) % b.chr = v) := (congrArg (· % b.chr) (show rr = rr by omega)).trans (HB.out.symm.trans HV.out)
    generalize (rr) % b.chr = fin at *
    clear MI HV HB m1
    go_wp2
    go_ret
    exact ⟨fin64 EQ.out, hb1⟩
  · have HB : Hid (chrB b 1 = (b.r.getD 3 0) % b.chr) := by unfold Hid; rw [SBH.out]; simp [sb]
    rw [sb] at e128
    clear SBH sb d15 d16 d17 d19 d20
    generalize b.r.getD 3 0 = rr at *
    skip
    obtain ⟨em, m0, m1⟩ := MI.out (rr) (by omega)
    have m2 : (rr) % b.chr ≤ 512 := by omega
    have EQ : Hid ((rr) % b.chr = v) := (congrArg (· % b.chr) (show rr = rr by omega)).trans (HB.out.symm.trans HV.out)
    generalize (rr) % b.chr = fin at *
    clear MI HV HB m1
    go_wp2
    go_ret
    exact ⟨fin64 EQ.out, hb1⟩
  · have HB : Hid (chrB b 2 = (b.r.getD 4 0) % b.chr) := by unfold Hid; rw [SBH.out]; simp [sb]
    rw [sb] at e128
    clear SBH sb d15 d16 d17 d18 d20
    generalize b.r.getD 4 0 = rr at *
    skip
    obtain ⟨em, m0, m1⟩ := MI.out (rr) (by omega)
    have m2 : (rr) % b.chr ≤ 512 := by omega
    have EQ : Hid ((rr) % b.chr = v) := (congrArg (· % b.chr) (show rr = rr by omega)).trans (HB.out.symm.trans HV.out)
    generalize (rr) % b.chr = fin at *
    clear MI HV HB m1
    go_wp2
    go_ret
    exact ⟨fin64 EQ.out, hb1⟩
  · have HB : Hid (chrB b 3 = (b.r.getD 5 0) % b.chr) := by unfold Hid; rw [SBH.out]; simp [sb]
    rw [sb] at e128
    clear SBH sb d15 d16 d17 d18 d19
    generalize b.r.getD 5 0 = rr at *
    skip
    obtain ⟨em, m0, m1⟩ := MI.out (rr) (by omega)
    have m2 : (rr) % b.chr ≤ 512 := by omega
    have EQ : Hid ((rr) % b.chr = v) := (congrArg (· % b.chr) (show rr = rr by omega)).trans (HB.out.symm.trans HV.out)
    generalize (rr) % b.chr = fin at *
    clear MI HV HB m1
    go_wp2
    go_ret
    exact ⟨fin64 EQ.out, hb1⟩
  · have HB : Hid (chrB b 4 = (b.r.getD 0 0 - b.r.getD 0 0 % 2 + 0) % b.chr) := by unfold Hid; rw [SBH.out]; simp [sb]
    rw [sb] at e128
    clear SBH sb d16 d17 d18 d19 d20
    generalize b.r.getD 0 0 = rr at *
    generalize rr - rr % 2 = re at *
    obtain ⟨em, m0, m1⟩ := MI.out (re) (by omega)
    have m2 : (re) % b.chr ≤ 512 := by omega
    have EQ : Hid ((re) % b.chr = v) := (congrArg (· % b.chr) (show re = re + 0 by omega)).trans (HB.out.symm.trans HV.out)
    generalize (re) % b.chr = fin at *
    clear MI HV HB m1
    go_wp2
    go_ret
    exact ⟨fin64 EQ.out, hb1⟩
  · have HB : Hid (chrB b 5 = (b.r.getD 0 0 - b.r.getD 0 0 % 2 + 1) % b.chr) := by unfold Hid; rw [SBH.out]; simp [sb]
    rw [sb] at e128
    clear SBH sb d16 d17 d18 d19 d20
    generalize b.r.getD 0 0 = rr at *
    generalize rr - rr % 2 = re at *
    obtain ⟨em, m0, m1⟩ := MI.out (re + 1) (by omega)
    have m2 : (re + 1) % b.chr ≤ 512 := by omega
    have EQ : Hid ((re + 1) % b.chr = v) := (congrArg (· % b.chr) (show re + 1 = re + 1 by omega)).trans (HB.out.symm.trans HV.out)
    generalize (re + 1) % b.chr = fin at *
    clear MI HV HB m1
    go_wp2
    go_ret
    exact ⟨fin64 EQ.out, hb1⟩
  · have HB : Hid (chrB b 6 = (b.r.getD 1 0 - b.r.getD 1 0 % 2 + 0) % b.chr) := by unfold Hid; rw [SBH.out]; simp [sb]
    rw [sb] at e128
    clear SBH sb d15 d17 d18 d19 d20
    generalize b.r.getD 1 0 = rr at *
    generalize rr - rr % 2 = re at *
    obtain ⟨em, m0, m1⟩ := MI.out (re) (by omega)
    have m2 : (re) % b.chr ≤ 512 := by omega
    have EQ : Hid ((re) % b.chr = v) := (congrArg (· % b.chr) (show re = re + 0 by omega)).trans (HB.out.symm.trans HV.out)
    generalize (re) % b.chr = fin at *
    clear MI HV HB m1
    go_wp2
    go_ret
    exact ⟨fin64 EQ.out, hb1⟩
  · have HB : Hid (chrB b 7 = (b.r.getD 1 0 - b.r.getD 1 0 % 2 + 1) % b.chr) := by unfold Hid; rw [SBH.out]; simp [sb]
    rw [sb] at e128
    clear SBH sb d15 d17 d18 d19 d20
    generalize b.r.getD 1 0 = rr at *
    generalize rr - rr % 2 = re at *
    obtain ⟨em, m0, m1⟩ := MI.out (re + 3 - 2) (by omega)
    have m2 : (re + 3 - 2) % b.chr ≤ 512 := by omega
    have EQ : Hid ((re + 3 - 2) % b.chr = v) := (congrArg (· % b.chr) (show re + 3 - 2 = re + 1 by omega)).trans (HB.out.symm.trans HV.out)
    generalize (re + 3 - 2) % b.chr = fin at *
    clear MI HV HB m1
    go_wp2
    go_ret
    exact ⟨fin64 EQ.out, hb1⟩
end Go.Proofs.Ytggphgmpdanliaa
