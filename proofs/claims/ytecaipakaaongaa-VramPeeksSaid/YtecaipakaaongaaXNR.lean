/-
  What the document's serial answers.
  What Bank and ChrBank answer of every board.
  What the document's ChrBank answers of an MMC3.
  What the document's ChrBank answers of every board.
  What the document's PrgAt and ChrAt answer of every board.
-/
import Derived.Test.YtecaipakaaongaaXNK
import Derived.Test.YtecaipakaaongaaXNP
set_option linter.unusedSimpArgs false
set_option linter.unusedVariables false
namespace Go.Proofs.Ytecaipakaaongaa
open Go.RowKit Classical
theorem fin64 {x y : Int} (h : x = y) : Ending.returned (Value.int .i64 x) = Ending.returned (Value.int .i64 y) := by rw [h]
theorem fin8 {x y : Int} (h : x = y) : Ending.returned (Value.int .u8 x) = Ending.returned (Value.int .u8 y) := by rw [h]
theorem and30N : ∀ k : Nat, k < 32 → bits .and .u8 (k : Int) 30 = (k : Int) - (k : Int) % 2 := by decide +kernel
theorem and30 {x : Int} (h0 : 0 ≤ x) (h1 : x ≤ 31) : bits .and .u8 x 30 = x - x % 2 := by
  have := and30N x.toNat (by omega)
  rwa [show ((x.toNat : Nat) : Int) = x by omega] at this
end Go.Proofs.Ytecaipakaaongaa
namespace Go.Proofs.Ytecaipakaaongaa
open Go.RowKit Classical
/-- What chrBank answers of any board, at any number. -/
def chrBA (b : Bd) (x : Int) : Int := if validB b = true ∧ 0 ≤ x ∧ x ≤ 7 then chrB b x else -1
end Go.Proofs.Ytecaipakaaongaa
namespace Go.Proofs.Ytecaipakaaongaa
open Go.RowKit Classical
set_option maxRecDepth 100000 in
set_option maxHeartbeats 1000000 in
theorem rchr_4 (w : World) (b : Bd) (x : Int) (n0 : 0 ≤ x) (n1 : x ≤ 7) (o : b.Ok) (hk : b.kind = 4) :
    Calls Try.prog 54 #[.agg b.cells, .int .i64 x] w fun e w' => e = .returned (.int .i64 (chrB b x)) ∧ Below w.heap.size w w' := by
  have e128 := bit128 o.wf.sel.1 o.wf.sel.2
  have sb : b.sel / 128 % 2 = 0 ∨ b.sel / 128 % 2 = 1 := by omega
  have hx : x = 0 ∨ x = 1 ∨ x = 2 ∨ x = 3 ∨ x = 4 ∨ x = 5 ∨ x = 6 ∨ x = 7 := by omega
  have SX : Hid _ := sb
  have XH : Hid _ := hx
  clear sb hx n0 n1
  have p0 := o.c0
  have p1 := o.c1
  have pz : ¬ b.chr = 0 := by omega
  obtain ⟨ga0, gb0⟩ := o.wf.rget 0
  obtain ⟨ga1, gb1⟩ := o.wf.rget 1
  obtain ⟨ga2, gb2⟩ := o.wf.rget 2
  obtain ⟨ga3, gb3⟩ := o.wf.rget 3
  obtain ⟨ga4, gb4⟩ := o.wf.rget 4
  obtain ⟨ga5, gb5⟩ := o.wf.rget 5
  have v0 := and254 ga0 gb0
  have v1 := and254 ga1 gb1
  have h00 : 0 ≤ b.r.getD 0 0 - b.r.getD 0 0 % 2 := by omega
  have h01 : b.r.getD 0 0 - b.r.getD 0 0 % 2 ≤ 254 := by omega
  have h10 : 0 ≤ b.r.getD 1 0 - b.r.getD 1 0 % 2 := by omega
  have h11 : b.r.getD 1 0 - b.r.getD 1 0 % 2 ≤ 254 := by omega
  have SBH : Hid (chrB b x = (let t := if b.sel / 128 % 2 = 1 then (x + 4) % 8 else x
     if t < 2 then b.r.getD 0 0 - b.r.getD 0 0 % 2 + t else if t < 4 then b.r.getD 1 0 - b.r.getD 1 0 % 2 + (t - 2) else b.r.getD (t - 2).toNat 0) % b.chr) := by unfold Hid; simp [chrB, chrN, hk]
  have MI : Hid _ := fun (n : Int) (h : 0 ≤ n) => mod_in n b.chr h (by omega)
  obtain ⟨v, hv⟩ : ∃ v, chrB b x = v := ⟨_, rfl⟩
  rw [hv]
  have HV : Hid _ := hv
  clear hv
  have C := isB b o.wf.rlen
  have VA : ∀ W, Calls Try.prog 26 #[.agg b.cells] W fun e w' => e = .returned (.bool true) ∧ Below W.heap.size W w' := fun W => o.val ▸ refValid_any W b o.wf
  generalize b.cells = cs at *
  have HS : Hid _ := C.size
  have HVA : Hid _ := VA
  clear o VA
  go_enter Try.func54, Try.ntmps54
  go_upto_region 1 with fail
  have b0 : Blk (w.alloc (.cells cs 37)) w.heap.size cs 37 := Blk.new w cs _
  have hb0 : Below w.heap.size w (w.alloc (.cells cs 37)) := (Below.refl _ _).alloc (Nat.le_refl _) _
  generalize w.alloc (.cells cs 37) = W0 at *
  go_wp2_with (refine wpList_load_mid rfl 37 _ rfl w.heap.size 0 rfl cs.toList _ b0.range Try.underlying37 rfl (by rw [Array.length_toList, HS.out]; exact Try.infoBoard) ?_)
  refine (HVA.out W0).mono ?_
  rintro e W1 ⟨rfl, hb1'⟩
  have hb1 : Below w.heap.size w W1 := hb0.trans (hb1'.mono hb0.size)
  have b1 := b0.below b0.lt hb1'
  have d0 := (b1.cell 0).trans C.h0
  have d5 := (b1.cell 5).trans C.h5
  have d14 := (b1.cell 14).trans C.h14
  have d15 : _ = some (Value.int .u8 (b.r.getD 0 0)) := (b1.cell 15).trans (C.r 0 (by decide))
  have d16 : _ = some (Value.int .u8 (b.r.getD 1 0)) := (b1.cell 16).trans (C.r 1 (by decide))
  have d17 : _ = some (Value.int .u8 (b.r.getD 2 0)) := (b1.cell 17).trans (C.r 2 (by decide))
  have d18 : _ = some (Value.int .u8 (b.r.getD 3 0)) := (b1.cell 18).trans (C.r 3 (by decide))
  have d19 : _ = some (Value.int .u8 (b.r.getD 4 0)) := (b1.cell 19).trans (C.r 4 (by decide))
  have d20 : _ = some (Value.int .u8 (b.r.getD 5 0)) := (b1.cell 20).trans (C.r 5 (by decide))
  clear C b0 hb0 hb1' HVA
  rw [hk] at d0
  have sb := SX.out
  have hx := XH.out
  clear SX XH
  rcases sb with sb | sb <;> rcases hx with rfl | rfl | rfl | rfl | rfl | rfl | rfl | rfl
  · have HB : Hid (chrB b 0 = (b.r.getD 0 0 - b.r.getD 0 0 % 2 + 0) % b.chr) := by unfold Hid; rw [SBH.out]; simp [sb]
    rw [sb] at e128
    clear SBH sb d16 d17 d18 d19 d20
    generalize b.r.getD 0 0 = rr at *
    generalize rr - rr % 2 = re at *
    obtain ⟨em, m0, m1⟩ := MI.out (re) (by omega)
    have m2 : (re) % b.chr ≤ 512 := by omega
    have EQ : Hid ((re) % b.chr = v) := (congrArg (· % b.chr) (show re = re + 0 by omega)).trans (HB.out.symm.trans HV.out)
    generalize (re) % b.chr = fin at *
    clear MI HV HB m1
    go_wp2
    go_ret
    exact ⟨fin64 EQ.out, hb1⟩
  · have HB : Hid (chrB b 1 = (b.r.getD 0 0 - b.r.getD 0 0 % 2 + 1) % b.chr) := by unfold Hid; rw [SBH.out]; simp [sb]
    rw [sb] at e128
    clear SBH sb d16 d17 d18 d19 d20
    generalize b.r.getD 0 0 = rr at *
    generalize rr - rr % 2 = re at *
    obtain ⟨em, m0, m1⟩ := MI.out (re + 1) (by omega)
    have m2 : (re + 1) % b.chr ≤ 512 := by omega
    have EQ : Hid ((re + 1) % b.chr = v) := (congrArg (· % b.chr) (show re + 1 = re + 1 by omega)).trans (HB.out.symm.trans HV.out)
    generalize (re + 1) % b.chr = fin at *
    clear MI HV HB m1
    go_wp2
    go_ret
    exact ⟨fin64 EQ.out, hb1⟩
  · have HB : Hid (chrB b 2 = (b.r.getD 1 0 - b.r.getD 1 0 % 2 + 0) % b.chr) := by unfold Hid; rw [SBH.out]; simp [sb]
    rw [sb] at e128
    clear SBH sb d15 d17 d18 d19 d20
    generalize b.r.getD 1 0 = rr at *
    generalize rr - rr % 2 = re at *
    obtain ⟨em, m0, m1⟩ := MI.out (re) (by omega)
    have m2 : (re) % b.chr ≤ 512 := by omega
    have EQ : Hid ((re) % b.chr = v) := (congrArg (· % b.chr) (show re = re + 0 by omega)).trans (HB.out.symm.trans HV.out)
    generalize (re) % b.chr = fin at *
    clear MI HV HB m1
    go_wp2
    go_ret
    exact ⟨fin64 EQ.out, hb1⟩
  · have HB : Hid (chrB b 3 = (b.r.getD 1 0 - b.r.getD 1 0 % 2 + 1) % b.chr) := by unfold Hid; rw [SBH.out]; simp [sb]
    rw [sb] at e128
    clear SBH sb d15 d17 d18 d19 d20
    generalize b.r.getD 1 0 = rr at *
    generalize rr - rr % 2 = re at *
    obtain ⟨em, m0, m1⟩ := MI.out (re + 3 - 2) (by omega)
    have m2 : (re + 3 - 2) % b.chr ≤ 512 := by omega
    have EQ : Hid ((re + 3 - 2) % b.chr = v) := (congrArg (· % b.chr) (show re + 3 - 2 = re + 1 by omega)).trans (HB.out.symm.trans HV.out)
    generalize (re + 3 - 2) % b.chr = fin at *
    clear MI HV HB m1
    go_wp2
    go_ret
    exact ⟨fin64 EQ.out, hb1⟩
  · have HB : Hid (chrB b 4 = (b.r.getD 2 0) % b.chr) := by unfold Hid; rw [SBH.out]; simp [sb]
    rw [sb] at e128
    clear SBH sb d15 d16 d18 d19 d20
    generalize b.r.getD 2 0 = rr at *
    skip
    obtain ⟨em, m0, m1⟩ := MI.out (rr) (by omega)
    have m2 : (rr) % b.chr ≤ 512 := by omega
    have EQ : Hid ((rr) % b.chr = v) := (congrArg (· % b.chr) (show rr = rr by omega)).trans (HB.out.symm.trans HV.out)
    generalize (rr) % b.chr = fin at *
    clear MI HV HB m1
    go_wp2
    go_ret
    exact ⟨fin64 EQ.out, hb1⟩
  · have HB : Hid (chrB b 5 = (b.r.getD 3 0) % b.chr) := by unfold Hid; rw [SBH.out]; simp [sb]
    rw [sb] at e128
    clear SBH sb d15 d16 d17 d19 d20
    generalize b.r.getD 3 0 = rr at *
    skip
    obtain ⟨em, m0, m1⟩ := MI.out (rr) (by omega)
    have m2 : (rr) % b.chr ≤ 512 := by omega
    have EQ : Hid ((rr) % b.chr = v) := (congrArg (· % b.chr) (show rr = rr by omega)).trans (HB.out.symm.trans HV.out)
    generalize (rr) % b.chr = fin at *
    clear MI HV HB m1
    go_wp2
    go_ret
    exact ⟨fin64 EQ.out, hb1⟩
  · have HB : Hid (chrB b 6 = (b.r.getD 4 0) % b.chr) := by unfold Hid; rw [SBH.out]; simp [sb]
    rw [sb] at e128
    clear SBH sb d15 d16 d17 d18 d20
    generalize b.r.getD 4 0 = rr at *
    skip
    obtain ⟨em, m0, m1⟩ := MI.out (rr) (by omega)
    have m2 : (rr) % b.chr ≤ 512 := by omega
    have EQ : Hid ((rr) % b.chr = v) := (congrArg (· % b.chr) (show rr = rr by omega)).trans (HB.out.symm.trans HV.out)
    generalize (rr) % b.chr = fin at *
    clear MI HV HB m1
    go_wp2
    go_ret
    exact ⟨fin64 EQ.out, hb1⟩
  · have HB : Hid (chrB b 7 = (b.r.getD 5 0) % b.chr) := by unfold Hid; rw [SBH.out]; simp [sb]
    rw [sb] at e128
    clear SBH sb d15 d16 d17 d18 d19
    generalize b.r.getD 5 0 = rr at *
    skip
    obtain ⟨em, m0, m1⟩ := MI.out (rr) (by omega)
    have m2 : (rr) % b.chr ≤ 512 := by omega
    have EQ : Hid ((rr) % b.chr = v) := (congrArg (· % b.chr) (show rr = rr by omega)).trans (HB.out.symm.trans HV.out)
    generalize (rr) % b.chr = fin at *
    clear MI HV HB m1
    go_wp2
    go_ret
    exact ⟨fin64 EQ.out, hb1⟩
  · have HB : Hid (chrB b 0 = (b.r.getD 2 0) % b.chr) := by unfold Hid; rw [SBH.out]; simp [sb]
    rw [sb] at e128
    clear SBH sb d15 d16 d18 d19 d20
    generalize b.r.getD 2 0 = rr at *
    skip
    obtain ⟨em, m0, m1⟩ := MI.out (rr) (by omega)
    have m2 : (rr) % b.chr ≤ 512 := by omega
    have EQ : Hid ((rr) % b.chr = v) := (congrArg (· % b.chr) (show rr = rr by omega)).trans (HB.out.symm.trans HV.out)
    generalize (rr) % b.chr = fin at *
    clear MI HV HB m1
    go_wp2
    go_ret
    exact ⟨fin64 EQ.out, hb1⟩
  · have HB : Hid (chrB b 1 = (b.r.getD 3 0) % b.chr) := by unfold Hid; rw [SBH.out]; simp [sb]
    rw [sb] at e128
    clear SBH sb d15 d16 d17 d19 d20
    generalize b.r.getD 3 0 = rr at *
    skip
    obtain ⟨em, m0, m1⟩ := MI.out (rr) (by omega)
    have m2 : (rr) % b.chr ≤ 512 := by omega
    have EQ : Hid ((rr) % b.chr = v) := (congrArg (· % b.chr) (show rr = rr by omega)).trans (HB.out.symm.trans HV.out)
    generalize (rr) % b.chr = fin at *
    clear MI HV HB m1
    go_wp2
    go_ret
    exact ⟨fin64 EQ.out, hb1⟩
  · have HB : Hid (chrB b 2 = (b.r.getD 4 0) % b.chr) := by unfold Hid; rw [SBH.out]; simp [sb]
    rw [sb] at e128
    clear SBH sb d15 d16 d17 d18 d20
    generalize b.r.getD 4 0 = rr at *
    skip
    obtain ⟨em, m0, m1⟩ := MI.out (rr) (by omega)
    have m2 : (rr) % b.chr ≤ 512 := by omega
    have EQ : Hid ((rr) % b.chr = v) := (congrArg (· % b.chr) (show rr = rr by omega)).trans (HB.out.symm.trans HV.out)
    generalize (rr) % b.chr = fin at *
    clear MI HV HB m1
    go_wp2
    go_ret
    exact ⟨fin64 EQ.out, hb1⟩
  · have HB : Hid (chrB b 3 = (b.r.getD 5 0) % b.chr) := by unfold Hid; rw [SBH.out]; simp [sb]
    rw [sb] at e128
    clear SBH sb d15 d16 d17 d18 d19
    generalize b.r.getD 5 0 = rr at *
    skip
    obtain ⟨em, m0, m1⟩ := MI.out (rr) (by omega)
    have m2 : (rr) % b.chr ≤ 512 := by omega
    have EQ : Hid ((rr) % b.chr = v) := (congrArg (· % b.chr) (show rr = rr by omega)).trans (HB.out.symm.trans HV.out)
    generalize (rr) % b.chr = fin at *
    clear MI HV HB m1
    go_wp2
    go_ret
    exact ⟨fin64 EQ.out, hb1⟩
  · have HB : Hid (chrB b 4 = (b.r.getD 0 0 - b.r.getD 0 0 % 2 + 0) % b.chr) := by unfold Hid; rw [SBH.out]; simp [sb]
    rw [sb] at e128
    clear SBH sb d16 d17 d18 d19 d20
    generalize b.r.getD 0 0 = rr at *
    generalize rr - rr % 2 = re at *
    obtain ⟨em, m0, m1⟩ := MI.out (re) (by omega)
    have m2 : (re) % b.chr ≤ 512 := by omega
    have EQ : Hid ((re) % b.chr = v) := (congrArg (· % b.chr) (show re = re + 0 by omega)).trans (HB.out.symm.trans HV.out)
    generalize (re) % b.chr = fin at *
    clear MI HV HB m1
    go_wp2
    go_ret
    exact ⟨fin64 EQ.out, hb1⟩
  · have HB : Hid (chrB b 5 = (b.r.getD 0 0 - b.r.getD 0 0 % 2 + 1) % b.chr) := by unfold Hid; rw [SBH.out]; simp [sb]
    rw [sb] at e128
    clear SBH sb d16 d17 d18 d19 d20
    generalize b.r.getD 0 0 = rr at *
    generalize rr - rr % 2 = re at *
    obtain ⟨em, m0, m1⟩ := MI.out (re + 1) (by omega)
    have m2 : (re + 1) % b.chr ≤ 512 := by omega
    have EQ : Hid ((re + 1) % b.chr = v) := (congrArg (· % b.chr) (show re + 1 = re + 1 by omega)).trans (HB.out.symm.trans HV.out)
    generalize (re + 1) % b.chr = fin at *
    clear MI HV HB m1
    go_wp2
    go_ret
    exact ⟨fin64 EQ.out, hb1⟩
  · have HB : Hid (chrB b 6 = (b.r.getD 1 0 - b.r.getD 1 0 % 2 + 0) % b.chr) := by unfold Hid; rw [SBH.out]; simp [sb]
    rw [sb] at e128
    clear SBH sb d15 d17 d18 d19 d20
    generalize b.r.getD 1 0 = rr at *
    generalize rr - rr % 2 = re at *
    obtain ⟨em, m0, m1⟩ := MI.out (re) (by omega)
    have m2 : (re) % b.chr ≤ 512 := by omega
    have EQ : Hid ((re) % b.chr = v) := (congrArg (· % b.chr) (show re = re + 0 by omega)).trans (HB.out.symm.trans HV.out)
    generalize (re) % b.chr = fin at *
    clear MI HV HB m1
    go_wp2
    go_ret
    exact ⟨fin64 EQ.out, hb1⟩
  · have HB : Hid (chrB b 7 = (b.r.getD 1 0 - b.r.getD 1 0 % 2 + 1) % b.chr) := by unfold Hid; rw [SBH.out]; simp [sb]
    rw [sb] at e128
    clear SBH sb d15 d17 d18 d19 d20
    generalize b.r.getD 1 0 = rr at *
    generalize rr - rr % 2 = re at *
    obtain ⟨em, m0, m1⟩ := MI.out (re + 3 - 2) (by omega)
    have m2 : (re + 3 - 2) % b.chr ≤ 512 := by omega
    have EQ : Hid ((re + 3 - 2) % b.chr = v) := (congrArg (· % b.chr) (show re + 3 - 2 = re + 1 by omega)).trans (HB.out.symm.trans HV.out)
    generalize (re + 3 - 2) % b.chr = fin at *
    clear MI HV HB m1
    go_wp2
    go_ret
    exact ⟨fin64 EQ.out, hb1⟩
end Go.Proofs.Ytecaipakaaongaa
namespace Go.Proofs.Ytecaipakaaongaa
open Go.RowKit Classical
set_option maxRecDepth 100000 in
set_option maxHeartbeats 1000000 in
theorem rchr_none (w : World) (b : Bd) (x : Int) (B : b.Wf) (hv : validB b = false) :
    Calls Try.prog 54 #[.agg b.cells, .int .i64 x] w fun e w' => e = .returned (.int .i64 (-1)) ∧ Below w.heap.size w w' := by
  have C := isB b B.rlen
  have VA : ∀ W, Calls Try.prog 26 #[.agg b.cells] W fun e w' => e = .returned (.bool false) ∧ Below W.heap.size W w' := fun W => hv ▸ refValid_any W b B
  generalize b.cells = cs at *
  have HS : Hid _ := C.size
  have HVA : Hid _ := VA
  clear VA C hv
  go_enter Try.func54, Try.ntmps54
  go_upto_region 1 with fail
  have b0 : Blk (w.alloc (.cells cs 37)) w.heap.size cs 37 := Blk.new w cs _
  have hb0 : Below w.heap.size w (w.alloc (.cells cs 37)) := (Below.refl _ _).alloc (Nat.le_refl _) _
  generalize w.alloc (.cells cs 37) = W0 at *
  go_wp2_with (refine wpList_load_mid rfl 37 _ rfl w.heap.size 0 rfl cs.toList _ b0.range Try.underlying37 rfl (by rw [Array.length_toList, HS.out]; exact Try.infoBoard) ?_)
  refine (HVA.out W0).mono ?_
  rintro e W1 ⟨rfl, hb1'⟩
  have hb1 : Below w.heap.size w W1 := hb0.trans (hb1'.mono hb0.size)
  clear b0 hb0 hb1' HVA
  go_wp2
  go_ret
  exact ⟨rfl, hb1⟩
set_option maxRecDepth 100000 in
set_option maxHeartbeats 1000000 in
theorem rchr_low (w : World) (b : Bd) (x : Int) (hx : x < 0) (o : b.Ok) :
    Calls Try.prog 54 #[.agg b.cells, .int .i64 x] w fun e w' => e = .returned (.int .i64 (-1)) ∧ Below w.heap.size w w' := by
  have x0 : decide (x < 0) = true := decide_eq_true hx
  clear hx
  have C := isB b o.wf.rlen
  have VA : ∀ W, Calls Try.prog 26 #[.agg b.cells] W fun e w' => e = .returned (.bool true) ∧ Below W.heap.size W w' := fun W => o.val ▸ refValid_any W b o.wf
  generalize b.cells = cs at *
  have HS : Hid _ := C.size
  have HVA : Hid _ := VA
  clear o VA
  go_enter Try.func54, Try.ntmps54
  go_upto_region 1 with fail
  have b0 : Blk (w.alloc (.cells cs 37)) w.heap.size cs 37 := Blk.new w cs _
  have hb0 : Below w.heap.size w (w.alloc (.cells cs 37)) := (Below.refl _ _).alloc (Nat.le_refl _) _
  generalize w.alloc (.cells cs 37) = W0 at *
  go_wp2_with (refine wpList_load_mid rfl 37 _ rfl w.heap.size 0 rfl cs.toList _ b0.range Try.underlying37 rfl (by rw [Array.length_toList, HS.out]; exact Try.infoBoard) ?_)
  refine (HVA.out W0).mono ?_
  rintro e W1 ⟨rfl, hb1'⟩
  have hb1 : Below w.heap.size w W1 := hb0.trans (hb1'.mono hb0.size)
  have b1 := b0.below b0.lt hb1'
  clear C b0 hb0 hb1' HVA
  go_wp2
  go_ret
  exact ⟨rfl, hb1⟩
set_option maxRecDepth 100000 in
set_option maxHeartbeats 1000000 in
theorem rchr_high (w : World) (b : Bd) (x : Int) (hx : 7 < x) (o : b.Ok) :
    Calls Try.prog 54 #[.agg b.cells, .int .i64 x] w fun e w' => e = .returned (.int .i64 (-1)) ∧ Below w.heap.size w w' := by
  have x0 : decide (x < 0) = false := decide_eq_false (by omega)
  have x1 : decide (7 < x) = true := decide_eq_true hx
  clear hx
  have C := isB b o.wf.rlen
  have VA : ∀ W, Calls Try.prog 26 #[.agg b.cells] W fun e w' => e = .returned (.bool true) ∧ Below W.heap.size W w' := fun W => o.val ▸ refValid_any W b o.wf
  generalize b.cells = cs at *
  have HS : Hid _ := C.size
  have HVA : Hid _ := VA
  clear o VA
  go_enter Try.func54, Try.ntmps54
  go_upto_region 1 with fail
  have b0 : Blk (w.alloc (.cells cs 37)) w.heap.size cs 37 := Blk.new w cs _
  have hb0 : Below w.heap.size w (w.alloc (.cells cs 37)) := (Below.refl _ _).alloc (Nat.le_refl _) _
  generalize w.alloc (.cells cs 37) = W0 at *
  go_wp2_with (refine wpList_load_mid rfl 37 _ rfl w.heap.size 0 rfl cs.toList _ b0.range Try.underlying37 rfl (by rw [Array.length_toList, HS.out]; exact Try.infoBoard) ?_)
  refine (HVA.out W0).mono ?_
  rintro e W1 ⟨rfl, hb1'⟩
  have hb1 : Below w.heap.size w W1 := hb0.trans (hb1'.mono hb0.size)
  have b1 := b0.below b0.lt hb1'
  clear C b0 hb0 hb1' HVA
  go_wp2
  go_ret
  exact ⟨rfl, hb1⟩
set_option maxRecDepth 100000 in
set_option maxHeartbeats 1000000 in
theorem rchr_0 (w : World) (b : Bd) (x : Int) (n0 : 0 ≤ x) (n1 : x ≤ 7) (o : b.Ok) (hk : b.kind = 0 ∨ b.kind = 2 ∨ b.kind = 7) :
    Calls Try.prog 54 #[.agg b.cells, .int .i64 x] w fun e w' => e = .returned (.int .i64 (chrB b x)) ∧ Below w.heap.size w w' := by
  have x0 : decide (x < 0) = false := decide_eq_false (by omega)
  have x1 : decide (7 < x) = false := decide_eq_false (by omega)
  have p0 := o.c0
  have p1 := o.c1
  have pz : ¬ b.chr = 0 := by omega
  have E : chrB b x = x % b.chr := by rcases hk with hk | hk | hk <;> simp [chrB, chrN, hk]
  rw [E]
  clear E
  have M := mod_in (x) b.chr (n0) (by omega)
  obtain ⟨em, m0, m1⟩ := M
  have m2 : (x) % b.chr ≤ 512 := by omega
  generalize (x) % b.chr = rr at *
  clear p0 p1 m1
  have C := isB b o.wf.rlen
  have VA : ∀ W, Calls Try.prog 26 #[.agg b.cells] W fun e w' => e = .returned (.bool true) ∧ Below W.heap.size W w' := fun W => o.val ▸ refValid_any W b o.wf
  generalize b.cells = cs at *
  have HS : Hid _ := C.size
  have HVA : Hid _ := VA
  clear o VA
  go_enter Try.func54, Try.ntmps54
  go_upto_region 1 with fail
  have b0 : Blk (w.alloc (.cells cs 37)) w.heap.size cs 37 := Blk.new w cs _
  have hb0 : Below w.heap.size w (w.alloc (.cells cs 37)) := (Below.refl _ _).alloc (Nat.le_refl _) _
  generalize w.alloc (.cells cs 37) = W0 at *
  go_wp2_with (refine wpList_load_mid rfl 37 _ rfl w.heap.size 0 rfl cs.toList _ b0.range Try.underlying37 rfl (by rw [Array.length_toList, HS.out]; exact Try.infoBoard) ?_)
  refine (HVA.out W0).mono ?_
  rintro e W1 ⟨rfl, hb1'⟩
  have hb1 : Below w.heap.size w W1 := hb0.trans (hb1'.mono hb0.size)
  have b1 := b0.below b0.lt hb1'
  have d0 := (b1.cell 0).trans C.h0
  have d5 := (b1.cell 5).trans C.h5
  clear C b0 hb0 hb1' HVA
  rcases hk with hk | hk | hk
  all_goals
    rw [hk] at d0
    clear hk
    go_wp2
    go_ret
    exact ⟨rfl, hb1⟩
set_option maxRecDepth 100000 in
set_option maxHeartbeats 1000000 in
theorem rchr_3 (w : World) (b : Bd) (x : Int) (n0 : 0 ≤ x) (n1 : x ≤ 7) (o : b.Ok) (hk : b.kind = 3) :
    Calls Try.prog 54 #[.agg b.cells, .int .i64 x] w fun e w' => e = .returned (.int .i64 (chrB b x)) ∧ Below w.heap.size w w' := by
  have x0 : decide (x < 0) = false := decide_eq_false (by omega)
  have x1 : decide (7 < x) = false := decide_eq_false (by omega)
  have p0 := o.c0
  have p1 := o.c1
  have pz : ¬ b.chr = 0 := by omega
  have l0 := o.wf.latch.1
  have l1 := o.wf.latch.2
  have E : chrB b x = (8 * b.latch + x) % b.chr := by simp [chrB, chrN, hk]
  rw [E]
  clear E
  have M := mod_in (8 * b.latch + x) b.chr (by omega) (by omega)
  obtain ⟨em, m0, m1⟩ := M
  have m2 : (8 * b.latch + x) % b.chr ≤ 512 := by omega
  generalize (8 * b.latch + x) % b.chr = rr at *
  clear p0 p1 m1
  have C := isB b o.wf.rlen
  have VA : ∀ W, Calls Try.prog 26 #[.agg b.cells] W fun e w' => e = .returned (.bool true) ∧ Below W.heap.size W w' := fun W => o.val ▸ refValid_any W b o.wf
  generalize b.cells = cs at *
  have HS : Hid _ := C.size
  have HVA : Hid _ := VA
  clear o VA
  go_enter Try.func54, Try.ntmps54
  go_upto_region 1 with fail
  have b0 : Blk (w.alloc (.cells cs 37)) w.heap.size cs 37 := Blk.new w cs _
  have hb0 : Below w.heap.size w (w.alloc (.cells cs 37)) := (Below.refl _ _).alloc (Nat.le_refl _) _
  generalize w.alloc (.cells cs 37) = W0 at *
  go_wp2_with (refine wpList_load_mid rfl 37 _ rfl w.heap.size 0 rfl cs.toList _ b0.range Try.underlying37 rfl (by rw [Array.length_toList, HS.out]; exact Try.infoBoard) ?_)
  refine (HVA.out W0).mono ?_
  rintro e W1 ⟨rfl, hb1'⟩
  have hb1 : Below w.heap.size w W1 := hb0.trans (hb1'.mono hb0.size)
  have b1 := b0.below b0.lt hb1'
  have d0 := (b1.cell 0).trans C.h0
  have d5 := (b1.cell 5).trans C.h5
  have d13 := (b1.cell 13).trans C.h13
  clear C b0 hb0 hb1' HVA
  rw [hk] at d0
  go_wp2
  go_ret
  exact ⟨rfl, hb1⟩
set_option maxRecDepth 100000 in
set_option maxHeartbeats 1000000 in
theorem rchr_1a (w : World) (b : Bd) (x : Int) (n0 : 0 ≤ x) (n1 : x ≤ 7) (o : b.Ok) (hk : b.kind = 1) (hc : b.ctrl / 16 % 2 = 0) :
    Calls Try.prog 54 #[.agg b.cells, .int .i64 x] w fun e w' => e = .returned (.int .i64 (chrB b x)) ∧ Below w.heap.size w w' := by
  have x0 : decide (x < 0) = false := decide_eq_false (by omega)
  have x1 : decide (7 < x) = false := decide_eq_false (by omega)
  have p0 := o.c0
  have p1 := o.c1
  have pz : ¬ b.chr = 0 := by omega
  have a0 := o.wf.chrA.1
  have a1 := (o.r1 hk).2.2.2.1
  have e16 := bit16 o.wf.ctrl.1 o.wf.ctrl.2
  have q0 := o.wf.chrB.1
  have q1 := (o.r1 hk).2.2.2.2.1
  have E : chrB b x = (4 * (b.chrA - b.chrA % 2) + x) % b.chr := by simp [chrB, chrN, hk, hc]
  rw [E]
  clear E
  rw [hc] at e16
  have ev := and30 a0 a1
  have z0 : 0 ≤ b.chrA - b.chrA % 2 := by omega
  have z1 : b.chrA - b.chrA % 2 ≤ 31 := by omega
  generalize b.chrA - b.chrA % 2 = zz at *
  have M := mod_in (4 * zz + x) b.chr (by omega) (by omega)
  obtain ⟨em, m0, m1⟩ := M
  have m2 : (4 * zz + x) % b.chr ≤ 512 := by omega
  generalize (4 * zz + x) % b.chr = rr at *
  clear p0 p1 m1 hc
  have C := isB b o.wf.rlen
  have VA : ∀ W, Calls Try.prog 26 #[.agg b.cells] W fun e w' => e = .returned (.bool true) ∧ Below W.heap.size W w' := fun W => o.val ▸ refValid_any W b o.wf
  generalize b.cells = cs at *
  have HS : Hid _ := C.size
  have HVA : Hid _ := VA
  clear o VA
  go_enter Try.func54, Try.ntmps54
  go_upto_region 1 with fail
  have b0 : Blk (w.alloc (.cells cs 37)) w.heap.size cs 37 := Blk.new w cs _
  have hb0 : Below w.heap.size w (w.alloc (.cells cs 37)) := (Below.refl _ _).alloc (Nat.le_refl _) _
  generalize w.alloc (.cells cs 37) = W0 at *
  go_wp2_with (refine wpList_load_mid rfl 37 _ rfl w.heap.size 0 rfl cs.toList _ b0.range Try.underlying37 rfl (by rw [Array.length_toList, HS.out]; exact Try.infoBoard) ?_)
  refine (HVA.out W0).mono ?_
  rintro e W1 ⟨rfl, hb1'⟩
  have hb1 : Below w.heap.size w W1 := hb0.trans (hb1'.mono hb0.size)
  have b1 := b0.below b0.lt hb1'
  have d0 := (b1.cell 0).trans C.h0
  have d5 := (b1.cell 5).trans C.h5
  have d8 := (b1.cell 8).trans C.h8
  have d9 := (b1.cell 9).trans C.h9
  clear C b0 hb0 hb1' HVA
  rw [hk] at d0
  go_wp2
  go_ret
  exact ⟨rfl, hb1⟩
set_option maxRecDepth 100000 in
set_option maxHeartbeats 1000000 in
theorem rchr_1b (w : World) (b : Bd) (x : Int) (n0 : 0 ≤ x) (n1 : x ≤ 7) (o : b.Ok) (hk : b.kind = 1) (hc : ¬ b.ctrl / 16 % 2 = 0) (hx4 : x < 4) :
    Calls Try.prog 54 #[.agg b.cells, .int .i64 x] w fun e w' => e = .returned (.int .i64 (chrB b x)) ∧ Below w.heap.size w w' := by
  have x0 : decide (x < 0) = false := decide_eq_false (by omega)
  have x1 : decide (7 < x) = false := decide_eq_false (by omega)
  have p0 := o.c0
  have p1 := o.c1
  have pz : ¬ b.chr = 0 := by omega
  have a0 := o.wf.chrA.1
  have a1 := (o.r1 hk).2.2.2.1
  have e16 := bit16 o.wf.ctrl.1 o.wf.ctrl.2
  have q0 := o.wf.chrB.1
  have q1 := (o.r1 hk).2.2.2.2.1
  have E : chrB b x = (4 * b.chrA + x) % b.chr := by simp [chrB, chrN, hk, hc, hx4]
  rw [E]
  clear E
  rw [show b.ctrl / 16 % 2 = 1 by omega] at e16
  have x4 : decide (x < 4) = true := decide_eq_true hx4
  have M := mod_in (4 * b.chrA + x) b.chr (by omega) (by omega)
  obtain ⟨em, m0, m1⟩ := M
  have m2 : (4 * b.chrA + x) % b.chr ≤ 512 := by omega
  generalize (4 * b.chrA + x) % b.chr = rr at *
  clear p0 p1 m1 hc
  have C := isB b o.wf.rlen
  have VA : ∀ W, Calls Try.prog 26 #[.agg b.cells] W fun e w' => e = .returned (.bool true) ∧ Below W.heap.size W w' := fun W => o.val ▸ refValid_any W b o.wf
  generalize b.cells = cs at *
  have HS : Hid _ := C.size
  have HVA : Hid _ := VA
  clear o VA
  go_enter Try.func54, Try.ntmps54
  go_upto_region 1 with fail
  have b0 : Blk (w.alloc (.cells cs 37)) w.heap.size cs 37 := Blk.new w cs _
  have hb0 : Below w.heap.size w (w.alloc (.cells cs 37)) := (Below.refl _ _).alloc (Nat.le_refl _) _
  generalize w.alloc (.cells cs 37) = W0 at *
  go_wp2_with (refine wpList_load_mid rfl 37 _ rfl w.heap.size 0 rfl cs.toList _ b0.range Try.underlying37 rfl (by rw [Array.length_toList, HS.out]; exact Try.infoBoard) ?_)
  refine (HVA.out W0).mono ?_
  rintro e W1 ⟨rfl, hb1'⟩
  have hb1 : Below w.heap.size w W1 := hb0.trans (hb1'.mono hb0.size)
  have b1 := b0.below b0.lt hb1'
  have d0 := (b1.cell 0).trans C.h0
  have d5 := (b1.cell 5).trans C.h5
  have d8 := (b1.cell 8).trans C.h8
  have d9 := (b1.cell 9).trans C.h9
  clear C b0 hb0 hb1' HVA
  rw [hk] at d0
  go_wp2
  go_ret
  exact ⟨rfl, hb1⟩
set_option maxRecDepth 100000 in
set_option maxHeartbeats 1000000 in
theorem rchr_1c (w : World) (b : Bd) (x : Int) (n0 : 0 ≤ x) (n1 : x ≤ 7) (o : b.Ok) (hk : b.kind = 1) (hc : ¬ b.ctrl / 16 % 2 = 0) (hx4 : ¬ x < 4) :
    Calls Try.prog 54 #[.agg b.cells, .int .i64 x] w fun e w' => e = .returned (.int .i64 (chrB b x)) ∧ Below w.heap.size w w' := by
  have x0 : decide (x < 0) = false := decide_eq_false (by omega)
  have x1 : decide (7 < x) = false := decide_eq_false (by omega)
  have p0 := o.c0
  have p1 := o.c1
  have pz : ¬ b.chr = 0 := by omega
  have a0 := o.wf.chrA.1
  have a1 := (o.r1 hk).2.2.2.1
  have e16 := bit16 o.wf.ctrl.1 o.wf.ctrl.2
  have q0 := o.wf.chrB.1
  have q1 := (o.r1 hk).2.2.2.2.1
  have E : chrB b x = (4 * b.chrB + x - 4) % b.chr := by simp [chrB, chrN, hk, hc, hx4]
  rw [E]
  clear E
  rw [show b.ctrl / 16 % 2 = 1 by omega] at e16
  have x4 : decide (x < 4) = false := decide_eq_false hx4
  have M := mod_in (4 * b.chrB + x - 4) b.chr (by omega) (by omega)
  obtain ⟨em, m0, m1⟩ := M
  have m2 : (4 * b.chrB + x - 4) % b.chr ≤ 512 := by omega
  generalize (4 * b.chrB + x - 4) % b.chr = rr at *
  clear p0 p1 m1 hc
  have C := isB b o.wf.rlen
  have VA : ∀ W, Calls Try.prog 26 #[.agg b.cells] W fun e w' => e = .returned (.bool true) ∧ Below W.heap.size W w' := fun W => o.val ▸ refValid_any W b o.wf
  generalize b.cells = cs at *
  have HS : Hid _ := C.size
  have HVA : Hid _ := VA
  clear o VA
  go_enter Try.func54, Try.ntmps54
  go_upto_region 1 with fail
  have b0 : Blk (w.alloc (.cells cs 37)) w.heap.size cs 37 := Blk.new w cs _
  have hb0 : Below w.heap.size w (w.alloc (.cells cs 37)) := (Below.refl _ _).alloc (Nat.le_refl _) _
  generalize w.alloc (.cells cs 37) = W0 at *
  go_wp2_with (refine wpList_load_mid rfl 37 _ rfl w.heap.size 0 rfl cs.toList _ b0.range Try.underlying37 rfl (by rw [Array.length_toList, HS.out]; exact Try.infoBoard) ?_)
  refine (HVA.out W0).mono ?_
  rintro e W1 ⟨rfl, hb1'⟩
  have hb1 : Below w.heap.size w W1 := hb0.trans (hb1'.mono hb0.size)
  have b1 := b0.below b0.lt hb1'
  have d0 := (b1.cell 0).trans C.h0
  have d5 := (b1.cell 5).trans C.h5
  have d8 := (b1.cell 8).trans C.h8
  have d10 := (b1.cell 10).trans C.h10
  clear C b0 hb0 hb1' HVA
  rw [hk] at d0
  go_wp2
  go_ret
  exact ⟨rfl, hb1⟩
theorem rchr_all (w : World) (b : Bd) (x : Int) (B : b.Wf) :
    Calls Try.prog 54 #[.agg b.cells, .int .i64 x] w fun e w' => e = .returned (.int .i64 (chrBA b x)) ∧ Below w.heap.size w w' := by
  unfold chrBA
  cases hv : validB b
  · rw [if_neg (by simp)]
    exact rchr_none w b x B hv
  have o := Bd.ok B hv
  by_cases h0 : x < 0
  · rw [if_neg (by omega)]
    exact rchr_low w b x h0 o
  by_cases h1 : 7 < x
  · rw [if_neg (by omega)]
    exact rchr_high w b x h1 o
  rw [if_pos ⟨rfl, by omega, by omega⟩]
  rcases o.kd with hk | hk | hk | hk | hk | hk
  · exact rchr_0 w b x (by omega) (by omega) o (by omega)
  · by_cases h5 : b.ctrl / 16 % 2 = 0
    · exact rchr_1a w b x (by omega) (by omega) o hk h5
    · by_cases h2 : x < 4
      · exact rchr_1b w b x (by omega) (by omega) o hk h5 h2
      · exact rchr_1c w b x (by omega) (by omega) o hk h5 h2
  · exact rchr_0 w b x (by omega) (by omega) o (by omega)
  · exact rchr_3 w b x (by omega) (by omega) o hk
  · exact rchr_4 w b x (by omega) (by omega) o hk
  · exact rchr_0 w b x (by omega) (by omega) o (by omega)
end Go.Proofs.Ytecaipakaaongaa
namespace Go.Proofs.Ytecaipakaaongaa
open Go.RowKit Classical
theorem chrBA_bd {b : Bd} (B : b.Wf) (x : Int) : -1 ≤ chrBA b x ∧ chrBA b x ≤ 511 := by
  unfold chrBA
  split
  · rename_i h
    have := chrB_lt (Bd.ok B h.1) x
    omega
  · decide
set_option maxRecDepth 100000 in
set_option maxHeartbeats 1000000 in
theorem rchrAt_out (w : World) (b : Bd) (a : Int) (B : b.Wf) (h : 8192 ≤ a) :
    Calls Try.prog 46 #[.agg b.cells, .int .u16 a] w fun e w' => e = .returned (.int .i64 (-1)) ∧ Below w.heap.size w w' := by
  have C := isB b B.rlen
  generalize b.cells = cs at C
  have x0 : decide (8192 ≤ a) = true := decide_eq_true h
  clear h B C
  go_enter Try.func46, Try.ntmps46
  go_upto_region 1 with fail
  have hb0 : Below w.heap.size w (w.alloc (.cells cs 37)) := (Below.refl _ _).alloc (Nat.le_refl _) _
  generalize w.alloc (.cells cs 37) = W0 at *
  go_wp2
  go_ret
  exact ⟨rfl, hb0⟩
set_option maxRecDepth 100000 in
set_option maxHeartbeats 1000000 in
theorem rchrAt_in (w : World) (b : Bd) (a : Int) (B : b.Wf) (h0 : 0 ≤ a) (h : a < 8192) :
    Calls Try.prog 46 #[.agg b.cells, .int .u16 a] w fun e w' => e = .returned (.int .i64 (if chrBA b (a / 1024) < 0 then -1 else 1024 * chrBA b (a / 1024) + a % 1024)) ∧ Below w.heap.size w w' := by
  have C := isB b B.rlen
  have bd := chrBA_bd B (a / 1024)
  have BA : ∀ W, Calls Try.prog 54 #[.agg b.cells, .int .i64 (a / 1024)] W fun e w' => e = .returned (.int .i64 (chrBA b (a / 1024))) ∧ Below W.heap.size W w' := fun W => rchr_all W b (a / 1024) B
  generalize b.cells = cs at *
  have HS : Hid _ := C.size
  have x0 : decide (8192 ≤ a) = false := decide_eq_false (by omega)
  have e1 : a.tdiv 1024 = a / 1024 := Int.tdiv_eq_ediv_of_nonneg (by omega)
  have e2 : a.tmod 1024 = a % 1024 := Int.tmod_eq_emod_of_nonneg (by omega)
  have i0 : 0 ≤ a / 1024 := by omega
  have i1 : a / 1024 ≤ 7 := by omega
  have j0 : 0 ≤ a % 1024 := by omega
  have j1 : a % 1024 < 1024 := by omega
  obtain ⟨bd0, bd1⟩ := bd
  generalize chrBA b (a / 1024) = z at *
  generalize a % 1024 = jx at *
  generalize hix : a / 1024 = ix at *
  clear hix
  obtain ⟨v, hv⟩ : ∃ v, (if z < 0 then (-1 : Int) else 1024 * z + jx) = v := ⟨_, rfl⟩
  rw [hv]
  have HV : Hid _ := hv
  clear hv
  have HBA : Hid _ := BA
  clear BA B C
  go_enter Try.func46, Try.ntmps46
  go_upto_region 1 with fail
  have b0 : Blk (w.alloc (.cells cs 37)) w.heap.size cs 37 := Blk.new w cs _
  have hb0 : Below w.heap.size w (w.alloc (.cells cs 37)) := (Below.refl _ _).alloc (Nat.le_refl _) _
  generalize w.alloc (.cells cs 37) = W0 at *
  go_wp2_with (refine wpList_load_mid rfl 37 _ rfl w.heap.size 0 rfl cs.toList _ b0.range Try.underlying37 rfl (by rw [Array.length_toList, HS.out]; exact Try.infoBoard) ?_)
  refine (HBA.out W0).mono ?_
  rintro e W1 ⟨rfl, hb1'⟩
  have hb1 : Below w.heap.size w W1 := hb0.trans (hb1'.mono hb0.size)
  clear b0 hb0 hb1' HBA
  have hz : z < 0 ∨ ¬ z < 0 := Decidable.em _
  rcases hz with hz | hz
  · have HB : Hid ((if z < 0 then (-1 : Int) else 1024 * z + jx) = -1) := if_pos hz
    have zb : decide (z < 0) = true := decide_eq_true hz
    clear hz
    go_wp2
    go_ret
    exact ⟨fin64 (HB.out.symm.trans HV.out), hb1⟩
  · have HB : Hid ((if z < 0 then (-1 : Int) else 1024 * z + jx) = 1024 * z + jx) := if_neg hz
    have zb : decide (z < 0) = false := decide_eq_false hz
    have zn : 0 ≤ z := by omega
    clear hz
    go_wp2
    go_ret
    exact ⟨fin64 (HB.out.symm.trans HV.out), hb1⟩
theorem rchrAt_all (w : World) (b : Bd) (a : Int) (B : b.Wf) (a0 : 0 ≤ a) (a1 : a ≤ 65535) :
    Calls Try.prog 46 #[.agg b.cells, .int .u16 a] w fun e w' => e = .returned (.int .i64 (chrAtA b a)) ∧ Below w.heap.size w w' := by
  by_cases h : 8192 ≤ a
  · rw [show chrAtA b a = -1 from if_neg (by omega)]
    exact rchrAt_out w b a B h
  · have E : chrAtA b a = if chrBA b (a / 1024) < 0 then -1 else 1024 * chrBA b (a / 1024) + a % 1024 := by
      unfold chrAtA chrBA
      cases hv : validB b
      · simp
      · have := (chrB_lt (Bd.ok B hv) (a / 1024)).1
        rw [if_pos ⟨rfl, by omega⟩, show (if true = true ∧ 0 ≤ a / 1024 ∧ a / 1024 ≤ 7 then chrB b (a / 1024) else -1) = chrB b (a / 1024) from if_pos ⟨rfl, by omega, by omega⟩, if_neg (by omega)]
        omega
    rw [E]
    exact rchrAt_in w b a B a0 (by omega)
end Go.Proofs.Ytecaipakaaongaa
