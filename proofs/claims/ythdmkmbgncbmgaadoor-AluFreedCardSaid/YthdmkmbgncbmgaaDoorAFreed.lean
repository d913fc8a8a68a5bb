/-
  The law AluFreed by what its calls answer.
-/
import Derived.Test.YthdmkmbgncbmgaaDoorABlk
import Derived.Test.YthdmkmbgncbmgaaDoorAFlgT
import Derived.Test.YthdmkmbgncbmgaaDoorAHas0
import Derived.Deep.CutBlock
import Derived.Deep.DeepCutAuto
import Derived.BigQuiet
namespace Go.Proofs.YthdmkmbgncbmgaaDoor
open Go.RowKit
/-- Is it a shift? -/
def sh (op : Int) : Bool := op == 2 || op == 32 || op == 39 || op == 40
theorem Blk.oth6 {w : World} {b b' : Nat} {cs : Array Value} (h : Blk w b cs) (hb : b ≠ b') (v0 v1 v2 v3 v4 v5 : Value) :
    Blk ((((((w.setCell ⟨b', 0, none⟩ v0).setCell ⟨b', 1, none⟩ v1).setCell ⟨b', 2, none⟩ v2).setCell ⟨b', 3, none⟩ v3).setCell ⟨b', 4, none⟩ v4).setCell ⟨b', 5, none⟩ v5) b cs :=
  (heap_setCell_other _ _ _ _ hb).trans ((heap_setCell_other _ _ _ _ hb).trans ((heap_setCell_other _ _ _ _ hb).trans ((heap_setCell_other _ _ _ _ hb).trans ((heap_setCell_other _ _ _ _ hb).trans ((heap_setCell_other _ _ _ _ hb).trans h)))))
theorem run_field5 (c0 c1 c2 c3 c4 c5 : Value) (w : World) : Sem.run Tryd.prog (Instr.field 23 (.agg #[c0, c1, c2, c3, c4, c5]) 5) w = .ok c5 w := by
  first | rfl | kernel_rfl | (unfold Sem.run; simp [Tryd.underlying23]) | (unfold Sem.run; simp [go_sem])
set_option maxRecDepth 100000 in
set_option maxHeartbeats 400000 in
theorem law_freed0 (op a x y s m n f : Int) (F : Fl) (w : World) (T : Tabs w) (n0 : 0 ≤ n) (n1 : n ≤ 255) (hf : 2 ^ (n % 8).toNat % 256 = f) (hN : gt (nd op) f = true) (h7 : ∀ W, Calls Tryd.prog 9 #[.int .i64 24, .agg #[.int .u8 a, .int .u8 x, .int .u8 y, .int .u8 s, .int .u8 (F.val : Nat), .int .u8 m], .int .u8 7] W fun e w' => ∃ g : Int, e = .returned (.agg #[.int .u8 a, .int .u8 x, .int .u8 y, .int .u8 s, .int .u8 g, .int .u8 8]) ∧ Below W.heap.size W w') :
    Calls Tryd.prog 8 #[.int .i64 op, .agg #[.int .u8 a, .int .u8 x, .int .u8 y, .int .u8 s, .int .u8 (F.val : Nat), .int .u8 m], .int .u8 n] w fun e w' => e = .returned (.bool true) ∧ Below w.heap.size w w' := by
  go_enter Tryd.func8, Tryd.ntmps8
  go_upto_region 1 with fail
  go_cut [23] (fun q wx => q = .bool false ∧ Blk wx w.heap.size #[.int .u8 a, .int .u8 x, .int .u8 y, .int .u8 s, .int .u8 (F.val : Nat), .int .u8 m] ∧ Below w.heap.size w wx)
  case first =>
    have T1 : Tabs (w.alloc (.cells #[.int .u8 a, .int .u8 x, .int .u8 y, .int .u8 s, .int .u8 (F.val : Nat), .int .u8 m] 23)) := T.on ((Below.refl _ _).alloc (Nat.le_refl _) _)
    have e1 : nd 39 = 1 := by decide +kernel
    have e2 : st 24 = 130 := by decide +kernel
    have B1 := Blk.new w #[.int .u8 a, .int .u8 x, .int .u8 y, .int .u8 s, .int .u8 (F.val : Nat), .int .u8 m]
    have hcell := B1.cell
    go_wp2_with (first
      | (go_at_call 15; refine (needs_any _ _ T1).mono ?_; rintro e w' ⟨rfl, rfl⟩; rw [e1])
      | (go_at_call 16; refine (sets_any _ _ T1.s).mono ?_; rintro e w' ⟨rfl, rfl⟩; rw [e2])
      | (go_at_call 9; refine (h7 _).mono ?_; rintro e w1 ⟨g, rfl, hb1⟩))
    rw [run_field5]
    go_wp2
    go_meet
    exact ⟨rfl, B1.below B1.lt hb1, ((Below.refl _ _).alloc (Nat.le_refl _) _).trans (hb1.mono (by simp))⟩
  case rest =>
  obtain ⟨rfl, B1, hw⟩ := hcut
  clear h7
  have Tx := T.on hw
  have hcell1 := B1.cell
  have hfree1 := B1.free
  have hlt1 := B1.lt
  go_upto_region 4 with fail
  go_upto_region 5 with fail
  rw [hf]
  go_wp2_with (first | (go_at_call 15; refine (needs_any _ _ Tx).mono ?_; rintro e w' ⟨rfl, rfl⟩) | (go_at_call 17; refine (has_any _ _ _).mono ?_; rintro e w' ⟨rfl, rfl⟩; rw [hN]))
  go_ret
  exact ⟨rfl, hw⟩
set_option maxRecDepth 100000 in
set_option maxHeartbeats 4000000 in
theorem law_freed1 (op a x y s m n f o0 o1 o2 o3 o4 o5 r4 p0 p4 q4 : Int) (F G : Fl) (w : World) (T : Tabs w) (n0 : 0 ≤ n) (n1 : n ≤ 255) (hf : 2 ^ (n % 8).toNat % 256 = f) (hx : bits .xor .u8 (F.val : Nat) f = (G.val : Nat)) (hN : gt (nd op) f = false) (hT : tk op (F.val : Nat) = tk op (G.val : Nat)) (h7 : ∀ W, Calls Tryd.prog 9 #[.int .i64 24, .agg #[.int .u8 a, .int .u8 x, .int .u8 y, .int .u8 s, .int .u8 (F.val : Nat), .int .u8 m], .int .u8 7] W fun e w' => ∃ g : Int, e = .returned (.agg #[.int .u8 a, .int .u8 x, .int .u8 y, .int .u8 s, .int .u8 g, .int .u8 8]) ∧ Below W.heap.size W w')
    (hA : Hid (∀ W, STab W → Calls Tryd.prog 11 #[.int .i64 op, .agg #[.int .u8 a, .int .u8 x, .int .u8 y, .int .u8 s, .int .u8 (F.val : Nat), .int .u8 m]] W fun e w' => e = .returned (.agg #[.int .u8 o0, .int .u8 o1, .int .u8 o2, .int .u8 o3, .int .u8 o4, .int .u8 o5]) ∧ Below W.heap.size W w'))
    (hB : Hid (∀ W, STab W → Calls Tryd.prog 11 #[.int .i64 op, .agg #[.int .u8 a, .int .u8 x, .int .u8 y, .int .u8 s, .int .u8 (G.val : Nat), .int .u8 m]] W fun e w' => e = .returned (.agg #[.int .u8 o0, .int .u8 o1, .int .u8 o2, .int .u8 o3, .int .u8 r4, .int .u8 o5]) ∧ Below W.heap.size W w'))
    (hD : Hid ((bif gt (st op) f then r4 else bits .xor .u8 r4 f) = o4))
    (hE : Hid (∀ W, Calls Tryd.prog 12 #[.int .i64 op, .agg #[.int .u8 a, .int .u8 x, .int .u8 y, .int .u8 s, .int .u8 (F.val : Nat), .int .u8 m]] W fun e w' => e = .returned (.agg #[.int .u8 p0, .int .u8 x, .int .u8 y, .int .u8 s, .int .u8 p4, .int .u8 m]) ∧ Below W.heap.size W w'))
    (hH : Hid (∀ W, Calls Tryd.prog 12 #[.int .i64 op, .agg #[.int .u8 a, .int .u8 x, .int .u8 y, .int .u8 s, .int .u8 (G.val : Nat), .int .u8 m]] W fun e w' => e = .returned (.agg #[.int .u8 p0, .int .u8 x, .int .u8 y, .int .u8 s, .int .u8 q4, .int .u8 m]) ∧ Below W.heap.size W w'))
    (hI : Hid ((bif sh op && gt (st op) f then q4 else bits .xor .u8 q4 f) = p4)) :
    Calls Tryd.prog 8 #[.int .i64 op, .agg #[.int .u8 a, .int .u8 x, .int .u8 y, .int .u8 s, .int .u8 (F.val : Nat), .int .u8 m], .int .u8 n] w fun e w' => e = .returned (.bool true) ∧ Below w.heap.size w w' := by
  go_enter Tryd.func8, Tryd.ntmps8
  go_upto_region 1 with fail
  go_cut [23] (fun q wx => q = .bool false ∧ Blk wx w.heap.size #[.int .u8 a, .int .u8 x, .int .u8 y, .int .u8 s, .int .u8 (F.val : Nat), .int .u8 m] ∧ Below w.heap.size w wx)
  case first =>
    have T1 : Tabs (w.alloc (.cells #[.int .u8 a, .int .u8 x, .int .u8 y, .int .u8 s, .int .u8 (F.val : Nat), .int .u8 m] 23)) := T.on ((Below.refl _ _).alloc (Nat.le_refl _) _)
    have e1 : nd 39 = 1 := by decide +kernel
    have e2 : st 24 = 130 := by decide +kernel
    have B1 := Blk.new w #[.int .u8 a, .int .u8 x, .int .u8 y, .int .u8 s, .int .u8 (F.val : Nat), .int .u8 m]
    have hcell := B1.cell
    go_wp2_with (first
      | (go_at_call 15; refine (needs_any _ _ T1).mono ?_; rintro e w' ⟨rfl, rfl⟩; rw [e1])
      | (go_at_call 16; refine (sets_any _ _ T1.s).mono ?_; rintro e w' ⟨rfl, rfl⟩; rw [e2])
      | (go_at_call 9; refine (h7 _).mono ?_; rintro e w1 ⟨g, rfl, hb1⟩))
    rw [run_field5]
    go_wp2
    go_meet
    exact ⟨rfl, B1.below B1.lt hb1, ((Below.refl _ _).alloc (Nat.le_refl _) _).trans (hb1.mono (by simp))⟩
  case rest =>
  obtain ⟨rfl, B1, hw⟩ := hcut
  clear h7
  have Tx := T.on hw
  have hcell1 := B1.cell
  have hfree1 := B1.free
  have hlt1 := B1.lt
  go_upto_region 4 with fail
  go_upto_region 5 with fail
  rw [hf]
  clear hf n0 n1
  go_upto_region 7 with (first | (go_at_call 15; refine (needs_any _ _ Tx).mono ?_; rintro e w' ⟨rfl, rfl⟩) | (go_at_call 17; refine (has_any _ _ _).mono ?_; rintro e w' ⟨rfl, rfl⟩; rw [hN]))
  go_cut [9] (fun q wx => ∃ b2 : Nat, q = .pointer (some ⟨b2, 0, none⟩) ∧ w.heap.size < b2 ∧ Blk wx w.heap.size #[.int .u8 a, .int .u8 x, .int .u8 y, .int .u8 s, .int .u8 (F.val : Nat), .int .u8 m] ∧ Blk wx b2 #[.int .u8 a, .int .u8 x, .int .u8 y, .int .u8 s, .int .u8 (F.val : Nat), .int .u8 m] ∧ Below w.heap.size w wx)
  case first =>
    go_wp2
    go_meet
    refine ⟨_, rfl, hlt1, ?_, ?_, ?_⟩
    · first | exact B1.below hlt1 ((Below.refl _ _).alloc (Nat.le_refl _) _) | exact B1.below hlt1 (below_set6 ((Below.refl _ _).alloc (Nat.le_refl _) _) (Nat.le_refl _) _ _ _ _ _ _)
    · first | exact Blk.new _ _ | exact (Blk.new _ _).set6 _ _ _ _ _ _
    · first | exact hw.alloc hw.size _ | exact below_set6 (hw.alloc hw.size _) hw.size _ _ _ _ _ _
  case rest =>
  clear B1 hw Tx hcell1 hfree1 hlt1
  obtain ⟨b2, rfl, hb2, B1, B2, hw⟩ := hcut
  have hcell1 := B1.cell
  have hfree1 := B1.free
  have hlt1 := B1.lt
  have hcell2 := B2.cell
  have hfree2 := B2.free
  have hlt2 := B2.lt
  go_upto_region 8 with fail
  go_cut [] (fun wx => Blk wx w.heap.size #[.int .u8 a, .int .u8 x, .int .u8 y, .int .u8 s, .int .u8 (F.val : Nat), .int .u8 m] ∧ Blk wx b2 #[.int .u8 a, .int .u8 x, .int .u8 y, .int .u8 s, .int .u8 (G.val : Nat), .int .u8 m] ∧ Below w.heap.size w wx)
  case first =>
    go_wp2
    go_meet
    exact ⟨(heap_setCell_other _ _ _ _ (Nat.ne_of_lt hb2)).trans B1, B2.set 4 _, hw.setCell (Nat.le_of_lt hb2) _⟩
  case rest =>
  clear B1 B2 hw
  clear hcell1 hfree1 hlt1 hcell2 hfree2 hlt2
  clear hx
  obtain ⟨B1, B2, hw⟩ := hcut
  have Tx := T.on hw
  have hcell1 := B1.cell
  have hfree1 := B1.free
  have hlt1 := B1.lt
  have hcell2 := B2.cell
  have hfree2 := B2.free
  have hlt2 := B2.lt
  go_upto_region 9 with fail
  go_cut [46] (fun q wx => q = .bool false ∧ Blk wx w.heap.size #[.int .u8 a, .int .u8 x, .int .u8 y, .int .u8 s, .int .u8 (F.val : Nat), .int .u8 m] ∧ Blk wx b2 #[.int .u8 a, .int .u8 x, .int .u8 y, .int .u8 s, .int .u8 (G.val : Nat), .int .u8 m] ∧ Below w.heap.size w wx)
  case first =>
    go_region_with (go_at_call 14; refine (taken_any _ _ _ (by first | exact Tx | exact Tx.on ((Below.refl _ _).drew))).mono ?_; rintro e w' ⟨rfl, rfl⟩)
    all_goals
      go_wp2
      go_meet
      exact ⟨by first | rfl | simp [hT], B1.below hlt1 ((Below.refl _ _).drew), B2.below hlt2 ((Below.refl _ _).drew), hw.drew⟩
  case rest =>
  clear B1 B2 hw Tx hT
  clear hcell1 hfree1 hlt1 hcell2 hfree2 hlt2
  obtain ⟨rfl, B1, B2, hw⟩ := hcut
  have Tx := T.on hw
  have hcell1 := B1.cell
  have hfree1 := B1.free
  have hlt1 := B1.lt
  have hcell2 := B2.cell
  have hfree2 := B2.free
  have hlt2 := B2.lt
  go_upto_region 11 with fail
  go_cut [10] (fun q wx => ∃ b3 : Nat, q = .pointer (some ⟨b3, 0, none⟩) ∧ b2 < b3 ∧ Blk wx w.heap.size #[.int .u8 a, .int .u8 x, .int .u8 y, .int .u8 s, .int .u8 (F.val : Nat), .int .u8 m] ∧ Blk wx b2 #[.int .u8 a, .int .u8 x, .int .u8 y, .int .u8 s, .int .u8 (G.val : Nat), .int .u8 m] ∧ Blk wx b3 #[.int .u8 o0, .int .u8 o1, .int .u8 o2, .int .u8 o3, .int .u8 o4, .int .u8 o5] ∧ Below w.heap.size w wx)
  case first =>
    go_wp2_with (go_at_call 11; refine (hA.out _ Tx.s).mono ?_; rintro e w1 ⟨rfl, hb1⟩)
    go_meet
    have k1 := B1.below hlt1 hb1
    have k2 := B2.below hlt2 hb1
    have kw := hw.trans (hb1.mono hw.size)
    refine ⟨_, rfl, k2.lt, ?_, ?_, ?_, ?_⟩
    · first | exact k1.below k1.lt ((Below.refl _ _).alloc (Nat.le_refl _) _) | exact k1.below k1.lt (below_set6 ((Below.refl _ _).alloc (Nat.le_refl _) _) (Nat.le_refl _) _ _ _ _ _ _)
    · first | exact k2.below k2.lt ((Below.refl _ _).alloc (Nat.le_refl _) _) | exact k2.below k2.lt (below_set6 ((Below.refl _ _).alloc (Nat.le_refl _) _) (Nat.le_refl _) _ _ _ _ _ _)
    · first | exact Blk.new _ _ | exact (Blk.new _ _).set6 _ _ _ _ _ _
    · first | exact kw.alloc kw.size _ | exact below_set6 (kw.alloc kw.size _) kw.size _ _ _ _ _ _
  case rest =>
  clear B1 B2 hw Tx hA
  clear hcell1 hfree1 hlt1 hcell2 hfree2 hlt2
  obtain ⟨b3, rfl, hb3, B1, B2, B3, hw⟩ := hcut
  have Tx := T.on hw
  have hcell1 := B1.cell
  have hfree1 := B1.free
  have hlt1 := B1.lt
  have hcell2 := B2.cell
  have hfree2 := B2.free
  have hlt2 := B2.lt
  have hcell3 := B3.cell
  have hfree3 := B3.free
  have hlt3 := B3.lt
  go_upto_region 12 with fail
  go_cut [11] (fun q wx => ∃ b4 : Nat, q = .pointer (some ⟨b4, 0, none⟩) ∧ b3 < b4 ∧ Blk wx w.heap.size #[.int .u8 a, .int .u8 x, .int .u8 y, .int .u8 s, .int .u8 (F.val : Nat), .int .u8 m] ∧ Blk wx b2 #[.int .u8 a, .int .u8 x, .int .u8 y, .int .u8 s, .int .u8 (G.val : Nat), .int .u8 m] ∧ Blk wx b3 #[.int .u8 o0, .int .u8 o1, .int .u8 o2, .int .u8 o3, .int .u8 o4, .int .u8 o5] ∧ Blk wx b4 #[.int .u8 o0, .int .u8 o1, .int .u8 o2, .int .u8 o3, .int .u8 r4, .int .u8 o5] ∧ Below w.heap.size w wx)
  case first =>
    go_wp2_with (go_at_call 11; refine (hB.out _ Tx.s).mono ?_; rintro e w1 ⟨rfl, hb1⟩)
    go_meet
    have k1 := B1.below hlt1 hb1
    have k2 := B2.below hlt2 hb1
    have k3 := B3.below hlt3 hb1
    have kw := hw.trans (hb1.mono hw.size)
    refine ⟨_, rfl, k3.lt, ?_, ?_, ?_, ?_, ?_⟩
    · first | exact k1.below k1.lt ((Below.refl _ _).alloc (Nat.le_refl _) _) | exact k1.below k1.lt (below_set6 ((Below.refl _ _).alloc (Nat.le_refl _) _) (Nat.le_refl _) _ _ _ _ _ _)
    · first | exact k2.below k2.lt ((Below.refl _ _).alloc (Nat.le_refl _) _) | exact k2.below k2.lt (below_set6 ((Below.refl _ _).alloc (Nat.le_refl _) _) (Nat.le_refl _) _ _ _ _ _ _)
    · first | exact k3.below k3.lt ((Below.refl _ _).alloc (Nat.le_refl _) _) | exact k3.below k3.lt (below_set6 ((Below.refl _ _).alloc (Nat.le_refl _) _) (Nat.le_refl _) _ _ _ _ _ _)
    · first | exact Blk.new _ _ | exact (Blk.new _ _).set6 _ _ _ _ _ _
    · first | exact kw.alloc kw.size _ | exact below_set6 (kw.alloc kw.size _) kw.size _ _ _ _ _ _
  case rest =>
  clear B1 B2 B3 hw Tx hB
  clear hcell1 hfree1 hlt1 hcell2 hfree2 hlt2 hcell3 hfree3 hlt3
  obtain ⟨b4, rfl, hb4, B1, B2, B3, B4, hw⟩ := hcut
  have Tx := T.on hw
  have hcell1 := B1.cell
  have hfree1 := B1.free
  have hlt1 := B1.lt
  have hcell2 := B2.cell
  have hfree2 := B2.free
  have hlt2 := B2.lt
  have hcell3 := B3.cell
  have hfree3 := B3.free
  have hlt3 := B3.lt
  have hcell4 := B4.cell
  have hfree4 := B4.free
  have hlt4 := B4.lt
  go_upto_if 57 with (first | (go_at_call 16; refine (sets_any _ _ Tx.s).mono ?_; rintro e w' ⟨rfl, rfl⟩) | (go_at_call 17; refine (has_any _ _ _).mono ?_; rintro e w' ⟨rfl, rfl⟩))
  go_cut [] (fun wx => Blk wx w.heap.size #[.int .u8 a, .int .u8 x, .int .u8 y, .int .u8 s, .int .u8 (F.val : Nat), .int .u8 m] ∧ Blk wx b2 #[.int .u8 a, .int .u8 x, .int .u8 y, .int .u8 s, .int .u8 (G.val : Nat), .int .u8 m] ∧ Blk wx b3 #[.int .u8 o0, .int .u8 o1, .int .u8 o2, .int .u8 o3, .int .u8 o4, .int .u8 o5] ∧ Blk wx b4 #[.int .u8 o0, .int .u8 o1, .int .u8 o2, .int .u8 o3, .int .u8 o4, .int .u8 o5] ∧ Below w.heap.size w wx)
  case first =>
    cases hS : gt (st op) f
    · have hD1 : bits .xor .u8 r4 f = o4 := by have := hD.out; rw [hS] at this; exact this
      go_wp2
      go_meet
      exact ⟨(heap_setCell_other _ _ _ _ (by show w.heap.size ≠ b4; omega)).trans B1, (heap_setCell_other _ _ _ _ (by show b2 ≠ b4; omega)).trans B2, (heap_setCell_other _ _ _ _ (by show b3 ≠ b4; omega)).trans B3, B4.set 4 _, hw.setCell (by show w.heap.size ≤ b4; omega) _⟩
    · have hD1 : r4 = o4 := by have := hD.out; rw [hS] at this; exact this
      subst hD1
      go_wp2
      go_meet
      exact ⟨B1, B2, B3, B4, hw⟩
  case rest =>
  clear B1 B2 B3 B4 hw Tx hD
  clear hcell1 hfree1 hlt1 hcell2 hfree2 hlt2 hcell3 hfree3 hlt3 hcell4 hfree4 hlt4
  obtain ⟨B1, B2, B3, B4, hw⟩ := hcut
  have hcell1 := B1.cell
  have hfree1 := B1.free
  have hlt1 := B1.lt
  have hcell2 := B2.cell
  have hfree2 := B2.free
  have hlt2 := B2.lt
  have hcell3 := B3.cell
  have hfree3 := B3.free
  have hlt3 := B3.lt
  have hcell4 := B4.cell
  have hfree4 := B4.free
  have hlt4 := B4.lt
  go_upto_region 17 with fail
  go_cut [] (fun wx => Blk wx w.heap.size #[.int .u8 a, .int .u8 x, .int .u8 y, .int .u8 s, .int .u8 (F.val : Nat), .int .u8 m] ∧ Blk wx b2 #[.int .u8 a, .int .u8 x, .int .u8 y, .int .u8 s, .int .u8 (G.val : Nat), .int .u8 m] ∧ Blk wx b3 #[.int .u8 p0, .int .u8 x, .int .u8 y, .int .u8 s, .int .u8 p4, .int .u8 m] ∧ Blk wx b4 #[.int .u8 o0, .int .u8 o1, .int .u8 o2, .int .u8 o3, .int .u8 o4, .int .u8 o5] ∧ Below w.heap.size w wx)
  case first =>
    go_wp2_with (go_at_call 12; refine (hE.out _).mono ?_; rintro e w1 ⟨rfl, hb1⟩; have k1 := B1.below hlt1 hb1; have k2 := B2.below hlt2 hb1; have k3 := B3.below hlt3 hb1; have k4 := B4.below hlt4 hb1; have hcell5 := k3.cell; have hfree5 := k3.free)
    go_meet
    have kw := hw.trans (hb1.mono hw.size)
    exact ⟨k1.below (B := b3) (by omega) (below_set6 (Below.refl _ _) (Nat.le_refl _) _ _ _ _ _ _), k2.below (B := b3) hb3 (below_set6 (Below.refl _ _) (Nat.le_refl _) _ _ _ _ _ _), k3.set6 _ _ _ _ _ _, k4.oth6 (by omega) _ _ _ _ _ _, below_set6 kw (by omega) _ _ _ _ _ _⟩
  case rest =>
  clear B1 B2 B3 B4 hw hE
  clear hcell1 hfree1 hlt1 hcell2 hfree2 hlt2 hcell3 hfree3 hlt3 hcell4 hfree4 hlt4
  obtain ⟨B1, B2, B3, B4, hw⟩ := hcut
  have hcell1 := B1.cell
  have hfree1 := B1.free
  have hlt1 := B1.lt
  have hcell2 := B2.cell
  have hfree2 := B2.free
  have hlt2 := B2.lt
  have hcell3 := B3.cell
  have hfree3 := B3.free
  have hlt3 := B3.lt
  have hcell4 := B4.cell
  have hfree4 := B4.free
  have hlt4 := B4.lt
  go_upto_region 18 with fail
  go_cut [] (fun wx => Blk wx b3 #[.int .u8 p0, .int .u8 x, .int .u8 y, .int .u8 s, .int .u8 p4, .int .u8 m] ∧ Blk wx b4 #[.int .u8 p0, .int .u8 x, .int .u8 y, .int .u8 s, .int .u8 q4, .int .u8 m] ∧ Below w.heap.size w wx)
  case first =>
    go_wp2_with (go_at_call 12; refine (hH.out _).mono ?_; rintro e w1 ⟨rfl, hb1⟩; have k3 := B3.below hlt3 hb1; have k4 := B4.below hlt4 hb1; have hcell5 := k4.cell; have hfree5 := k4.free)
    go_meet
    have kw := hw.trans (hb1.mono hw.size)
    exact ⟨k3.below (B := b4) hb4 (below_set6 (Below.refl _ _) (Nat.le_refl _) _ _ _ _ _ _), k4.set6 _ _ _ _ _ _, below_set6 kw (by omega) _ _ _ _ _ _⟩
  case rest =>
  clear B1 B2 B3 B4 hw hH
  clear hcell1 hfree1 hlt1 hcell2 hfree2 hlt2 hcell3 hfree3 hlt3 hcell4 hfree4 hlt4
  obtain ⟨B3, B4, hw⟩ := hcut
  have Tx := T.on hw
  have hcell3 := B3.cell
  have hfree3 := B3.free
  have hlt3 := B3.lt
  have hcell4 := B4.cell
  have hfree4 := B4.free
  have hlt4 := B4.lt
  go_upto_region 19 with fail
  go_cut [92] (fun q wx => q = .bool (!(sh op && gt (st op) f)) ∧ Blk wx b3 #[.int .u8 p0, .int .u8 x, .int .u8 y, .int .u8 s, .int .u8 p4, .int .u8 m] ∧ Blk wx b4 #[.int .u8 p0, .int .u8 x, .int .u8 y, .int .u8 s, .int .u8 q4, .int .u8 m] ∧ Below w.heap.size w wx)
  case first =>
    clear hI T
    by_cases h2 : op = 2
    · subst h2
      go_wp2_with (first | (go_at_call 16; refine (sets_any _ _ Tx.s).mono ?_; rintro e w' ⟨rfl, rfl⟩) | (go_at_call 17; refine (has_any _ _ _).mono ?_; rintro e w' ⟨rfl, rfl⟩))
      go_meet
      exact ⟨rfl, B3, B4, hw⟩
    by_cases h32 : op = 32
    · subst h32
      go_wp2_with (first | (go_at_call 16; refine (sets_any _ _ Tx.s).mono ?_; rintro e w' ⟨rfl, rfl⟩) | (go_at_call 17; refine (has_any _ _ _).mono ?_; rintro e w' ⟨rfl, rfl⟩))
      go_meet
      exact ⟨rfl, B3, B4, hw⟩
    by_cases h39 : op = 39
    · subst h39
      go_wp2_with (first | (go_at_call 16; refine (sets_any _ _ Tx.s).mono ?_; rintro e w' ⟨rfl, rfl⟩) | (go_at_call 17; refine (has_any _ _ _).mono ?_; rintro e w' ⟨rfl, rfl⟩))
      go_meet
      exact ⟨rfl, B3, B4, hw⟩
    by_cases h40 : op = 40
    · subst h40
      go_wp2_with (first | (go_at_call 16; refine (sets_any _ _ Tx.s).mono ?_; rintro e w' ⟨rfl, rfl⟩) | (go_at_call 17; refine (has_any _ _ _).mono ?_; rintro e w' ⟨rfl, rfl⟩))
      go_meet
      exact ⟨rfl, B3, B4, hw⟩
    have e : sh op = false := by simp [sh, h2, h32, h39, h40]
    go_wp2
    go_meet
    exact ⟨by rw [e]; rfl, B3, B4, hw⟩
  case rest =>
  clear B3 B4 hw Tx
  clear hcell3 hfree3 hlt3 hcell4 hfree4 hlt4
  obtain ⟨rfl, B3, B4, hw⟩ := hcut
  have hcell3 := B3.cell
  have hfree3 := B3.free
  have hlt3 := B3.lt
  have hcell4 := B4.cell
  have hfree4 := B4.free
  have hlt4 := B4.lt
  go_upto_if 92 with fail
  go_cut [] (fun wx => Blk wx b3 #[.int .u8 p0, .int .u8 x, .int .u8 y, .int .u8 s, .int .u8 p4, .int .u8 m] ∧ Blk wx b4 #[.int .u8 p0, .int .u8 x, .int .u8 y, .int .u8 s, .int .u8 p4, .int .u8 m] ∧ Below w.heap.size w wx)
  case first =>
    cases hS : (sh op && gt (st op) f)
    · have hD1 : bits .xor .u8 q4 f = p4 := by have := hI.out; rw [hS] at this; exact this
      go_wp2
      go_meet
      exact ⟨(heap_setCell_other _ _ _ _ (by show b3 ≠ b4; omega)).trans B3, B4.set 4 _, hw.setCell (by show w.heap.size ≤ b4; omega) _⟩
    · have hD1 : q4 = p4 := by have := hI.out; rw [hS] at this; exact this
      subst hD1
      go_wp2
      go_meet
      exact ⟨B3, B4, hw⟩
  case rest =>
  clear B3 B4 hw hI
  clear hcell3 hfree3 hlt3 hcell4 hfree4 hlt4
  obtain ⟨B3, B4, hw⟩ := hcut
  have hcell3 := B3.cell
  have hfree3 := B3.free
  have hlt3 := B3.lt
  have hcell4 := B4.cell
  have hfree4 := B4.free
  have hlt4 := B4.lt
  go_wp2
  go_ret
  exact ⟨rfl, hw⟩
end Go.Proofs.YthdmkmbgncbmgaaDoor
