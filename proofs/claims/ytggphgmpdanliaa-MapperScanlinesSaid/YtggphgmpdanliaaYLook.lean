/-
  What look sees of a board; two views held against each other.
-/
import Derived.Test.YtggphgmpdanliaaYP
import Derived.Test.YtggphgmpdanliaaYHand
set_option linter.unusedSimpArgs false
set_option linter.unusedVariables false
namespace Go.Proofs.Ytggphgmpdanliaa
open Go.RowKit Classical
/-- What look sees of a board. -/
def viewC (b : Bd) : Array Value := #[.int .i64 (bankB b 0), .int .i64 (bankB b 1), .int .i64 (bankB b 2), .int .i64 (bankB b 3), .int .i64 (ramB b)]
/-- What has been gathered behind n windows. -/
def lookC (b : Bd) (n : Nat) : Array Value := #[.int .i64 (if 0 < n then bankB b 0 else 0), .int .i64 (if 1 < n then bankB b 1 else 0), .int .i64 (if 2 < n then bankB b 2 else 0), .int .i64 (if 3 < n then bankB b 3 else 0), .int .i64 (ramB b)]
theorem Try.infoView : (Try.prog.info? 73).map (·.size) = some 5 := by kernel_rfl
set_option maxRecDepth 100000 in
set_option maxHeartbeats 1000000 in
theorem look_kn {k : Int} {T t : TypeId} {kc : Bd → Array Value} {fB fC fM fW fR : FuncId} (kn : Kn k T t kc fB fC fM fW fR) (w : World) (b : Bd) (o : b.Ok) (hk : b.kind = k) (m : Nat) (K : Blk w m (kc b) t) :
    Calls Try.prog 40 #[.iface T (.pointer (some ⟨m, 0, none⟩))] w fun e w' => e = .returned (.agg (viewC b)) ∧ Below w.heap.size w w' := by
  have hM := fun w => kn.mB m w
  have hE := fun (x : Value) w => kn.eB #[.pointer (some ⟨m, 0, none⟩), x] w
  have C1 : Hid _ := fun W (K : Blk W m (kc b) t) => ramMode_kn kn W b o hk m K
  have C2 : Hid _ := fun W (x : Int) (h0 : 0 ≤ x) (h1 : x ≤ 3) (K : Blk W m (kc b) t) => kn.bnk b o hk W m x h0 h1 K
  have hm := K.lt
  have VC : Hid (viewC b = lookC b 4) := rfl
  clear kn o
  go_enter Try.func40, Try.ntmps40
  go_upto_region 1 with fail
  have z0 : Blk (w.alloc (.cells #[.int .i64 0, .int .i64 0, .int .i64 0, .int .i64 0, .int .i64 0] 73)) w.heap.size #[.int .i64 0, .int .i64 0, .int .i64 0, .int .i64 0, .int .i64 0] 73 := Blk.new w _ _
  have K0 : Blk (w.alloc (.cells #[.int .i64 0, .int .i64 0, .int .i64 0, .int .i64 0, .int .i64 0] 73)) m (kc b) t := K.old _
  have hb0 : Below w.heap.size w (w.alloc (.cells #[.int .i64 0, .int .i64 0, .int .i64 0, .int .i64 0, .int .i64 0] 73)) := (Below.refl _ _).alloc (Nat.le_refl _) _
  change Code.wp _ _ _ _ (w.alloc (.cells #[.int .i64 0, .int .i64 0, .int .i64 0, .int .i64 0, .int .i64 0] 73))
  generalize w.alloc (.cells #[.int .i64 0, .int .i64 0, .int .i64 0, .int .i64 0, .int .i64 0] 73) = W0 at *
  clear K
  go_wp2_with fail
  refine (C1.out W0 K0).mono ?_
  rintro e W1 ⟨rfl, hb1'⟩
  have z1 := z0.below z0.lt hb1'
  have K1 := K0.below K0.lt hb1'
  have hb1 : Below w.heap.size w W1 := hb0.trans (hb1'.mono hb0.size)
  have hz1 := z1.lt
  have hm1 := K1.lt
  clear z0 K0 hb0 hb1' C1
  go_upto_region 2 with fail
  have v2 : Blk (W1.alloc (.cells #[.int .i64 0, .int .i64 0, .int .i64 0, .int .i64 0, .int .i64 (ramB b)] 73)) W1.heap.size (lookC b 0) 73 := Blk.new W1 _ _
  have z2 : Blk (W1.alloc (.cells #[.int .i64 0, .int .i64 0, .int .i64 0, .int .i64 0, .int .i64 (ramB b)] 73)) w.heap.size #[.int .i64 0, .int .i64 0, .int .i64 0, .int .i64 0, .int .i64 0] 73 := z1.old _
  have K2 : Blk (W1.alloc (.cells #[.int .i64 0, .int .i64 0, .int .i64 0, .int .i64 0, .int .i64 (ramB b)] 73)) m (kc b) t := K1.old _
  have hb2 : Below w.heap.size w (W1.alloc (.cells #[.int .i64 0, .int .i64 0, .int .i64 0, .int .i64 0, .int .i64 (ramB b)] 73)) := hb1.alloc (by have := hb1.size; omega) _
  change Code.wp _ _ _ _ (W1.alloc (.cells #[.int .i64 0, .int .i64 0, .int .i64 0, .int .i64 0, .int .i64 (ramB b)] 73))
  generalize W1.alloc (.cells #[.int .i64 0, .int .i64 0, .int .i64 0, .int .i64 0, .int .i64 (ramB b)] 73) = W2 at *
  have hle : w.heap.size ≤ W1.heap.size := hb1.size
  generalize W1.heap.size = vb at *
  clear z1 K1 hb1
  have hmv : m ≠ vb := by omega
  have hzv : w.heap.size ≠ vb := by omega
  go_wp2
  go_loopw [8] (fun i wr => ∃ n : Nat, n ≤ 4 ∧ i = .int .i64 n ∧ Blk wr vb (lookC b n) 73 ∧ Blk wr w.heap.size #[.int .i64 0, .int .i64 0, .int .i64 0, .int .i64 0, .int .i64 0] 73 ∧ Blk wr m (kc b) t ∧ Below w.heap.size w wr) (fun i _ => (4 - intOf i).toNat)
  case atStart => exact ⟨0, by omega, rfl, v2, z2, K2, hb2⟩
  case round =>
    clear v2 z2 K2 hb2
    obtain ⟨n, hn, rfl, v2, z2, K2, hb2⟩ := hrel
    by_cases hlt : n < 4
    · have n4 : n = 0 ∨ n = 1 ∨ n = 2 ∨ n = 3 := by omega
      have hz := z2.lt
      have hv := v2.lt
      have KH : Hid (Blk wr m (kc b) t) := K2
      have ZH : Hid (Blk wr w.heap.size #[.int .i64 0, .int .i64 0, .int .i64 0, .int .i64 0, .int .i64 0] 73) := z2
      have VH : Hid (Blk wr vb (lookC b n) 73) := v2
      clear v2 z2 K2 hlt hn
      rcases n4 with rfl | rfl | rfl | rfl
      · have hE' := fun w => hE (.int .i64 0) w
        have CT : Hid _ := C2.out wr 0 (by decide) (by decide) KH.out
        clear C2 hE
        go_wp2_with fail
        refine Calls.mono CT.out ?_
        rintro e W3 ⟨rfl, hb3⟩
        have v3 : Blk W3 vb (lookC b 0) 73 := Blk.below VH.out hv hb3
        have z3 : Blk W3 w.heap.size #[.int .i64 0, .int .i64 0, .int .i64 0, .int .i64 0, .int .i64 0] 73 := Blk.below ZH.out hz hb3
        have K3 : Blk W3 m (kc b) t := Blk.below KH.out (Blk.lt KH.out) hb3
        have hb3' : Below w.heap.size w W3 := hb2.trans (hb3.mono hb2.size)
        have c3 := v3.cell 0
        have f3 := v3.free 0
        have v4 := v3.set 0 (.int .i64 (bankB b 0))
        have z4 := z3.other hzv 0 (.int .i64 (bankB b 0))
        have K4 := K3.other hmv 0 (.int .i64 (bankB b 0))
        have hb4 : Below w.heap.size w (W3.setCell ⟨vb, 0, none⟩ (.int .i64 (bankB b 0))) := Below.setCell (p := ⟨vb, 0, none⟩) hb3' (by show w.heap.size ≤ vb; omega) _
        have c3' : W3.cell? ⟨vb, 0, none⟩ = some (.int .i64 0) := c3
        have VH4 : Hid _ := v4
        have ZH4 : Hid _ := z4
        have KH4 : Hid _ := K4
        have BH4 : Hid _ := hb4
        clear v3 z3 K3 hb3 hb3' CT KH ZH VH v4 z4 K4 hb4 c3 hb2
        go_wp2
        go_roundw
        case rel => exact ⟨1, by omega, by go_num, VH4.out, ZH4.out, KH4.out, BH4.out⟩
        case measure => simp [intOf]
      · have hE' := fun w => hE (.int .i64 1) w
        have CT : Hid _ := C2.out wr 1 (by decide) (by decide) KH.out
        clear C2 hE
        go_wp2_with fail
        refine Calls.mono CT.out ?_
        rintro e W3 ⟨rfl, hb3⟩
        have v3 : Blk W3 vb (lookC b 1) 73 := Blk.below VH.out hv hb3
        have z3 : Blk W3 w.heap.size #[.int .i64 0, .int .i64 0, .int .i64 0, .int .i64 0, .int .i64 0] 73 := Blk.below ZH.out hz hb3
        have K3 : Blk W3 m (kc b) t := Blk.below KH.out (Blk.lt KH.out) hb3
        have hb3' : Below w.heap.size w W3 := hb2.trans (hb3.mono hb2.size)
        have c3 := v3.cell 1
        have f3 := v3.free 1
        have v4 := v3.set 1 (.int .i64 (bankB b 1))
        have z4 := z3.other hzv 1 (.int .i64 (bankB b 1))
        have K4 := K3.other hmv 1 (.int .i64 (bankB b 1))
        have hb4 : Below w.heap.size w (W3.setCell ⟨vb, 1, none⟩ (.int .i64 (bankB b 1))) := Below.setCell (p := ⟨vb, 1, none⟩) hb3' (by show w.heap.size ≤ vb; omega) _
        have c3' : W3.cell? ⟨vb, 1, none⟩ = some (.int .i64 0) := c3
        have VH4 : Hid _ := v4
        have ZH4 : Hid _ := z4
        have KH4 : Hid _ := K4
        have BH4 : Hid _ := hb4
        clear v3 z3 K3 hb3 hb3' CT KH ZH VH v4 z4 K4 hb4 c3 hb2
        go_wp2
        go_roundw
        case rel => exact ⟨2, by omega, by go_num, VH4.out, ZH4.out, KH4.out, BH4.out⟩
        case measure => simp [intOf]
      · have hE' := fun w => hE (.int .i64 2) w
        have CT : Hid _ := C2.out wr 2 (by decide) (by decide) KH.out
        clear C2 hE
        go_wp2_with fail
        refine Calls.mono CT.out ?_
        rintro e W3 ⟨rfl, hb3⟩
        have v3 : Blk W3 vb (lookC b 2) 73 := Blk.below VH.out hv hb3
        have z3 : Blk W3 w.heap.size #[.int .i64 0, .int .i64 0, .int .i64 0, .int .i64 0, .int .i64 0] 73 := Blk.below ZH.out hz hb3
        have K3 : Blk W3 m (kc b) t := Blk.below KH.out (Blk.lt KH.out) hb3
        have hb3' : Below w.heap.size w W3 := hb2.trans (hb3.mono hb2.size)
        have c3 := v3.cell 2
        have f3 := v3.free 2
        have v4 := v3.set 2 (.int .i64 (bankB b 2))
        have z4 := z3.other hzv 2 (.int .i64 (bankB b 2))
        have K4 := K3.other hmv 2 (.int .i64 (bankB b 2))
        have hb4 : Below w.heap.size w (W3.setCell ⟨vb, 2, none⟩ (.int .i64 (bankB b 2))) := Below.setCell (p := ⟨vb, 2, none⟩) hb3' (by show w.heap.size ≤ vb; omega) _
        have c3' : W3.cell? ⟨vb, 2, none⟩ = some (.int .i64 0) := c3
        have VH4 : Hid _ := v4
        have ZH4 : Hid _ := z4
        have KH4 : Hid _ := K4
        have BH4 : Hid _ := hb4
        clear v3 z3 K3 hb3 hb3' CT KH ZH VH v4 z4 K4 hb4 c3 hb2
        go_wp2
        go_roundw
        case rel => exact ⟨3, by omega, by go_num, VH4.out, ZH4.out, KH4.out, BH4.out⟩
        case measure => simp [intOf]
      · have hE' := fun w => hE (.int .i64 3) w
        have CT : Hid _ := C2.out wr 3 (by decide) (by decide) KH.out
        clear C2 hE
        go_wp2_with fail
        refine Calls.mono CT.out ?_
        rintro e W3 ⟨rfl, hb3⟩
        have v3 : Blk W3 vb (lookC b 3) 73 := Blk.below VH.out hv hb3
        have z3 : Blk W3 w.heap.size #[.int .i64 0, .int .i64 0, .int .i64 0, .int .i64 0, .int .i64 0] 73 := Blk.below ZH.out hz hb3
        have K3 : Blk W3 m (kc b) t := Blk.below KH.out (Blk.lt KH.out) hb3
        have hb3' : Below w.heap.size w W3 := hb2.trans (hb3.mono hb2.size)
        have c3 := v3.cell 3
        have f3 := v3.free 3
        have v4 := v3.set 3 (.int .i64 (bankB b 3))
        have z4 := z3.other hzv 3 (.int .i64 (bankB b 3))
        have K4 := K3.other hmv 3 (.int .i64 (bankB b 3))
        have hb4 : Below w.heap.size w (W3.setCell ⟨vb, 3, none⟩ (.int .i64 (bankB b 3))) := Below.setCell (p := ⟨vb, 3, none⟩) hb3' (by show w.heap.size ≤ vb; omega) _
        have c3' : W3.cell? ⟨vb, 3, none⟩ = some (.int .i64 0) := c3
        have VH4 : Hid _ := v4
        have ZH4 : Hid _ := z4
        have KH4 : Hid _ := K4
        have BH4 : Hid _ := hb4
        clear v3 z3 K3 hb3 hb3' CT KH ZH VH v4 z4 K4 hb4 c3 hb2
        go_wp2
        go_roundw
        case rel => exact ⟨4, by omega, by go_num, VH4.out, ZH4.out, KH4.out, BH4.out⟩
        case measure => simp [intOf]
    · have hn4 : n = 4 := by omega
      subst hn4
      clear hlt hn
      have hR := v2.range
      go_wp2_with (first
        | (refine wpList_load_mid rfl 73 _ rfl vb 0 rfl (lookC b 4).toList _ hR Try.underlying73 rfl (by exact Try.infoView) ?_)
        | (refine wpList_store_mid rfl 73 _ _ rfl w.heap.size 0 (lookC b 4) rfl rfl (by exact z2.there _ rfl) (by exact Try.infoView) (by kernel_rfl) ?_))
      rw [VC.out]
      exact ret_agg (m := w.heap.size) (L := lookC b 4) Try.results40 (by rfl) (z2.setAll (lookC b 4) rfl) Try.underlying73 rfl Try.infoView ⟨rfl, setCells_below (Nat.le_refl _) _ _ _ _ hb2⟩
theorem Try.eq4 (w : World) (d : Nat) (a0 a1 a2 a3 c0 c1 c2 c3 : Int) :
    (Op.equalIn (d + 2) 57 (.agg #[.int .i64 a0, .int .i64 a1, .int .i64 a2, .int .i64 a3]) (.agg #[.int .i64 c0, .int .i64 c1, .int .i64 c2, .int .i64 c3])).run Try.prog w
      = .ok ((a0 == c0) && ((a1 == c1) && ((a2 == c2) && ((a3 == c3) && true)))) w := by
  obtain ⟨i, hi⟩ : ∃ i, Try.prog.info? 3 = some i := by
    cases h : Try.prog.info? 3 with
    | none => exact absurd (by kernel_rfl : (Try.prog.info? 3).isSome = true) (by simp [h])
    | some i => exact ⟨i, rfl⟩
  rw [run_equalIn_array w (d + 1) _ _ Try.underlying57 hi]
  have hu := fun (a b : Int) => run_equalIn_int (P := Try.prog) w d 3 .i64 .i64 a b Try.underlying3
  have hc : Try.prog.cellsOf 3 = 1 := by kernel_rfl
  have hr : List.range 4 = [0, 1, 2, 3] := rfl
  rw [hc, hr]
  iterate 4 refine eqItems_step w (by kernel_rfl) (by kernel_rfl) (hu _ _) ?_
  rfl
/-- Do two views look alike? -/
def alikeV (a b : Bd) : Bool := (bankB a 0 == bankB b 0) && ((bankB a 1 == bankB b 1) && ((bankB a 2 == bankB b 2) && ((bankB a 3 == bankB b 3) && true))) && ((ramB a == ramB b) && true)
theorem alikeV_eq (a b : Bd) : alikeV a b = alikeB b a := by
  unfold alikeV alikeB
  rw [Bool.eq_iff_iff]
  simp only [Bool.and_eq_true, beq_iff_eq, and_true]
  constructor
  · rintro ⟨⟨h0, h1, h2, h3⟩, h4⟩
    exact ⟨h4.symm, h0.symm, h1.symm, h2.symm, h3.symm⟩
  · rintro ⟨h4, h0, h1, h2, h3⟩
    exact ⟨⟨h0.symm, h1.symm, h2.symm, h3.symm⟩, h4.symm⟩
set_option maxRecDepth 100000 in
theorem Try.eqV0 (w : World) (a b : Bd) : (Op.equalIn 10000 73 (.agg (viewC a)) (.agg (viewC b))).run Try.prog w = .ok (alikeV a b) w := by
  have hi64 := fun (a b : Int) => run_equalIn_int (P := Try.prog) w 9998 3 .i64 .i64 a b Try.underlying3
  have h4 := Try.eq4 w 9997 (bankB a 0) (bankB a 1) (bankB a 2) (bankB a 3) (bankB b 0) (bankB b 1) (bankB b 2) (bankB b 3)
  rw [run_equalIn_struct w 9999 73 _ _ (by kernel_rfl) (by kernel_rfl)]
  simp only [Program.fieldsOf, Try.underlying73]
  refine eqFields_step w (by simp) (by kernel_rfl) (by kernel_rfl) h4 ?_
  refine eqFields_step w (by simp) (by kernel_rfl) (by kernel_rfl) (hi64 _ _) ?_
  rfl
theorem exec_neqV {ρ : Operand → Value} {o : Oper} {x y : Operand} {z : TypeId} {a b : Bd} {r : Bool} {w : World} (ho : o.op = .binOp .neq 73 x y z) (hx : ρ x = .agg (viewC a)) (hy : ρ y = .agg (viewC b)) (hr : (!alikeB b a) = r) : (execOp ρ o).run Try.prog w = .ok (.value (.bool r)) w := by
  obtain ⟨dst, o, ty, pos, after, guard⟩ := o
  simp only at ho
  subst ho
  rw [run_exec_binOp, hx, hy, run_eqGuard_agg w .neq 73 _ _ _ _ (by kernel_rfl), Result.andThen_ok, run_neq_struct, Try.eqV0 w a b, alikeV_eq, ← hr]
  rfl
end Go.Proofs.Ytggphgmpdanliaa
