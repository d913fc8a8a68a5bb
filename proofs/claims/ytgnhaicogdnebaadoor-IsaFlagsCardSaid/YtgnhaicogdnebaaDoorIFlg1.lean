/-
  The law IsaFlags by what its calls answer, at a flag that isn't read.
-/
import Derived.Test.YtgnhaicogdnebaaDoorIFlg0
set_option linter.unusedSimpArgs false
set_option linter.unusedVariables false
namespace Go.Proofs.YtgnhaicogdnebaaDoor
open Go.RowKit
theorem belowDrewN {w : World} (n : Nat) : Below w.heap.size w (w.drewN n) := ⟨rfl, rfl, rfl, Nat.le_refl _, fun _ _ => rfl⟩
set_option maxRecDepth 100000 in
set_option maxHeartbeats 4000000 in
theorem law_flags1 (k : Nat) (o : Int) (md kd ln nl cl : Nat) (a x y s m n f rd sd x105 o0 o1 o2 o3 o4 o5 r4 : Int) (F G : Fl) (w : World) (T : Tabs w)
    (hf : 2 ^ (n % 8).toNat % 256 = f) (n0 : 0 ≤ n) (n1 : n ≤ 255) (hx : bits .xor .u8 (F.val : Nat) f = (G.val : Nat))
    (hD : Hid (∀ W, Calls Tryd.prog 4 #[.int .u8 (k : Nat)] W fun e w' => e = .returned (.agg #[.int .i64 o, .int .i64 (md : Nat), .int .i64 (kd : Nat), .int .i64 (ln : Nat), .int .i64 (nl : Nat), .int .i64 (cl : Nat)]) ∧ Below W.heap.size W w'))
    (hFl : Hid (∀ W, Tabs W → Calls Tryd.prog 5 #[.int .u8 (k : Nat)] W fun e w' => e = .returned (.tuple #[.int .u8 rd, .int .u8 sd]) ∧ w' = W))
    (h105 : Hid (∀ W, Tabs W → Calls Tryd.prog 5 #[.int .u8 105] W fun e w' => e = .returned (.tuple #[.int .u8 9, .int .u8 x105]) ∧ w' = W))
    (h42 : Hid (∀ W, Tabs W → Calls Tryd.prog 5 #[.int .u8 42] W fun e w' => e = .returned (.tuple #[.int .u8 1, .int .u8 131]) ∧ w' = W))
    (hA : Hid (∀ W, STab W → Calls Tryd.prog 6 #[.agg #[.int .i64 o, .int .i64 (md : Nat), .int .i64 (kd : Nat), .int .i64 (ln : Nat), .int .i64 (nl : Nat), .int .i64 (cl : Nat)], .agg #[.int .u8 a, .int .u8 x, .int .u8 y, .int .u8 s, .int .u8 (F.val : Nat), .int .u8 m]] W fun e w' => e = .returned (.agg #[.int .u8 o0, .int .u8 o1, .int .u8 o2, .int .u8 o3, .int .u8 o4, .int .u8 o5]) ∧ Below W.heap.size W w'))
    (hB : Hid (∀ W, STab W → Calls Tryd.prog 6 #[.agg #[.int .i64 o, .int .i64 (md : Nat), .int .i64 (kd : Nat), .int .i64 (ln : Nat), .int .i64 (nl : Nat), .int .i64 (cl : Nat)], .agg #[.int .u8 a, .int .u8 x, .int .u8 y, .int .u8 s, .int .u8 (G.val : Nat), .int .u8 m]] W fun e w' => e = .returned (.agg #[.int .u8 o0, .int .u8 o1, .int .u8 o2, .int .u8 o3, .int .u8 r4, .int .u8 o5]) ∧ Below W.heap.size W w'))
    (hK1 : bits .andNot .u8 o4 sd = bits .andNot .u8 (F.val : Nat) sd) (hK2 : bits .andNot .u8 r4 sd = bits .andNot .u8 (G.val : Nat) sd)
    (hN : (bits .and .u8 rd f != 0) = false) (hT : tk o (F.val : Nat) = tk o (G.val : Nat))
    (hX : Hid ((bits .and .u8 sd f != 0) = false → bits .xor .u8 o4 r4 = f)) (hY : Hid ((bits .and .u8 sd f != 0) = true → r4 = o4)) :
    Calls Tryd.prog 3 #[.int .u8 (k : Nat), .agg #[.int .u8 a, .int .u8 x, .int .u8 y, .int .u8 s, .int .u8 (F.val : Nat), .int .u8 m], .int .u8 n] w fun e w' => e = .returned (.bool true) ∧ Below w.heap.size w w' := by
  go_enter Tryd.func3, Tryd.ntmps3
  go_upto_region 1 with fail
  have B0 := Blk.new w #[.int .u8 a, .int .u8 x, .int .u8 y, .int .u8 s, .int .u8 (F.val : Nat), .int .u8 m] 23
  go_cut [7] (fun q wx => ∃ bi : Nat, q = .pointer (some ⟨bi, 0, none⟩) ∧ w.heap.size < bi ∧ Blk wx w.heap.size #[.int .u8 a, .int .u8 x, .int .u8 y, .int .u8 s, .int .u8 (F.val : Nat), .int .u8 m] 23 ∧ Blk wx bi #[.int .i64 o, .int .i64 (md : Nat), .int .i64 (kd : Nat), .int .i64 (ln : Nat), .int .i64 (nl : Nat), .int .i64 (cl : Nat)] 28 ∧ Below w.heap.size w wx)
  case first =>
    go_wp2_with (go_at_call 4; go_must (refine (hD.out _).mono ?_; rintro e w1 ⟨rfl, hb1⟩))
    go_meet
    have k0 := B0.below B0.lt hb1
    have kw := ((Below.refl w.heap.size w).alloc (Nat.le_refl _) (.cells #[.int .u8 a, .int .u8 x, .int .u8 y, .int .u8 s, .int .u8 (F.val : Nat), .int .u8 m] 23)).trans (hb1.mono (by simp))
    exact ⟨_, rfl, k0.lt, k0.old _, Blk.new _ _ _, kw.alloc kw.size _⟩
  case rest =>
  clear B0
  obtain ⟨bi, rfl, hbi, B0, B1, hw⟩ := hcut
  have Tx := T.on hw
  go_upto_region 4 with (go_at_call 5; go_must (refine (hFl.out _ Tx).mono ?_; rintro e w' ⟨rfl, hw6⟩; obtain rfl := hw6.symm))
  rw [hf]
  have c0 := B0.cell
  have f0 := B0.free
  have l0 := B0.lt
  have c1 := B1.cell
  have f1 := B1.free
  have l1 := B1.lt
  go_cut [11] (fun q wx => ∃ bf : Nat, q = .pointer (some ⟨bf, 0, none⟩) ∧ bi < bf ∧ Blk wx w.heap.size #[.int .u8 a, .int .u8 x, .int .u8 y, .int .u8 s, .int .u8 (F.val : Nat), .int .u8 m] 23 ∧ Blk wx bi #[.int .i64 o, .int .i64 (md : Nat), .int .i64 (kd : Nat), .int .i64 (ln : Nat), .int .i64 (nl : Nat), .int .i64 (cl : Nat)] 28 ∧ Blk wx bf #[.int .u8 o0, .int .u8 o1, .int .u8 o2, .int .u8 o3, .int .u8 o4, .int .u8 o5] 23 ∧ Below w.heap.size w wx)
  case first =>
    go_wp2_with (go_at_call 6; go_must (refine (hA.out _ Tx.s).mono ?_; rintro e w1 ⟨rfl, hb1⟩))
    go_meet
    have k0 := B0.below B0.lt hb1
    have k1 := B1.below B1.lt hb1
    have kw := hw.trans (hb1.mono hw.size)
    exact ⟨_, rfl, k1.lt, k0.old _, k1.old _, Blk.new _ _ _, kw.alloc kw.size _⟩
  case rest =>
  clear B0 c0 f0 l0 B1 c1 f1 l1 hw
  clear Tx hA
  obtain ⟨bf, rfl, hbf, B0, B1, B2, hw⟩ := hcut
  have c0 := B0.cell
  have f0 := B0.free
  have l0 := B0.lt
  have c1 := B1.cell
  have f1 := B1.free
  have l1 := B1.lt
  have c2 := B2.cell
  have f2 := B2.free
  have l2 := B2.lt
  go_upto_region 5 with fail
  go_cut [12] (fun q wx => ∃ bb : Nat, q = .pointer (some ⟨bb, 0, none⟩) ∧ bf < bb ∧ Blk wx w.heap.size #[.int .u8 a, .int .u8 x, .int .u8 y, .int .u8 s, .int .u8 (F.val : Nat), .int .u8 m] 23 ∧ Blk wx bi #[.int .i64 o, .int .i64 (md : Nat), .int .i64 (kd : Nat), .int .i64 (ln : Nat), .int .i64 (nl : Nat), .int .i64 (cl : Nat)] 28 ∧ Blk wx bf #[.int .u8 o0, .int .u8 o1, .int .u8 o2, .int .u8 o3, .int .u8 o4, .int .u8 o5] 23 ∧ Blk wx bb #[.int .u8 a, .int .u8 x, .int .u8 y, .int .u8 s, .int .u8 (F.val : Nat), .int .u8 m] 23 ∧ Below w.heap.size w wx)
  case first =>
    go_wp2
    go_meet
    exact ⟨_, rfl, l2, B0.old _, B1.old _, B2.old _, Blk.new _ _ _, hw.alloc hw.size _⟩
  case rest =>
  clear B0 c0 f0 l0 B1 c1 f1 l1 B2 c2 f2 l2 hw
  obtain ⟨bb, rfl, hbb, B0, B1, B2, B3, hw⟩ := hcut
  have c0 := B0.cell
  have f0 := B0.free
  have l0 := B0.lt
  have c1 := B1.cell
  have f1 := B1.free
  have l1 := B1.lt
  have c2 := B2.cell
  have f2 := B2.free
  have l2 := B2.lt
  have c3 := B3.cell
  have f3 := B3.free
  have l3 := B3.lt
  go_upto_region 6 with fail
  go_cut [] (fun wx => Blk wx w.heap.size #[.int .u8 a, .int .u8 x, .int .u8 y, .int .u8 s, .int .u8 (F.val : Nat), .int .u8 m] 23 ∧ Blk wx bi #[.int .i64 o, .int .i64 (md : Nat), .int .i64 (kd : Nat), .int .i64 (ln : Nat), .int .i64 (nl : Nat), .int .i64 (cl : Nat)] 28 ∧ Blk wx bf #[.int .u8 o0, .int .u8 o1, .int .u8 o2, .int .u8 o3, .int .u8 o4, .int .u8 o5] 23 ∧ Blk wx bb #[.int .u8 a, .int .u8 x, .int .u8 y, .int .u8 s, .int .u8 (G.val : Nat), .int .u8 m] 23 ∧ Below w.heap.size w wx)
  case first =>
    go_wp2
    go_meet
    exact ⟨B0.other (by omega) _ _, B1.other (by omega) _ _, B2.other (by omega) _ _, B3.set 4 _, hw.setCell (by show w.heap.size ≤ bb; omega) _⟩
  case rest =>
  clear B0 c0 f0 l0 B1 c1 f1 l1 B2 c2 f2 l2 B3 c3 f3 l3 hw
  clear hx
  obtain ⟨B0, B1, B2, B3, hw⟩ := hcut
  have Tx := T.on hw
  have c0 := B0.cell
  have f0 := B0.free
  have l0 := B0.lt
  have c1 := B1.cell
  have f1 := B1.free
  have l1 := B1.lt
  have c2 := B2.cell
  have f2 := B2.free
  have l2 := B2.lt
  have c3 := B3.cell
  have f3 := B3.free
  have l3 := B3.lt
  go_upto_region 7 with fail
  go_cut [13] (fun q wx => ∃ bo : Nat, q = .pointer (some ⟨bo, 0, none⟩) ∧ bb < bo ∧ Blk wx w.heap.size #[.int .u8 a, .int .u8 x, .int .u8 y, .int .u8 s, .int .u8 (F.val : Nat), .int .u8 m] 23 ∧ Blk wx bi #[.int .i64 o, .int .i64 (md : Nat), .int .i64 (kd : Nat), .int .i64 (ln : Nat), .int .i64 (nl : Nat), .int .i64 (cl : Nat)] 28 ∧ Blk wx bf #[.int .u8 o0, .int .u8 o1, .int .u8 o2, .int .u8 o3, .int .u8 o4, .int .u8 o5] 23 ∧ Blk wx bb #[.int .u8 a, .int .u8 x, .int .u8 y, .int .u8 s, .int .u8 (G.val : Nat), .int .u8 m] 23 ∧ Blk wx bo #[.int .u8 o0, .int .u8 o1, .int .u8 o2, .int .u8 o3, .int .u8 r4, .int .u8 o5] 23 ∧ Below w.heap.size w wx)
  case first =>
    go_wp2_with (go_at_call 6; go_must (refine (hB.out _ Tx.s).mono ?_; rintro e w1 ⟨rfl, hb1⟩))
    go_meet
    have k0 := B0.below B0.lt hb1
    have k1 := B1.below B1.lt hb1
    have k2 := B2.below B2.lt hb1
    have k3 := B3.below B3.lt hb1
    have kw := hw.trans (hb1.mono hw.size)
    exact ⟨_, rfl, k3.lt, k0.old _, k1.old _, k2.old _, k3.old _, Blk.new _ _ _, kw.alloc kw.size _⟩
  case rest =>
  clear B0 c0 f0 l0 B1 c1 f1 l1 B2 c2 f2 l2 B3 c3 f3 l3 hw
  clear Tx hB
  obtain ⟨bo, rfl, hbo, B0, B1, B2, B3, B4, hw⟩ := hcut
  have Tx := T.on hw
  have c0 := B0.cell
  have f0 := B0.free
  have l0 := B0.lt
  have c1 := B1.cell
  have f1 := B1.free
  have l1 := B1.lt
  have c2 := B2.cell
  have f2 := B2.free
  have l2 := B2.lt
  have c3 := B3.cell
  have f3 := B3.free
  have l3 := B3.lt
  have c4 := B4.cell
  have f4 := B4.free
  have l4 := B4.lt
  go_upto_region 10 with fail
  clear hK1 hK2
  go_upto_region 14 with (first
    | (go_at_call_of 5 (Value.int .u8 105); go_must (refine (h105.out _ Tx).mono ?_; rintro e w' ⟨rfl, hw6⟩; obtain rfl := hw6.symm))
    | (go_at_call_of 5 (Value.int .u8 42); go_must (refine (h42.out _ Tx).mono ?_; rintro e w' ⟨rfl, hw6⟩; obtain rfl := hw6.symm)))
  have Q1 := fun nn : Nat => taken_any o (F.val : Nat) _ (Tx.on (belowDrewN nn))
  have Q2 := fun nn : Nat => taken_any o (G.val : Nat) _ (Tx.on (belowDrewN nn))
  rw [hT] at Q1
  generalize tk o (G.val : Nat) = tb at *
  replace Q1 := hidI Q1
  replace Q2 := hidI Q2
  clear Tx T hT
  go_upto_region 16 with fail
  go_quiet (first
    | (go_at_call_of 7 (Value.int .u8 (F.val : Nat)); exact Calls.quiet_of_same (Q1.out _))
    | (go_at_call_of 7 (Value.int .u8 (G.val : Nat)); exact Calls.quiet_of_same (Q2.out _)))
  clear Q1 Q2 c0 f0 l0 c1 f1 l1 c2 f2 l2 c3 f3 l3 c4 f4 l4 B0 B1 B3
  replace B2 : Blk (wc.drewN nq) bf #[.int .u8 o0, .int .u8 o1, .int .u8 o2, .int .u8 o3, .int .u8 o4, .int .u8 o5] 23 := B2
  replace B4 : Blk (wc.drewN nq) bo #[.int .u8 o0, .int .u8 o1, .int .u8 o2, .int .u8 o3, .int .u8 r4, .int .u8 o5] 23 := B4
  replace hw : Below w.heap.size w (wc.drewN nq) := hw.trans ⟨rfl, rfl, rfl, Nat.le_refl _, fun _ _ => rfl⟩
  generalize wc.drewN nq = wd at *
  have c2 := B2.cell
  have f2 := B2.free
  have l2 := B2.lt
  have c4 := B4.cell
  have f4 := B4.free
  have l4 := B4.lt
  go_upto_region 20 with fail
  cases hS : (bits .and .u8 sd f != 0)
  · have e4 := hX.out hS
    go_wp2
    go_ret
    exact ⟨rfl, hw⟩
  · obtain rfl := hY.out hS
    go_wp2
    go_ret
    exact ⟨rfl, hw⟩
end Go.Proofs.YtgnhaicogdnebaaDoor
