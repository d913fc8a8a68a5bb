/-
  The contract of withMicros of package xlate.
-/
import Derived.Test.YtfdiplgjiidnbaaDoorXlMicS
set_option linter.unusedSimpArgs false
set_option linter.unusedVariables false
namespace Go.Proofs.YtfdiplgjiidnbaaDoor
open Go.RowKit Classical
theorem orow_type {w : World} {base s n q : Nat} {T T' : TypeId} {v : Value} {cells : List Value} {PC : Array Value} (h : w.ownsRow base T s v n cells) (P : Blk w q PC T') (hT : T ≠ T') : v.ownBlock ≠ some q := by
  intro e
  rcases h.2 with ⟨e', _⟩ | ⟨g', cap, cur, e', hb', hh, hr⟩
  · rw [e'] at e; cases e
  · rw [e'] at e
    cases e
    unfold Blk at P
    rw [hh] at P
    cases P
    exact hT rfl
/-- append of one micro-op that lies in a block just made; what else lies in memory stays. -/
theorem wpList_appMicK {ops : Array Oper} {rest : List Oper} {o : Oper} {a : Act} {Q : Exit → Act → World → Prop} (hgd : o.guard = none) (s x : Operand)
    (ho : o.op = .call { callee := .builtin .append, args := #[s, x], argTypes := #[25, 25] }) {cells : List Value} {n : Nat} {v : Value} {W w0 : World} {base : Nat} {cs : Array Value} (hown : W.ownsRow base 35 7 v n cells) (hb : Below base w0 W) (hbase : base ≤ W.heap.size)
    (hs : a.eval s = v) (hx : a.eval x = .slice (some ⟨W.heap.size, 0, none⟩) 1 1) (hcs : cs.size = 7) (h1 : ∀ u ∈ cs.toList, u.oneCell' = true) (hlm : n ≤ 1000000)
    (h : ∀ v' w', w'.ownsRow base 35 7 v' (n + 1) (cells ++ cs.toList) → Below base w0 w' → (∀ k, k < W.heap.size → v.ownBlock ≠ some k → w'.heap[k]? = W.heap[k]?) → wpList Tryd.prog ops Q rest (a.put o.dst v') w') : wpList Tryd.prog ops Q (o :: rest) a (W.alloc (.cells cs 35)) := by
  obtain ⟨i0, hi, hz0, hz1, hz2⟩ := info_parts Tryd.infoMicro
  have hB : Blk (W.alloc (.cells cs 35)) W.heap.size cs 35 := Blk.new W _ _
  refine wpList_append_own (W.alloc (.cells cs 35)) hgd s x 25 ho base 35 i0 _ 7 48 (by kernel_rfl) hi hz0 hz1 hz2 rfl (by decide) v n cells hs (World.ownsRow.alloc hown _) ⟨W.heap.size, 0, none⟩ 1 1 cs.toList hx (by rw [Array.length_toList, hcs]) ?_ h1 (by unfold maxLen; omega) (by omega) (by simp; omega) ?_
  · intro j u hu
    have := hB.cell j
    rw [← Array.getElem?_toList, hu] at this
    by_cases hj : j = 0
    · subst hj; simpa [Addr.add] using this
    · simpa [Addr.add, hj] using this
  · intro v' w' h1 h2 _
    have hb' : Below base w0 w' := (hb.alloc hbase _).grown h2 (by simp; omega) (fun k hk => by
      rcases hown.2 with ⟨h, _⟩ | ⟨g, cap, cur, e, hg, _⟩
      · rw [h] at hk; cases hk
      · rw [e] at hk; cases hk; exact hg)
    exact h v' w' h1 hb' fun k hk hne => (h2.block k (by simp; omega) (fun e => hne e.symm)).trans (Below.heap_alloc W _ k hk)
theorem orow_ne {w : World} {base s n m i : Nat} {T : TypeId} {v x : Value} {cells : List Value} (h : w.ownsRow base T s v n cells) (hm : ∀ g k, v = .slice (some ⟨g, 0, none⟩) n k → g ≠ m) : (w.setCell ⟨m, i, none⟩ x).ownsRow base T s v n cells := by
  obtain ⟨h1, h2⟩ := h
  refine ⟨h1, ?_⟩
  rcases h2 with h | ⟨g, cap, cur, e, hb', hh, hr⟩
  · exact .inl h
  · exact .inr ⟨g, cap, cur, e, hb', (Below.heap_setCell w ⟨m, i, none⟩ x g (hm g cap e)).trans hh, hr⟩
theorem orow_lt {w : World} {base s n m : Nat} {T : TypeId} {v : Value} {cells : List Value} (h : w.ownsRow base T s v n cells) (hm : w.heap.size ≤ m) : ∀ g k, v = .slice (some ⟨g, 0, none⟩) n k → g ≠ m := by
  intro g k e
  rcases h.2 with ⟨e', _⟩ | ⟨g', cap, cur, e', hb', hh, hr⟩
  · rw [e'] at e; cases e
  · rw [e'] at e; cases e
    have := (Array.getElem?_eq_some_iff.1 hh).1; omega
set_option maxRecDepth 100000 in
set_option maxHeartbeats 4000000 in
theorem wmicros_any (L : List Nat) (b o cap base : Nat) (p : Pc) (l : List Mic) (v : Value) (w : World) (h : Pok L p) (hl : l.length ≤ 1000) (hB : Byts L) (hC : Code w b o L) (hbb : b < base) (hR : Rtab w) (hbase : base ≤ w.heap.size) (R : w.ownsRow base 35 7 v l.length (mflat l)) :
    Calls Tryd.prog 23 #[v, .agg (p.cells b o cap)] w fun e w' => ∃ v', e = .returned v' ∧ w'.ownsRow base 35 7 v' (l ++ p.mics L).length (mflat (l ++ p.mics L)) ∧ Below base w w' := by
  have hlen := h.len
  have hk8 := h.k8
  have hl3 := ln_bd _ hk8
  have hat := h.at'
  obtain ⟨PC, hPC⟩ : ∃ PC, p.cells b o cap = PC := ⟨_, rfl⟩
  have OB : Hid (∀ W, Below base w W → Calls Tryd.prog 47 #[.agg PC] W fun e w' => e = .returned (.int .u16 ((p.opd L : Nat) : Int)) ∧ Below W.heap.size W w') := fun W hb => by
    rw [← hPC]
    exact operand_any p.op ((mdN p.k : Nat) : Int) ((kdN p.k : Nat) : Int) ((cyN p.k : Nat) : Int) ((clN p.k : Nat) : Int) ((p.at' : Nat) : Int) (lnN p.k) (L.getD (p.off + 1) 0) (L.getD (p.off + 2) 0) b (o + p.off) (cap - p.off) ((p.num : Nat) : Int) ((p.cyc : Nat) : Int) p.lv W (by omega) (fun _ => by rw [Nat.add_assoc]; exact hC.on hbb hb (p.off + 1) (by omega)) (fun _ => by rw [Nat.add_assoc]; exact hC.on hbb hb (p.off + 2) (by omega)) (hB.at _) (hB.at _)
  have TB : Hid (∀ W, Below base w W → lnN p.k = 2 → Calls Tryd.prog 48 #[.agg PC] W fun e w' => e = .returned (.int .u16 (p.tgt L)) ∧ Below W.heap.size W w') := fun W hb h2 => by
    rw [← hPC]
    unfold Pc.cells
    rw [h2]
    exact target_any p.op ((mdN p.k : Nat) : Int) ((kdN p.k : Nat) : Int) ((cyN p.k : Nat) : Int) ((clN p.k : Nat) : Int) ((p.at' : Nat) : Int) (L.getD (p.off + 1) 0) b (o + p.off) (cap - p.off) ((p.num : Nat) : Int) ((p.cyc : Nat) : Int) p.lv W (by rw [Nat.add_assoc]; exact hC.on hbb hb (p.off + 1) (by omega)) (hB.at _) (by omega) (by omega)
  have HS : Hid (PC.size = 11) := by unfold Hid; rw [← hPC]; rfl
  obtain ⟨RA, hRA⟩ : ∃ RA, rcA (mdN p.k) (kdN p.k) = RA := ⟨_, rfl⟩
  have RB : Hid (∀ W, Below w.heap.size w W → Calls Tryd.prog 46 #[.agg #[.int .i64 p.op, .int .i64 ((mdN p.k : Nat) : Int), .int .i64 ((kdN p.k : Nat) : Int), .int .i64 ((lnN p.k : Nat) : Int), .int .i64 ((cyN p.k : Nat) : Int), .int .i64 ((clN p.k : Nat) : Int)]] W fun e w' => e = .returned (.agg RA) ∧ Below W.heap.size W w') := fun W hb => by
    rw [← hRA]; exact recipe_any p.op ((lnN p.k : Nat) : Int) ((cyN p.k : Nat) : Int) ((clN p.k : Nat) : Int) (mdN p.k) (kdN p.k) (kd_bd _ hk8) W (hR.on hb)
  have IX : Hid (∀ m, m < 4 → ∀ W, Sem.run Tryd.prog (Instr.index 90 (.agg RA) (.int .i64 ((m : Nat) : Int))) W = .ok (.int .u8 ((p.rc m : Nat) : Int)) W) := fun m hm W => by
    rw [← hRA]
    rcases (show m = 0 ∨ m = 1 ∨ m = 2 ∨ m = 3 by omega) with rfl | rfl | rfl | rfl <;> kernel_rfl
  have RBD : Hid (∀ i, i < 4 → p.rc i ≤ 12 ∧ (p.rc i = 8 → lnN p.k = 2)) := fun i hi => rcp_bd p.k hk8 i hi
  clear hRA hC hR hB h hlen hl3 hat
  have y0 : PC[0]? = some (.int .i64 p.op) := by rw [← hPC]; rfl
  have y1 : PC[1]? = some (.int .i64 ((mdN p.k : Nat) : Int)) := by rw [← hPC]; rfl
  have y2 : PC[2]? = some (.int .i64 ((kdN p.k : Nat) : Int)) := by rw [← hPC]; rfl
  have y3 : PC[3]? = some (.int .i64 ((lnN p.k : Nat) : Int)) := by rw [← hPC]; rfl
  have y4 : PC[4]? = some (.int .i64 ((cyN p.k : Nat) : Int)) := by rw [← hPC]; rfl
  have y5 : PC[5]? = some (.int .i64 ((clN p.k : Nat) : Int)) := by rw [← hPC]; rfl
  have y8 : PC[8]? = some (.int .i64 ((p.num : Nat) : Int)) := by rw [← hPC]; rfl
  have y9 : PC[9]? = some (.int .i64 ((p.cyc : Nat) : Int)) := by rw [← hPC]; rfl
  have y10 : PC[10]? = some (.int .u8 p.lv) := by rw [← hPC]; rfl
  rw [hPC]
  clear hPC
  go_enter Tryd.func23, Tryd.ntmps23
  go_upto_region 1 with fail
  have P0 : Blk (w.alloc (.cells PC 56)) w.heap.size PC 56 := Blk.new w _ _
  have hb0 : Below w.heap.size w (w.alloc (.cells PC 56)) := (Below.refl _ _).alloc (Nat.le_refl _) _
  have R0 : (w.alloc (.cells PC 56)).ownsRow base 35 7 v l.length (mflat l) := World.ownsRow.alloc R _
  generalize w.alloc (.cells PC 56) = W0 at *
  clear R
  go_cut [10, 11] (fun z i wx => z = .agg RA ∧ i = .int .i64 0 ∧ Below W0.heap.size W0 wx)
  case first =>
    have x0 := (P0.cell 0).trans y0
    have x1 := (P0.cell 1).trans y1
    have x2 := (P0.cell 2).trans y2
    have x3 := (P0.cell 3).trans y3
    have x4 := (P0.cell 4).trans y4
    have x5 := (P0.cell 5).trans y5
    go_wp2_with (go_at_call 46; go_must (refine (RB.out _ hb0).mono ?_; rintro e w1 ⟨rfl, hb1⟩))
    go_meet
    exact ⟨rfl, rfl, hb1⟩
  case rest =>
  obtain ⟨rfl, rfl, hb1⟩ := hcut
  replace P0 := P0.below P0.lt hb1
  replace R0 := orow_keep R0 hb1
  replace hb0 := hb0.trans (hb1.mono hb0.size)
  clear hb1 RB y2 y3 y4 y5
  generalize wc = W1 at *
  go_upto_region 2 with fail
  go_loopw [0, 11] (fun x i wr => ∃ m : Nat, m ≤ 4 ∧ i = .int .i64 (m : Nat) ∧ (∀ j, j < m → p.rc j ≠ 0) ∧ wr.ownsRow base 35 7 x (l ++ p.first L m).length (mflat (l ++ p.first L m)) ∧ Blk wr w.heap.size PC 56 ∧ Below base w wr) (fun _ i _ => 4 - (intOf i).toNat)
  case atStart => exact ⟨0, by decide, rfl, fun j hj => absurd hj (by omega), by rw [show p.first L 0 = [] from rfl, List.append_nil]; exact R0, P0, hb0.mono hbase⟩
  case round =>
    clear R0 P0 hb0 W1 W0
    obtain ⟨m, hm, rfl, hz, R1, P1, hb1⟩ := hrel
    by_cases hm4 : m < 4
    · have ix := IX.out m hm4
      obtain ⟨r, hr⟩ : ∃ r, p.rc m = r := ⟨_, rfl⟩
      have HR : Hid (p.rc m = r) := hr
      rw [hr] at ix
      have r12 := (RBD.out m hm4).1
      have r8 := (RBD.out m hm4).2
      rw [hr] at r12 r8
      clear hr
      have hm4i : (m : Int) < 4 := by omega
      by_cases hr0 : r = 0
      · subst hr0
        have HF : Hid (p.mics L = p.first L m) := first_stop L p m hm4 hz HR.out
        clear hz
        go_wp2
        go_ret
        exact ⟨_, rfl, by rw [HF.out]; exact R1, hb1⟩
      · have t0 : ((r : Int) == 0) = false := by rw [beq_eq_false_iff_ne]; omega
        go_upto_region 5 with fail
        clear ix t0
        have x0 := (P1.cell 0).trans y0
        have x1 := (P1.cell 1).trans y1
        have x8 := (P1.cell 8).trans y8
        have x9 := (P1.cell 9).trans y9
        obtain ⟨op, hop⟩ : ∃ x, p.op = x := ⟨_, rfl⟩
        obtain ⟨md, hmd⟩ : ∃ x, mdN p.k = x := ⟨_, rfl⟩
        obtain ⟨num, hnum⟩ : ∃ x, p.num = x := ⟨_, rfl⟩
        obtain ⟨cyc, hcyc⟩ : ∃ x, p.cyc = x := ⟨_, rfl⟩
        have HOP : Hid ((p.op = op ∧ mdN p.k = md) ∧ p.num = num ∧ p.cyc = cyc) := ⟨⟨hop, hmd⟩, hnum, hcyc⟩
        rw [hop] at x0
        rw [hmd] at x1
        rw [hnum] at x8
        rw [hcyc] at x9
        clear hop hmd hnum hcyc
        go_cut [7] (fun z wx => ∃ nb, z = .pointer (some ⟨nb, 0, none⟩) ∧ Blk wx nb #[.int .u8 (r : Nat), .int .i64 op, .int .i64 (md : Nat), .int .u16 0, .int .u8 0, .int .i64 (num : Nat), .int .i64 (cyc : Nat)] 35 ∧ wx.ownsRow base 35 7 u0 (l ++ p.first L m).length (mflat (l ++ p.first L m)) ∧ Blk wx w.heap.size PC 56 ∧ Below base w wx ∧ (base ≤ nb ∧ w.heap.size ≠ nb) ∧ ∀ g k, u0 = .slice (some ⟨g, 0, none⟩) (l ++ p.first L m).length k → g ≠ nb)
        case first =>
          go_wp2
          go_meet
          exact ⟨_, rfl, Blk.new wr _ _, World.ownsRow.alloc R1 _, P1.old _, hb1.alloc (Nat.le_trans hbase (Nat.le_of_lt P1.lt)) _, ⟨Nat.le_trans hbase (Nat.le_of_lt P1.lt), by have := P1.lt; omega⟩, orow_lt R1 (Nat.le_refl _)⟩
        case rest =>
        clear R1 P1 hb1 x0 x1 x8 x9
        obtain ⟨nb, rfl, M1, R1, P1, hb1, hnb, hne⟩ := hcut
        generalize wc = W1 at *
        have HNE : Hid (∀ g k, u0 = .slice (some ⟨g, 0, none⟩) (l ++ p.first L m).length k → g ≠ nb) := hne
        clear hne
        go_upto_block 2 with fail
        go_cut [] (fun wx => Blk wx nb (p.mic L r).cells 35 ∧ wx.ownsRow base 35 7 u0 (l ++ p.first L m).length (mflat (l ++ p.first L m)) ∧ Blk wx w.heap.size PC 56 ∧ Below base w wx)
        case first =>
          rcases (show r = 1 ∨ r = 2 ∨ r = 3 ∨ r = 4 ∨ r = 5 ∨ r = 6 ∨ r = 7 ∨ r = 8 ∨ r = 9 ∨ r = 10 ∨ r = 11 ∨ r = 12 by omega) with rfl | rfl | rfl | rfl | rfl | rfl | rfl | rfl | rfl | rfl | rfl | rfl
          · have HM : Hid ((p.mic L 1).cells = #[.int .u8 ((1 : Nat) : Int), .int .i64 op, .int .i64 (md : Nat), .int .u16 ((p.opd L : Nat) : Int), .int .u8 0, .int .i64 (num : Nat), .int .i64 (cyc : Nat)]) := by
              unfold Hid; rw [← HOP.out.1.1, ← HOP.out.1.2, ← HOP.out.2.1, ← HOP.out.2.2]; rfl
            go_wp2_with (first
              | (refine wpList_load_mid rfl 56 _ rfl w.heap.size 0 rfl PC.toList _ P1.range' Tryd.underlying56 rfl (by rw [Array.length_toList, HS.out]; kernel_rfl) ?_; rw [Array.toArray_toList])
              | (go_at_call 47; go_must (refine (OB.out W1 hb1).mono ?_; rintro e W2 ⟨rfl, hb2⟩; have M2 := M1.below M1.lt hb2; have P2 := P1.below P1.lt hb2; have R2 := orow_keep R1 hb2; have hb2' := hb1.trans (hb2.mono (Nat.le_trans hbase (Nat.le_of_lt P1.lt))); have d3 : W2.cell? ⟨nb, 3, none⟩ = some (.int .u16 0) := M2.cell 3; have f3 := M2.free 3)))
            go_meet
            rw [HM.out]
            exact ⟨M2.set 3 _, orow_ne R2 HNE.out, P2.other hnb.2 3 _, hb2'.setCell (p := ⟨nb, 3, none⟩) hnb.1 _⟩
          · have HM : Hid ((p.mic L 2).cells = #[.int .u8 ((2 : Nat) : Int), .int .i64 op, .int .i64 (md : Nat), .int .u16 0, .int .u8 0, .int .i64 (num : Nat), .int .i64 (cyc : Nat)]) := by
              unfold Hid; rw [← HOP.out.1.1, ← HOP.out.1.2, ← HOP.out.2.1, ← HOP.out.2.2]; rfl
            go_wp2
            go_meet
            rw [HM.out]
            exact ⟨M1, R1, P1, hb1⟩
          · have HM : Hid ((p.mic L 3).cells = #[.int .u8 ((3 : Nat) : Int), .int .i64 op, .int .i64 (md : Nat), .int .u16 ((p.opd L : Nat) : Int), .int .u8 0, .int .i64 (num : Nat), .int .i64 (cyc : Nat)]) := by
              unfold Hid; rw [← HOP.out.1.1, ← HOP.out.1.2, ← HOP.out.2.1, ← HOP.out.2.2]; rfl
            go_wp2_with (first
              | (refine wpList_load_mid rfl 56 _ rfl w.heap.size 0 rfl PC.toList _ P1.range' Tryd.underlying56 rfl (by rw [Array.length_toList, HS.out]; kernel_rfl) ?_; rw [Array.toArray_toList])
              | (go_at_call 47; go_must (refine (OB.out W1 hb1).mono ?_; rintro e W2 ⟨rfl, hb2⟩; have M2 := M1.below M1.lt hb2; have P2 := P1.below P1.lt hb2; have R2 := orow_keep R1 hb2; have hb2' := hb1.trans (hb2.mono (Nat.le_trans hbase (Nat.le_of_lt P1.lt))); have d3 : W2.cell? ⟨nb, 3, none⟩ = some (.int .u16 0) := M2.cell 3; have f3 := M2.free 3)))
            go_meet
            rw [HM.out]
            exact ⟨M2.set 3 _, orow_ne R2 HNE.out, P2.other hnb.2 3 _, hb2'.setCell (p := ⟨nb, 3, none⟩) hnb.1 _⟩
          · have HM : Hid ((p.mic L 4).cells = #[.int .u8 ((4 : Nat) : Int), .int .i64 op, .int .i64 (md : Nat), .int .u16 0, .int .u8 p.lv, .int .i64 (num : Nat), .int .i64 (cyc : Nat)]) := by
              unfold Hid; rw [← HOP.out.1.1, ← HOP.out.1.2, ← HOP.out.2.1, ← HOP.out.2.2]; rfl
            have x10 := (P1.cell 10).trans y10
            have d4 : W1.cell? ⟨nb, 4, none⟩ = some (.int .u8 0) := M1.cell 4
            have f4 := M1.free 4
            go_wp2
            go_meet
            rw [HM.out]
            exact ⟨M1.set 4 _, orow_ne R1 HNE.out, P1.other hnb.2 4 _, hb1.setCell (p := ⟨nb, 4, none⟩) hnb.1 _⟩
          · have HM : Hid ((p.mic L 5).cells = #[.int .u8 ((5 : Nat) : Int), .int .i64 op, .int .i64 (md : Nat), .int .u16 0, .int .u8 0, .int .i64 (num : Nat), .int .i64 (cyc : Nat)]) := by
              unfold Hid; rw [← HOP.out.1.1, ← HOP.out.1.2, ← HOP.out.2.1, ← HOP.out.2.2]; rfl
            go_wp2
            go_meet
            rw [HM.out]
            exact ⟨M1, R1, P1, hb1⟩
          · have HM : Hid ((p.mic L 6).cells = #[.int .u8 ((6 : Nat) : Int), .int .i64 op, .int .i64 (md : Nat), .int .u16 0, .int .u8 0, .int .i64 (num : Nat), .int .i64 (cyc : Nat)]) := by
              unfold Hid; rw [← HOP.out.1.1, ← HOP.out.1.2, ← HOP.out.2.1, ← HOP.out.2.2]; rfl
            go_wp2
            go_meet
            rw [HM.out]
            exact ⟨M1, R1, P1, hb1⟩
          · have HM : Hid ((p.mic L 7).cells = #[.int .u8 ((7 : Nat) : Int), .int .i64 op, .int .i64 (md : Nat), .int .u16 0, .int .u8 0, .int .i64 (num : Nat), .int .i64 (cyc : Nat)]) := by
              unfold Hid; rw [← HOP.out.1.1, ← HOP.out.1.2, ← HOP.out.2.1, ← HOP.out.2.2]; rfl
            go_wp2
            go_meet
            rw [HM.out]
            exact ⟨M1, R1, P1, hb1⟩
          · have HM : Hid ((p.mic L 8).cells = #[.int .u8 ((8 : Nat) : Int), .int .i64 op, .int .i64 (md : Nat), .int .u16 (p.tgt L), .int .u8 0, .int .i64 (num : Nat), .int .i64 (cyc : Nat)]) := by
              unfold Hid; rw [← HOP.out.1.1, ← HOP.out.1.2, ← HOP.out.2.1, ← HOP.out.2.2]; rfl
            go_wp2_with (first
              | (refine wpList_load_mid rfl 56 _ rfl w.heap.size 0 rfl PC.toList _ P1.range' Tryd.underlying56 rfl (by rw [Array.length_toList, HS.out]; kernel_rfl) ?_; rw [Array.toArray_toList])
              | (go_at_call 48; go_must (refine (TB.out W1 hb1 (r8 rfl)).mono ?_; rintro e W2 ⟨rfl, hb2⟩; have M2 := M1.below M1.lt hb2; have P2 := P1.below P1.lt hb2; have R2 := orow_keep R1 hb2; have hb2' := hb1.trans (hb2.mono (Nat.le_trans hbase (Nat.le_of_lt P1.lt))); have d3 : W2.cell? ⟨nb, 3, none⟩ = some (.int .u16 0) := M2.cell 3; have f3 := M2.free 3)))
            go_meet
            rw [HM.out]
            exact ⟨M2.set 3 _, orow_ne R2 HNE.out, P2.other hnb.2 3 _, hb2'.setCell (p := ⟨nb, 3, none⟩) hnb.1 _⟩
          · have HM : Hid ((p.mic L 9).cells = #[.int .u8 ((9 : Nat) : Int), .int .i64 op, .int .i64 (md : Nat), .int .u16 ((p.opd L : Nat) : Int), .int .u8 0, .int .i64 (num : Nat), .int .i64 (cyc : Nat)]) := by
              unfold Hid; rw [← HOP.out.1.1, ← HOP.out.1.2, ← HOP.out.2.1, ← HOP.out.2.2]; rfl
            go_wp2_with (first
              | (refine wpList_load_mid rfl 56 _ rfl w.heap.size 0 rfl PC.toList _ P1.range' Tryd.underlying56 rfl (by rw [Array.length_toList, HS.out]; kernel_rfl) ?_; rw [Array.toArray_toList])
              | (go_at_call 47; go_must (refine (OB.out W1 hb1).mono ?_; rintro e W2 ⟨rfl, hb2⟩; have M2 := M1.below M1.lt hb2; have P2 := P1.below P1.lt hb2; have R2 := orow_keep R1 hb2; have hb2' := hb1.trans (hb2.mono (Nat.le_trans hbase (Nat.le_of_lt P1.lt))); have d3 : W2.cell? ⟨nb, 3, none⟩ = some (.int .u16 0) := M2.cell 3; have f3 := M2.free 3)))
            go_meet
            rw [HM.out]
            exact ⟨M2.set 3 _, orow_ne R2 HNE.out, P2.other hnb.2 3 _, hb2'.setCell (p := ⟨nb, 3, none⟩) hnb.1 _⟩
          · have HM : Hid ((p.mic L 10).cells = #[.int .u8 ((10 : Nat) : Int), .int .i64 op, .int .i64 (md : Nat), .int .u16 ((p.opd L : Nat) : Int), .int .u8 0, .int .i64 (num : Nat), .int .i64 (cyc : Nat)]) := by
              unfold Hid; rw [← HOP.out.1.1, ← HOP.out.1.2, ← HOP.out.2.1, ← HOP.out.2.2]; rfl
            go_wp2_with (first
              | (refine wpList_load_mid rfl 56 _ rfl w.heap.size 0 rfl PC.toList _ P1.range' Tryd.underlying56 rfl (by rw [Array.length_toList, HS.out]; kernel_rfl) ?_; rw [Array.toArray_toList])
              | (go_at_call 47; go_must (refine (OB.out W1 hb1).mono ?_; rintro e W2 ⟨rfl, hb2⟩; have M2 := M1.below M1.lt hb2; have P2 := P1.below P1.lt hb2; have R2 := orow_keep R1 hb2; have hb2' := hb1.trans (hb2.mono (Nat.le_trans hbase (Nat.le_of_lt P1.lt))); have d3 : W2.cell? ⟨nb, 3, none⟩ = some (.int .u16 0) := M2.cell 3; have f3 := M2.free 3)))
            go_meet
            rw [HM.out]
            exact ⟨M2.set 3 _, orow_ne R2 HNE.out, P2.other hnb.2 3 _, hb2'.setCell (p := ⟨nb, 3, none⟩) hnb.1 _⟩
          · have HM : Hid ((p.mic L 11).cells = #[.int .u8 ((11 : Nat) : Int), .int .i64 op, .int .i64 (md : Nat), .int .u16 ((p.opd L : Nat) : Int), .int .u8 0, .int .i64 (num : Nat), .int .i64 (cyc : Nat)]) := by
              unfold Hid; rw [← HOP.out.1.1, ← HOP.out.1.2, ← HOP.out.2.1, ← HOP.out.2.2]; rfl
            go_wp2_with (first
              | (refine wpList_load_mid rfl 56 _ rfl w.heap.size 0 rfl PC.toList _ P1.range' Tryd.underlying56 rfl (by rw [Array.length_toList, HS.out]; kernel_rfl) ?_; rw [Array.toArray_toList])
              | (go_at_call 47; go_must (refine (OB.out W1 hb1).mono ?_; rintro e W2 ⟨rfl, hb2⟩; have M2 := M1.below M1.lt hb2; have P2 := P1.below P1.lt hb2; have R2 := orow_keep R1 hb2; have hb2' := hb1.trans (hb2.mono (Nat.le_trans hbase (Nat.le_of_lt P1.lt))); have d3 : W2.cell? ⟨nb, 3, none⟩ = some (.int .u16 0) := M2.cell 3; have f3 := M2.free 3)))
            go_meet
            rw [HM.out]
            exact ⟨M2.set 3 _, orow_ne R2 HNE.out, P2.other hnb.2 3 _, hb2'.setCell (p := ⟨nb, 3, none⟩) hnb.1 _⟩
          · have HM : Hid ((p.mic L 12).cells = #[.int .u8 ((12 : Nat) : Int), .int .i64 op, .int .i64 (md : Nat), .int .u16 0, .int .u8 0, .int .i64 (num : Nat), .int .i64 (cyc : Nat)]) := by
              unfold Hid; rw [← HOP.out.1.1, ← HOP.out.1.2, ← HOP.out.2.1, ← HOP.out.2.2]; rfl
            go_wp2
            go_meet
            rw [HM.out]
            exact ⟨M1, R1, P1, hb1⟩
        case rest =>
        clear M1 R1 P1 hb1 HNE
        obtain ⟨M1, R1, P1, hb1⟩ := hcut
        generalize wc = W2 at *
        have HF : Hid (p.first L (m + 1) = p.first L m ++ [p.mic L r]) := by unfold Hid; rw [first_succ L p m hm4, HR.out]
        have hfl := first_len L p m
        obtain ⟨ar, har⟩ : ∃ x, p.arg L r = x := ⟨_, rfl⟩
        obtain ⟨fl, hfg⟩ : ∃ x, (if r = 4 then p.lv else 0) = x := ⟨_, rfl⟩
        have HMC : Hid ((p.mic L r).cells = #[.int .u8 (r : Nat), .int .i64 op, .int .i64 (md : Nat), .int .u16 ar, .int .u8 fl, .int .i64 (num : Nat), .int .i64 (cyc : Nat)]) := by
          unfold Hid; rw [← HOP.out.1.1, ← HOP.out.1.2, ← HOP.out.2.1, ← HOP.out.2.2, ← har, ← hfg]; rfl
        rw [HMC.out] at M1
        clear har hfg
        have HRO : Hid (W2.ownsRow base 35 7 u0 (l ++ p.first L m).length (mflat (l ++ p.first L m))) := R1
        have hbs : base ≤ W2.heap.size := Nat.le_trans hbase (Nat.le_of_lt P1.lt)
        have HLL : Hid ((l ++ p.first L m).length ≤ 1000000) := by unfold Hid; rw [List.length_append]; omega
        clear R1 hfl
        go_upto_region 17 with fail
        go_wp2_with (first
          | (refine wpList_load_blk rfl 35 _ rfl nb rfl #[.int .u8 (r : Nat), .int .i64 op, .int .i64 (md : Nat), .int .u16 ar, .int .u8 fl, .int .i64 (num : Nat), .int .i64 (cyc : Nat)] _ M1 Tryd.underlying35 rfl (by kernel_rfl) ?_)
          | (at_builtin; refine wpList_appMicK rfl _ _ rfl HRO.out (Below.refl _ _) hbs rfl rfl (cs := #[.int .u8 (r : Nat), .int .i64 op, .int .i64 (md : Nat), .int .u16 ar, .int .u8 fl, .int .i64 (num : Nat), .int .i64 (cyc : Nat)]) rfl (List.all_eq_true.1 rfl) HLL.out ?_; intro v' Wx hux hbx hkx; have hbx' := hb1.trans hbx; have P2 : Blk Wx w.heap.size PC 56 := (hkx w.heap.size P1.lt (orow_type HRO.out P1 (by decide))).trans P1; have HUX : Hid (Wx.ownsRow base 35 7 v' ((l ++ p.first L m).length + 1) (mflat (l ++ p.first L m) ++ (#[.int .u8 (r : Nat), .int .i64 op, .int .i64 (md : Nat), .int .u16 ar, .int .u8 fl, .int .i64 (num : Nat), .int .i64 (cyc : Nat)] : Array Value).toList)) := hux; clear hux hkx hbx))
        go_roundw
        case rel => exact ⟨m + 1, by omega, by go_num, fun j hj => by
          rcases (show j < m ∨ j = m by omega) with h | h
          · exact hz j h
          · rw [h, HR.out]; exact hr0, by rw [HF.out, ← List.append_assoc, mflat_snoc, List.length_append, HMC.out]; exact HUX.out, P2, hbx'⟩
        case measure => simp [intOf]; omega
    · obtain rfl : m = 4 := by omega
      have HF : Hid (p.mics L = p.first L 4) := first_all L p hz
      clear hz
      go_wp2
      go_ret
      exact ⟨_, rfl, by rw [HF.out]; exact R1, hb1⟩
end Go.Proofs.YtfdiplgjiidnbaaDoor
