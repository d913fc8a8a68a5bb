/-
  The contract of cut of package xlate.
-/
import Derived.Test.YtfdiplgjiidnbaaDoorXlCutS
import Derived.Test.YtfdiplgjiidnbaaDoorXlM
set_option linter.unusedSimpArgs false
set_option linter.unusedVariables false
namespace Go.Proofs.YtfdiplgjiidnbaaDoor
open Go.RowKit Classical
theorem exec_add64 {ρ : Operand → Value} {o : Oper} {x y : Operand} {t z : TypeId} {a b : Int} {c : Nat} {w : World} (ho : o.op = .binOp .add t x y z) (hx : ρ x = .int .i64 a) (hy : ρ y = .int .i64 b) (ht : Tryd.prog.underlying t = some (.int .i64)) (h0 : a + b = (c : Int)) (h1 : (c : Int) ≤ 9223372036854775807) : (execOp ρ o).run Tryd.prog w = .ok (.value (.int .i64 (c : Int))) w := by
  obtain ⟨dst, o, ty, pos, after, guard⟩ := o
  simp only at ho
  subst ho
  unfold execOp
  simp only [hx, hy]
  have hw : IntKind.i64.wrap (c : Int) = (c : Int) := by rw [IntKind.wrap_i64]; omega
  go_simp
set_option maxRecDepth 100000 in
set_option maxHeartbeats 4000000 in
theorem cut_any (pc : Nat) (tag : Int) (lim : Nat) (L : List Nat) (b o cap : Nat) (w : World) (hpc : pc < 65536) (hlim : lim ≤ 64) (hL : L.length ≤ 8192) (hcap : L.length ≤ cap) (hcm : cap ≤ 140737488355328) (hB : Byts L) (hC : Code w b o L) :
    Calls Tryd.prog 18 #[.int .u16 (pc : Nat), .int .i64 tag, .slice (some ⟨b, o, none⟩) L.length cap, .int .i64 (lim : Nat)] w fun e w' => CutOk w b o cap (cutL tag L lim pc 0 0 0) e w' := by
  have HC : Hid (Code w b o L) := hC
  have HB : Hid (Byts L) := hB
  clear hC hB
  obtain ⟨len, hlen⟩ : ∃ len, L.length = len := ⟨_, rfl⟩
  have HLN : Hid (L.length = len) := hlen
  rw [hlen] at hL hcap ⊢
  clear hlen
  obtain ⟨Z, hZ⟩ : ∃ Z, cutL tag L lim pc 0 0 0 = Z := ⟨_, rfl⟩
  have HZ : Hid (cutL tag L lim pc 0 0 0 = Z) := hZ
  rw [hZ]
  clear hZ
  go_enter Tryd.func18, Tryd.ntmps18
  go_upto_region 3 with fail
  have C0 : Ct w pc tag lim L b o cap 0 0 0 pc lim [] (.slice none 0 0) (w.alloc (.cells (pcC 0 0 0 0 0 0 (pc : Nat) none 0 0 0 0 0) 56)) :=
    ⟨Nat.zero_le _, Nat.zero_add _, hpc, rfl, rfl, by omega, World.ownsRow_nil _ _ _ _, Blk.new w _ _, (Below.refl _ _).alloc (Nat.le_refl _) _⟩
  generalize w.alloc (.cells (pcC 0 0 0 0 0 0 (pc : Nat) none 0 0 0 0 0) 56) = W0 at *
  go_loopw [2, 9] (fun c v wr => ∃ off num cyc at' fuel ps, c = .slice (some ⟨b, o + off, none⟩) (len - off) (cap - off) ∧ Ct w pc tag lim L b o cap off num cyc at' fuel ps v wr) (fun c _ _ => lenV c)
  case atStart => exact ⟨0, 0, 0, pc, lim, [], rfl, C0⟩
  case round =>
    clear C0 W0
    obtain ⟨off, num, cyc, at', fuel, ps, rfl, K⟩ := hrel
    have hoff : off ≤ len := by have := K.ho; rw [HLN.out] at this; exact this
    have hnf := K.hf
    have hcb := K.hc
    by_cases hlt : off < len
    · have z1 : 0 < len - off := by omega
      have d8 := (K.blk.cell 8)
      have d8' : wr.cell? ⟨w.heap.size, 8, none⟩ = some (.int .i64 (num : Nat)) := d8
      clear d8
      by_cases hfu : fuel = 0
      · subst hfu
        have z2 : ¬ ((num : Int) < (lim : Int)) := by omega
        go_wp2
        go_ret
        exact ⟨_, rfl, by have := K.eq; rw [HZ.out, cutL, List.append_nil] at this; rw [this, K.hp]; exact K.row, K.bel⟩
      · obtain ⟨f, rfl⟩ : ∃ f, fuel = f + 1 := ⟨fuel - 1, by omega⟩
        have z2 : ((num : Int) < (lim : Int)) := by omega
        go_upto_region 4 with fail
        obtain ⟨k, hk⟩ : ∃ k, L.getD off 0 = k := ⟨_, rfl⟩
        have hk8 : k < 256 := by rw [← hk]; exact HB.out.at off
        have hcc := HC.out.at K.bel off (by rw [HLN.out]; exact hlt)
        rw [hk] at hcc
        have HQ : Hid (cutL tag L (f + 1) at' off num cyc = if inB k at' tag (len - off) then (if endsI (kdN k : Nat) then [⟨k, at', off, num, cyc, 0⟩] else ⟨k, at', off, num, cyc, 0⟩ :: cutL tag L f ((at' + lnN k) % 65536) (off + lnN k) (num + 1) (cyc + cyN k)) else []) := by
          unfold Hid; rw [cutL, if_pos (by rw [HLN.out]; exact hlt), hk, HLN.out]
        clear hk
        have l1 := (ln_bd k hk8).1
        have l3 := (ln_bd k hk8).2
        have y8 := (cy_bd k hk8).2
        have ha := K.ha
        have DEC : Hid (∀ W, Calls Tryd.prog 12 #[.int .u8 (k : Nat)] W fun e w' => e = .returned (.agg #[.int .i64 (opN k : Nat), .int .i64 (mdN k : Nat), .int .i64 (kdN k : Nat), .int .i64 (lnN k : Nat), .int .i64 (cyN k : Nat), .int .i64 (clN k : Nat)]) ∧ Below W.heap.size W w') := fun W => decode_any k hk8 W
        go_cut [] (fun wx => Blk wx w.heap.size (pcC (opN k : Nat) (mdN k : Nat) (kdN k : Nat) (lnN k : Nat) (cyN k : Nat) (clN k : Nat) (at' : Nat) none 0 0 (num : Nat) (cyc : Nat) 0) 56 ∧ wx.ownsRow (w.heap.size + 1) 56 11 u9 num (flat b o cap ps) ∧ Below w.heap.size w wx)
        case first =>
          go_wp2_with (first
            | (go_at_call 12; go_must (refine (DEC.out _).mono ?_; rintro e W1 ⟨rfl, hb1⟩; have B1 := K.blk.below K.blk.lt hb1; have R1 := orow_keep K.row hb1; have hb1' := K.bel.trans (hb1.mono K.bel.size)))
            | (refine wpList_store_mid rfl 42 _ _ rfl w.heap.size 0 #[.int .i64 (opN k : Nat), .int .i64 (mdN k : Nat), .int .i64 (kdN k : Nat), .int .i64 (lnN k : Nat), .int .i64 (cyN k : Nat), .int .i64 (clN k : Nat)] rfl rfl (fun j hj => (B1.there' 11 rfl) j (Nat.lt_of_lt_of_le hj (show (6 : Nat) ≤ 11 by decide))) (by kernel_rfl) (by kernel_rfl) ?_))
          go_meet
          exact ⟨((((((B1.set 0 _).set 1 _).set 2 _).set 3 _).set 4 _).set 5 _), orow_others (Nat.lt_succ_self _) _ _ _ R1, setCells_below' (Nat.le_refl _) _ _ _ _ hb1'⟩
        case rest =>
        obtain ⟨B1, R1, hb1⟩ := hcut
        generalize wc = W1 at *
        clear DEC hcc d8' z2
        have EN : Hid (∀ W, Calls _ _ _ W _) := fun W => enter_any (opN k : Nat) (mdN k : Nat) (kdN k : Nat) (lnN k : Nat) (cyN k : Nat) (clN k : Nat) (at' : Nat) none 0 0 (num : Nat) (cyc : Nat) 0 tag ((len - off : Nat) : Int) (by omega) (by omega) W
        obtain ⟨X, hX⟩ : ∃ X, inB k at' tag (len - off) = X := ⟨_, rfl⟩
        have hX2 : inI (opN k : Nat) (lnN k : Nat) (at' : Nat) tag ((len - off : Nat) : Int) = X := hX
        rw [hX2] at EN
        rw [hX] at HQ
        clear hX2
        cases X
        · go_wp2_with (first
            | (refine wpList_load_blk rfl 56 _ rfl w.heap.size rfl (pcC (opN k : Nat) (mdN k : Nat) (kdN k : Nat) (lnN k : Nat) (cyN k : Nat) (clN k : Nat) (at' : Nat) none 0 0 (num : Nat) (cyc : Nat) 0) _ B1 Tryd.underlying56 rfl (by kernel_rfl) ?_)
            | (go_at_call 40; go_must (refine (EN.out _).mono ?_; rintro e W2 ⟨rfl, hb2⟩)))
          go_ret
          exact ⟨_, rfl, by have h := K.eq; rw [HZ.out, HQ.out, if_neg (by decide), List.append_nil] at h; rw [h, K.hp]; exact orow_keep R1 hb2, hb1.trans (hb2.mono hb1.size)⟩
        · have hin := in_len hX
          rw [if_pos rfl] at HQ
          clear hX
          go_upto_region 6 with (first
            | (refine wpList_load_blk rfl 56 _ rfl w.heap.size rfl (pcC (opN k : Nat) (mdN k : Nat) (kdN k : Nat) (lnN k : Nat) (cyN k : Nat) (clN k : Nat) (at' : Nat) none 0 0 (num : Nat) (cyc : Nat) 0) _ B1 Tryd.underlying56 rfl (by kernel_rfl) ?_)
            | (go_at_call 40; go_must (refine (EN.out _).mono ?_; rintro e W2 ⟨rfl, hb2⟩; replace R1 := orow_keep R1 hb2; replace B1 := B1.below B1.lt hb2; replace hb1 := hb1.trans (hb2.mono hb1.size); clear hb2)))
          clear EN
          have SP : Hid (∀ W, Calls _ _ _ W _) := fun W => split_any b (o + off) (len - off) (cap - off) (lnN k) W hin (by omega) (by omega)
          have d3 := B1.cell 3
          have d3' : W2.cell? ⟨w.heap.size, 3, none⟩ = some (.int .i64 (lnN k : Nat)) := d3
          clear d3
          go_cut [2] (fun c wx => c = .slice (some ⟨b, o + off + lnN k, none⟩) (len - off - lnN k) (cap - off - lnN k) ∧ Blk wx w.heap.size (pcC (opN k : Nat) (mdN k : Nat) (kdN k : Nat) (lnN k : Nat) (cyN k : Nat) (clN k : Nat) (at' : Nat) (some ⟨b, o + off, none⟩) (lnN k) (cap - off) (num : Nat) (cyc : Nat) 0) 56 ∧ wx.ownsRow (w.heap.size + 1) 56 11 u9 num (flat b o cap ps) ∧ Below w.heap.size w wx)
          case first =>
            go_wp2_with (first
              | (go_at_call 41; go_must (refine (SP.out _).mono ?_; rintro e W3 ⟨rfl, hb3⟩; have B3 := B1.below B1.lt hb3; have R3 := orow_keep R1 hb3; have hb3' := hb1.trans (hb3.mono hb1.size); have d7 := B3.cell 7; have d7' : W3.cell? ⟨w.heap.size, 7, none⟩ = some (.slice none 0 0) := d7; clear d7; have f7 := B3.free 7)))
            go_meet
            exact ⟨rfl, B3.set 7 _, orow_other R3 (Nat.lt_succ_self _), hb3'.setCell (p := ⟨w.heap.size, 7, none⟩) (Nat.le_refl _) _⟩
          case rest =>
          clear SP d3' B1 R1 hb1
          obtain ⟨rfl, B1, R1, hb1⟩ := hcut
          generalize wc = W3 at *
          obtain ⟨p, hp⟩ : ∃ p : Pc, p = ⟨k, at', off, num, cyc, 0⟩ := ⟨_, rfl⟩
          have HP : Hid (p = ⟨k, at', off, num, cyc, 0⟩) := hp
          have HPC : Hid (p.cells b o cap = (pcC (opN k : Nat) (mdN k : Nat) (kdN k : Nat) (lnN k : Nat) (cyN k : Nat) (clN k : Nat) (at' : Nat) (some ⟨b, o + off, none⟩) (lnN k) (cap - off) (num : Nat) (cyc : Nat) 0)) := by unfold Hid; rw [hp]; rfl
          clear hp
          rw [← HP.out] at HQ
          go_upto_region 7 with fail
          go_cut [9] (fun v wx => wx.ownsRow (w.heap.size + 1) 56 11 v (num + 1) (flat b o cap (ps ++ [p])) ∧ Blk wx w.heap.size (pcC (opN k : Nat) (mdN k : Nat) (kdN k : Nat) (lnN k : Nat) (cyN k : Nat) (clN k : Nat) (at' : Nat) (some ⟨b, o + off, none⟩) (lnN k) (cap - off) (num : Nat) (cyc : Nat) 0) 56 ∧ Below w.heap.size w wx)
          case first =>
            have HR : Hid (W3.ownsRow (w.heap.size + 1) 56 11 u9 num (flat b o cap ps)) := R1
            have hsz := B1.lt
            clear R1
            go_wp2_with (first
              | (refine wpList_load_blk rfl 56 _ rfl w.heap.size rfl (pcC (opN k : Nat) (mdN k : Nat) (kdN k : Nat) (lnN k : Nat) (cyN k : Nat) (clN k : Nat) (at' : Nat) (some ⟨b, o + off, none⟩) (lnN k) (cap - off) (num : Nat) (cyc : Nat) 0) _ B1 Tryd.underlying56 rfl (by kernel_rfl) ?_)
              | (at_builtin; refine wpList_appPiece rfl _ _ rfl HR.out (Below.refl _ _) hsz rfl rfl (cs := (pcC (opN k : Nat) (mdN k : Nat) (kdN k : Nat) (lnN k : Nat) (cyN k : Nat) (clN k : Nat) (at' : Nat) (some ⟨b, o + off, none⟩) (lnN k) (cap - off) (num : Nat) (cyc : Nat) 0)) rfl (pc_one _ _ _ _ _ _ _ _ _ _ _ _ _) (by omega) ?_; intro v' Wx hux hbx hsx))
            go_meet
            exact ⟨by rw [flat_snoc, HPC.out]; exact hux, B1.below (Nat.lt_succ_self _) hbx, hb1.trans (hbx.mono (Nat.le_succ _))⟩
          case rest =>
          clear R1 B1 hb1
          obtain ⟨R1, B1, hb1⟩ := hcut
          generalize wc = W4 at *
          have EB : Hid (∀ W, Calls _ _ _ W _) := fun W => ends_any (kdN k : Nat) W
          have d2 : W4.cell? ⟨w.heap.size, 2, none⟩ = some (.int .i64 (kdN k : Nat)) := B1.cell 2
          generalize endsI (kdN k : Nat) = Y at *
          cases Y
          · rw [if_neg (by decide)] at HQ
            go_upto_region 9 with (first
              | (go_at_call 42; go_must (refine (EB.out _).mono ?_; rintro e W5 ⟨rfl, hw5⟩; obtain rfl := hw5.symm)))
            clear EB d2
            have BB : Hid (∀ W, Calls Tryd.prog 43 #[.agg (pcC (opN k : Nat) (mdN k : Nat) (kdN k : Nat) (lnN k : Nat) (cyN k : Nat) (clN k : Nat) (at' : Nat) (some ⟨b, o + off, none⟩) (lnN k) (cap - off) (num : Nat) (cyc : Nat) 0)] W fun e w' => e = .returned (.int .u16 (((at' + lnN k) % 65536 : Nat) : Int)) ∧ Below W.heap.size W w') := fun W => behind_any (opN k : Nat) (mdN k : Nat) (kdN k : Nat) (lnN k : Nat) (cyN k : Nat) (clN k : Nat) (at' : Nat) (some ⟨b, o + off, none⟩) (lnN k) (cap - off) (num : Nat) (cyc : Nat) 0 (by omega) (by omega) (by omega) (by omega) W
            obtain ⟨PC, hPC⟩ : ∃ PC, PC = (pcC (opN k : Nat) (mdN k : Nat) (kdN k : Nat) (lnN k : Nat) (cyN k : Nat) (clN k : Nat) (at' : Nat) (some ⟨b, o + off, none⟩) (lnN k) (cap - off) (num : Nat) (cyc : Nat) 0) := ⟨_, rfl⟩
            rw [← hPC] at BB B1
            have HS : Hid (PC.size = 11) := by unfold Hid; rw [hPC]; rfl
            have H8 : Hid (PC[8]? = some (.int .i64 (num : Nat))) := by unfold Hid; rw [hPC]; rfl
            have H9 : Hid (PC[9]? = some (.int .i64 (cyc : Nat))) := by unfold Hid; rw [hPC]; rfl
            have H4 : Hid (PC[4]? = some (.int .i64 (cyN k : Nat))) := by unfold Hid; rw [hPC]; rfl
            clear hPC
            obtain ⟨N, hN⟩ : ∃ N, (at' + lnN k) % 65536 = N := ⟨_, rfl⟩
            have hN5 : N < 65536 := by omega
            rw [hN] at BB
            rw [hN] at HQ
            clear hN
            have s0 : Cq w PC 56 u9 (num + 1) (flat b o cap (ps ++ [p])) W4.drew := ⟨B1.below B1.lt (Below.refl _ _).drew, orow_keep R1 (Below.refl _ _).drew, hb1.drew⟩
            clear B1 R1 hb1
            refine regionM 12 (S := fun v => Cq w PC 56 u9 (num + 1) (flat b o cap (ps ++ [p])) v) (by kernel_rfl) ?_
            refine takeM (i := 0) (v := .agg PC.toList.toArray) _ rfl (by kernel_rfl) (by kernel_rfl) (by kernel_rfl) (by kernel_rfl) (fun _ _ _ h => h) (yieldsIf_load_mid (by kernel_rfl) 56 (.tmp 10) rfl w.heap.size 0 (by kernel_rfl) PC.toList _ (fun v hv => Blk.range' hv.b) Tryd.underlying56 rfl (by rw [Array.length_toList]; rw [HS.out]; kernel_rfl)) s0 rfl ?_
            refine takeM (i := 2) (v := .pointer (some ⟨w.heap.size, 8, none⟩)) _ rfl (by kernel_rfl) (by kernel_rfl) (by kernel_rfl) (by kernel_rfl) (fun _ _ _ h => h) (.inl ⟨by kernel_rfl, fun _ _ => by kernel_rfl⟩) s0 rfl ?_
            refine takeM (i := 3) (v := .int .i64 (num : Nat)) _ rfl (by kernel_rfl) (by kernel_rfl) (by kernel_rfl) (by kernel_rfl) (fun _ _ _ h => h) (.inl ⟨by kernel_rfl, fun v hv => by have c : v.cell? ⟨w.heap.size, 8, none⟩ = some (.int .i64 (num : Nat)) := (hv.b.cell 8).trans H8.out; go_simp⟩) s0 rfl ?_
            refine takeM (i := 4) (v := .int .i64 ((num + 1 : Nat) : Int)) _ rfl (by kernel_rfl) (by kernel_rfl) (by kernel_rfl) (by kernel_rfl) (fun _ _ _ h => h) (.inl ⟨by kernel_rfl, fun v _ => exec_add64 (a := ((num : Nat) : Int)) (b := 1) rfl (by kernel_rfl) (by kernel_rfl) (by kernel_rfl) (by omega) (by omega)⟩) s0 rfl ?_
            refine takeM (i := 5) (v := .pointer (some ⟨w.heap.size, 9, none⟩)) _ rfl (by kernel_rfl) (by kernel_rfl) (by kernel_rfl) (by kernel_rfl) (fun _ _ _ h => h) (.inl ⟨by kernel_rfl, fun _ _ => by kernel_rfl⟩) s0 rfl ?_
            refine takeM (i := 6) (v := .int .i64 (cyc : Nat)) _ rfl (by kernel_rfl) (by kernel_rfl) (by kernel_rfl) (by kernel_rfl) (fun _ _ _ h => h) (.inl ⟨by kernel_rfl, fun v hv => by have c : v.cell? ⟨w.heap.size, 9, none⟩ = some (.int .i64 (cyc : Nat)) := (hv.b.cell 9).trans H9.out; go_simp⟩) s0 rfl ?_
            refine takeM (i := 7) (v := .pointer (some ⟨w.heap.size, 0, none⟩)) _ rfl (by kernel_rfl) (by kernel_rfl) (by kernel_rfl) (by kernel_rfl) (fun _ _ _ h => h) (.inl ⟨by kernel_rfl, fun _ _ => by kernel_rfl⟩) s0 rfl ?_
            refine takeM (i := 8) (v := .pointer (some ⟨w.heap.size, 4, none⟩)) _ rfl (by kernel_rfl) (by kernel_rfl) (by kernel_rfl) (by kernel_rfl) (fun _ _ _ h => h) (.inl ⟨by kernel_rfl, fun _ _ => by kernel_rfl⟩) s0 rfl ?_
            refine takeM (i := 9) (v := .int .i64 (cyN k : Nat)) _ rfl (by kernel_rfl) (by kernel_rfl) (by kernel_rfl) (by kernel_rfl) (fun _ _ _ h => h) (.inl ⟨by kernel_rfl, fun v hv => by have c : v.cell? ⟨w.heap.size, 4, none⟩ = some (.int .i64 (cyN k : Nat)) := (hv.b.cell 4).trans H4.out; go_simp⟩) s0 rfl ?_
            refine takeM (i := 10) (v := .int .i64 ((cyc + cyN k : Nat) : Int)) _ rfl (by kernel_rfl) (by kernel_rfl) (by kernel_rfl) (by kernel_rfl) (fun _ _ _ h => h) (.inl ⟨by kernel_rfl, fun v _ => exec_add64 (a := ((cyc : Nat) : Int)) (b := ((cyN k : Nat) : Int)) rfl (by kernel_rfl) (by kernel_rfl) (by kernel_rfl) (by omega) (by omega)⟩) s0 rfl ?_
            refine callM (i := 1) (f := 43) (v := .int .u16 ((N : Nat) : Int)) _ (by kernel_rfl) rfl (by kernel_rfl) (by kernel_rfl) (BB.out _) rfl ?_
            intro Wq1 hbq1
            have sq1 : (fun v => Cq w PC 56 u9 (num + 1) (flat b o cap (ps ++ [p])) v) Wq1 := s0.on hbq1
            clear hbq1
            refine ⟨sq1, ?_⟩
            refine takeM (i := 11) (v := .agg (pcC 0 0 0 0 0 0 ((N : Nat) : Int) none 0 0 ((num + 1 : Nat) : Int) ((cyc + cyN k : Nat) : Int) 0)) _ rfl (by kernel_rfl) (by kernel_rfl) (by kernel_rfl) (by kernel_rfl) (fun _ _ _ h => h) (.inl ⟨by kernel_rfl, fun _ _ => by kernel_rfl⟩) sq1 rfl ?_
            refine storeM (by kernel_rfl) (by kernel_rfl) ?_
            refine wpOp_store rfl (by kernel_rfl) 56 (.tmp 10) (.tmp 61) rfl w.heap.size 0 (.agg (pcC 0 0 0 0 0 0 ((N : Nat) : Int) none 0 0 ((num + 1 : Nat) : Int) ((cyc + cyN k : Nat) : Int) 0)) (pcC 0 0 0 0 0 0 ((N : Nat) : Int) none 0 0 ((num + 1 : Nat) : Int) ((cyc + cyN k : Nat) : Int) 0) (by kernel_rfl) (by kernel_rfl) rfl (sq1.b.there' 11 HS.out) (by kernel_rfl) (by kernel_rfl) _ rfl ?_
            intro W6 eW6
            have B6 : Blk W6 w.heap.size (pcC 0 0 0 0 0 0 ((N : Nat) : Int) none 0 0 ((num + 1 : Nat) : Int) ((cyc + cyN k : Nat) : Int) 0) 56 := by rw [eW6]; exact sq1.b.setAll (L := (pcC 0 0 0 0 0 0 ((N : Nat) : Int) none 0 0 ((num + 1 : Nat) : Int) ((cyc + cyN k : Nat) : Int) 0)) HS.out.symm
            have R6 : W6.ownsRow (w.heap.size + 1) 56 11 u9 (num + 1) (flat b o cap (ps ++ [p])) := by rw [eW6]; exact orow_others (Nat.lt_succ_self _) _ _ _ sq1.r
            have hb6 : Below w.heap.size w W6 := by rw [eW6]; exact setCells_below' (Nat.le_refl _) _ _ _ _ sq1.hb
            clear eW6
            go_wp2
            go_roundw
            case rel => exact ⟨off + lnN k, ⟨by omega, by omega, by omega⟩, num + 1, cyc + cyN k, N, f, ps ++ [p], ⟨by rw [HLN.out]; omega, by omega, hN5, by rw [List.length_append, K.hp]; rfl, by rw [K.eq, HQ.out]; simp, by omega, R6, B6, hb6⟩⟩
            case measure => simp [lenV]; omega
          · rw [if_pos rfl] at HQ
            go_wp2_with (first
              | (go_at_call 42; go_must (refine (EB.out _).mono ?_; rintro e W5 ⟨rfl, rfl⟩)))
            go_ret
            exact ⟨_, rfl, by have h := K.eq; rw [HZ.out, HQ.out] at h; rw [h, List.length_append, K.hp]; exact R1, hb1⟩
    · have z1 : len - off = 0 := by omega
      go_wp2
      go_ret
      exact ⟨_, rfl, by have h := K.eq; rw [HZ.out, cutL_end (by rw [HLN.out]; exact hlt), List.append_nil] at h; rw [h, K.hp]; exact K.row, K.bel⟩
end Go.Proofs.YtfdiplgjiidnbaaDoor
