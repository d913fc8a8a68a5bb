/-
  The contract of the document's Line.
-/
import Derived.Test.YtebnapgnnflnhaaDoorILLine
import Derived.Test.YtebnapgnnflnhaaDoorILOp
import Derived.Test.YtebnapgnnflnhaaDoorIRef7
set_option linter.unusedSimpArgs false
set_option linter.unusedVariables false
namespace Go.Proofs.YtebnapgnnflnhaaDoor
open Go.RowKit
/-- The document's forms lie in their variable. -/
structure RFTab (w : World) : Prop where
  tx : ∀ i, i < 13 → w.cell? ⟨1, i, none⟩ = some (.string ⟨(rfL.getD i []).toArray⟩)
theorem RFTab.below {w w' : World} (h : RFTab w) (hb : Below w.heap.size w w') : RFTab w' :=
  ⟨fun i hi => (hb.cell (p := ⟨1, i, none⟩) (cell_ltL (h.tx i hi))).trans (h.tx i hi)⟩
/-- What the calls of a line need of memory. -/
structure RW (w : World) (b o n : Nat) (f : Nat → Nat) (W : World) : Prop where
  lt : LTab W
  ft : RFTab W
  hd : Hd W b o n f
  bl : Below w.heap.size w W
theorem RW.on {w : World} {b o n : Nat} {f : Nat → Nat} {W W' : World} (h : RW w b o n f W) (hn : 0 < n) (hb : Below W.heap.size W W') : RW w b o n f W' :=
  ⟨h.lt.below hb, h.ft.below hb, ⟨fun i hi => (hb.cell (p := ⟨b, o + i, none⟩) (cell_ltL (h.hd.at_ i hi))).trans (h.hd.at_ i hi), h.hd.bd⟩, h.bl.trans (hb.mono h.bl.size)⟩
theorem rline_none (pc : Nat) (w : World) (a : Option Addr) (cap : Nat) :
    Calls Tryd.prog 6 #[.slice a 0 cap, .int .u16 (pc : Nat)] w fun e w' => e = .returned (.tuple #[.string ⟨#[]⟩, .int .i64 11]) ∧ Below w.heap.size w w' := by
  go_enter Tryd.func6, Tryd.ntmps6
  go_wp2
  go_ret2
  exact ⟨rfl, Below.refl _ _⟩
set_option maxRecDepth 100000 in
theorem rline_short (k : Nat) (hk : k < 256) (pc : Nat) (w : World) (b o n cap : Nat) (f : Nat → Nat) (H : Hd w b o n f) (h0 : f 0 = k) (hn0 : 0 < n) (hs : n < lnN k) (LT : LTab w) :
    Calls Tryd.prog 6 #[.slice (some ⟨b, o, none⟩) n cap, .int .u16 (pc : Nat)] w fun e w' => e = .returned (.tuple #[.string ⟨#[]⟩, .int .i64 11]) ∧ Below w.heap.size w w' := by
  have RC : Hid (Calls _ _ _ _ _) := rrow_any k hk w LT
  have c0 : w.cell? ⟨b, o, none⟩ = some (.int .u8 (k : Int)) := by have := H.at_ 0 hn0; rw [h0] at this; exact this
  have l3 := (ln_md k hk).1
  have hnz : ((n : Int) == 0) = false := by rw [beq_eq_false_iff_ne]; omega
  clear H LT
  generalize lnN k = ln at *
  go_enter Tryd.func6, Tryd.ntmps6
  go_wp2_with (go_at_call 15; go_must (refine RC.out.mono ?_; rintro e w1 ⟨rfl, hb1⟩))
  go_ret2
  exact ⟨rfl, hb1.alloc hb1.size _⟩
set_option maxRecDepth 100000 in
set_option maxHeartbeats 2000000 in
theorem rline_any (k : Nat) (hk : k < 256) (pc : Nat) (hp : pc < 65536) (w : World) (b o n cap : Nat) (f : Nat → Nat) (H : Hd w b o n f) (h0 : f 0 = k) (hs : lnN k ≤ n) (hn2 : n ≤ 4611686018427387904) (LT : LTab w) (FT : RFTab w) :
    Calls Tryd.prog 6 #[.slice (some ⟨b, o, none⟩) n cap, .int .u16 (pc : Nat)] w fun e w' => e = .returned (.tuple #[.string ⟨(lineT k (f 1) (f 2) pc).toArray⟩, .int .i64 0]) ∧ Below w.heap.size w w' := by
  have RC : Hid (Calls _ _ _ _ _) := rrow_any k hk w LT
  have l3 := (ln_md k hk).1
  have hn0 : 0 < n := by omega
  obtain ⟨o70, m13⟩ := opmd_lt k hk
  have hnz : ((n : Int) == 0) = false := by rw [beq_eq_false_iff_ne]; omega
  have HL : Hid (RW w b o n f w) := ⟨LT, FT, H, Below.refl _ _⟩
  have c0 : w.cell? ⟨b, o, none⟩ = some (.int .u8 (k : Int)) := by have := H.at_ 0 hn0; rw [h0] at this; exact this
  have hsn : ¬ (n : Int) < (lnN k : Int) := by omega
  clear LT FT H
  go_enter Tryd.func6, Tryd.ntmps6
  go_upto_region 3 with fail
  go_cut [6] (fun q wx => ∃ r : Nat, q = .pointer (some ⟨r, 0, none⟩) ∧ Blk wx r #[.int .i64 (opN k : Nat), .int .i64 (mdN k : Nat), .int .i64 (kdN k : Nat), .int .i64 (lnN k : Nat), .int .i64 0, .int .i64 (clN k : Nat)] 45 ∧ RW w b o n f wx)
  case first =>
    go_wp2_with (go_at_call 15; go_must (refine RC.out.mono ?_; rintro e w1 ⟨rfl, hb1⟩))
    go_meet
    exact ⟨_, rfl, Blk.new _ _ _, (HL.out.on hn0 hb1).on hn0 ((Below.refl _ _).alloc (Nat.le_refl _) _)⟩
  case rest =>
  clear RC HL c0
  obtain ⟨r, rfl, rB, hL⟩ := hcut
  have EC : Hid (Calls _ _ _ _ _) := rencode_any (opN k : Nat) (mdN k : Nat) _ hL.lt
  have NC : Hid (∀ W : World, Calls _ _ _ _ _) := fun W => refName_any (opN k : Nat) W
  have hnm : nmS ((opN k : Nat) : Int) = ⟨(nmL.getD (opN k) []).toArray⟩ := by unfold nmS; rw [if_pos (by omega)]; rfl
  rw [hnm] at NC
  clear hnm
  have rc := rB.cell
  have hl1 := nm_len (opN k)
  have HT : Hid (nmT k = nmL.getD (opN k) [] ++ (if owN k then [] else 46 :: hx2 k)) := rfl
  have HO : Hid (owN k = ((encS (opN k : Nat) (mdN k : Nat)).2 == 0 && (encS (opN k : Nat) (mdN k : Nat)).1 == k)) := rfl
  generalize encS (opN k : Nat) (mdN k : Nat) = E at *
  obtain ⟨e1, e2⟩ := E
  generalize nmL.getD (opN k) [] = nm at *
  go_upto_region 8 with (first
    | (go_at_call 16; go_must (refine (NC.out _).mono ?_; rintro e w1 ⟨rfl, hw1⟩; obtain rfl := hw1.symm))
    | (go_at_call 17; go_must (refine EC.out.mono ?_; rintro e w1 ⟨rfl, hb1⟩)))
  have rB1 := rB.below rB.lt hb1
  have hL1 := hL.on hn0 hb1
  clear EC NC rc rB hL hb1
  have c0 : w1.cell? ⟨b, o, none⟩ = some (.int .u8 (k : Int)) := by have := hL1.hd.at_ 0 hn0; rw [h0] at this; exact this
  go_cut [8, 9, 27, 32, 33, 34, 43] (fun _ _ _ _ _ _ q wx => q = .bool (!owN k) ∧ w1 = wx)
  case first =>
    by_cases g2 : e2 = 0
    · subst g2
      by_cases g1 : e1 = k
      · subst g1
        go_wp2
        go_meet
        exact ⟨by rw [HO.out]; simp, rfl⟩
      · have HG1 : Hid (((e1 : Int) == (k : Int)) = false) := by unfold Hid; rw [beq_eq_false_iff_ne]; omega
        have HG2 : Hid ((e1 == k) = false) := by unfold Hid; rw [beq_eq_false_iff_ne]; exact g1
        clear g1
        go_wp2
        go_meet
        exact ⟨by rw [HO.out, HG2.out, bne, HG1.out]; rfl, rfl⟩
    · have HG2 : Hid ((e2 == 0) = false) := by unfold Hid; rw [beq_eq_false_iff_ne]; exact g2
      go_wp2
      go_meet
      exact ⟨by rw [HO.out, HG2.out]; rfl, rfl⟩
  case rest =>
  obtain ⟨rfl, rfl⟩ := hcut
  clear HO
  have FC : Hid (∀ W : World, Calls _ _ _ _ _) := fun W => hex_any k 2 (by omega) (by decide) W
  rw [hexS_2] at FC
  have hlx : (hx2 k).length = 2 := rfl
  generalize hx2 k = X at *
  generalize hTt : nmT k = T at *
  have HTT : Hid (nmT k = T) := hTt
  clear hTt
  have hTl : T.length ≤ 13 := by
    rw [HT.out, List.length_append]
    split <;> simp at * <;> omega
  go_upto_if 43 with fail
  go_cut [7] (fun q wx => q = .string ⟨T.toArray⟩ ∧ w1 = wx)
  case first =>
    cases ho : owN k
    · have HZ : Hid (nm ++ [46] ++ X = T) := by have := HT.out; rw [ho] at this; unfold Hid; simpa using this.symm
      go_wp2_with (go_at_call 18; go_must (refine (FC.out _).mono ?_; rintro e w2 ⟨rfl, hw2⟩; obtain rfl := hw2.symm))
      go_meet
      exact ⟨by rw [← HZ.out, ← strApp9, ← strApp9], rfl⟩
    · have HZ : Hid (nm = T) := by have := HT.out; rw [ho] at this; unfold Hid; simpa using this.symm
      clear FC
      go_wp2
      go_meet
      exact ⟨by rw [HZ.out], rfl⟩
  case rest =>
  clear c0 FC HT
  obtain ⟨rfl, rfl⟩ := hcut
  have rc := rB1.cell
  have HLN : Hid (lineT k (f 1) (f 2) pc = T ++ (if mdN k = 0 then [] else 32 :: opS (mdN k) (vlN k (f 1) (f 2) pc))) := by unfold Hid lineT; rw [HTT.out]
  obtain ⟨LN, hLN⟩ : ∃ x, lineT k (f 1) (f 2) pc = x := ⟨_, rfl⟩
  rw [hLN] at HLN
  have HLT : Hid _ := hLN
  clear hLN
  by_cases hm0 : mdN k = 0
  · have HZ : Hid (LN = T) := by have := HLN.out; rw [if_pos hm0] at this; unfold Hid; simpa using this
    rw [hm0] at rc
    clear HLN
    go_wp2
    go_ret2
    exact ⟨by rw [HLT.out, HZ.out]; rfl, hL1.bl⟩
  have hm0' : (((mdN k : Nat) : Int) == 0) = false := by rw [beq_eq_false_iff_ne]; omega
  have hvl := vl_lt k (f 1) (f 2) pc (hL1.hd.bd 1) (hL1.hd.bd 2)
  have OC : Hid (∀ W : World, Calls _ _ _ _ _) := fun W => operand_any (rfL.getD (mdN k) []) (rf_len _) (vlN k (f 1) (f 2) pc) hvl W
  have hol : (opS (mdN k) (vlN k (f 1) (f 2) pc)).length ≤ 20 := op_len _ _
  rw [opR_rf _ _ m13] at OC
  have HZ : Hid (LN = T ++ [32] ++ opS (mdN k) (vlN k (f 1) (f 2) pc)) := by have := HLN.out; rw [if_neg hm0] at this; unfold Hid; simpa using this
  clear HLN
  have cF := hL1.ft.tx (mdN k) m13
  have c1 : 1 < n → w1.cell? ⟨b, o + 1, none⟩ = some (.int .u8 (f 1 : Int)) := hL1.hd.at_ 1
  have c2 : 2 < n → w1.cell? ⟨b, o + 2, none⟩ = some (.int .u8 (f 2 : Int)) := hL1.hd.at_ 2
  have TC : Hid (∀ W : World, Calls _ _ _ _ _) := fun W => target_any pc (f 1) hp (hL1.hd.bd 1) W
  have b1 := hL1.hd.bd 1
  have b2 := hL1.hd.bd 2
  have HV : Hid (vlN k (f 1) (f 2) pc = if lnN k = 1 then 0 else if lnN k = 3 then f 1 + 256 * f 2 else if mdN k = 12 then tgN pc (f 1) else f 1) := rfl
  have hr := (ln_md k hk).2
  generalize opS (mdN k) (vlN k (f 1) (f 2) pc) = O at *
  generalize vlN k (f 1) (f 2) pc = V at *
  generalize rfL.getD (mdN k) [] = R at *
  generalize tgN pc (f 1) = tg at *
  generalize f 1 = d1 at c1 TC b1 HV
  generalize f 2 = d2 at c2 b2 HV
  have HW : Hid (RW w b o n f w1) := hL1
  clear hL1 rB1 h0
  rcases l3 with e | e | e
  · have eV : V = 0 := by have := HV.out; rw [if_pos e] at this; exact this
    subst eV
    have hmd : (((mdN k : Nat) : Int) == 12) = false := by
      rw [beq_eq_false_iff_ne]
      intro h
      have := hr (by omega)
      omega
    rw [e] at rc
    clear hr c1 c2 TC HV
    go_wp2_with (go_at_call 20; go_must (refine (OC.out _).mono ?_; rintro e w2 ⟨rfl, hw2⟩; obtain rfl := hw2.symm))
    go_ret2
    exact ⟨by rw [HLT.out, HZ.out, ← strApp9, ← strApp9]; rfl, HW.out.bl⟩
  · by_cases hm12 : mdN k = 12
    · have eV : V = tg := by have := HV.out; rw [if_neg (by omega), if_neg (by omega), if_pos hm12] at this; exact this
      subst eV
      have g1 := c1 (by omega)
      rw [e] at rc
      rw [hm12] at rc cF hm0'
      clear hr c1 c2 HV
      go_wp2_with (first
        | (go_at_call 19; go_must (refine (TC.out _).mono ?_; rintro e w2 ⟨rfl, hw2⟩; obtain rfl := hw2.symm))
        | (go_at_call 20; go_must (refine (OC.out _).mono ?_; rintro e w2 ⟨rfl, hw2⟩; obtain rfl := hw2.symm)))
      go_ret2
      exact ⟨by rw [HLT.out, HZ.out, ← strApp9, ← strApp9]; rfl, HW.out.bl⟩
    · have eV : V = d1 := by have := HV.out; rw [if_neg (by omega), if_neg (by omega), if_neg hm12] at this; exact this
      subst eV
      have hmd : (((mdN k : Nat) : Int) == 12) = false := by rw [beq_eq_false_iff_ne]; omega
      have g1 := c1 (by omega)
      rw [e] at rc
      clear hr c1 c2 HV TC
      go_wp2_with (go_at_call 20; go_must (refine (OC.out _).mono ?_; rintro e w2 ⟨rfl, hw2⟩; obtain rfl := hw2.symm))
      go_ret2
      exact ⟨by rw [HLT.out, HZ.out, ← strApp9, ← strApp9]; rfl, HW.out.bl⟩
  · have eV : V = d1 + 256 * d2 := by have := HV.out; rw [if_neg (by omega), if_pos e] at this; exact this
    subst eV
    have hmd : (((mdN k : Nat) : Int) == 12) = false := by
      rw [beq_eq_false_iff_ne]
      intro h
      have := hr (by omega)
      omega
    have g1 := c1 (by omega)
    have g2 := c2 (by omega)
    rw [e] at rc
    clear hr c1 c2 HV TC
    have ec : ((d1 + 256 * d2 : Nat) : Int) = (d1 : Int) + 256 * (d2 : Int) := by omega
    rw [ec] at OC
    go_wp2_with (go_at_call 20; go_must (refine (OC.out _).mono ?_; rintro e w2 ⟨rfl, hw2⟩; obtain rfl := hw2.symm))
    go_ret2
    exact ⟨by rw [HLT.out, HZ.out, ← strApp9, ← strApp9]; rfl, HW.out.bl⟩
end Go.Proofs.YtebnapgnnflnhaaDoor
