/-
  The contract of isa.Line.
-/
import Derived.Test.YtebnapgnnflnhaaDoorILFill
import Derived.Test.YtebnapgnnflnhaaDoorILWrit
import Derived.Test.YtebnapgnnflnhaaDoorILShow
import Derived.Test.YtebnapgnnflnhaaDoorIEnc
import Derived.Test.YtebnapgnnflnhaaDoorIBlk
import Derived.Deep.RegionWith
set_option linter.unusedSimpArgs false
set_option linter.unusedVariables false
namespace Go.Proofs.YtebnapgnnflnhaaDoor
open Go.RowKit
/-- Is an opcode the one that stands for its operation and mode? -/
def owN (k : Nat) : Bool := (encS (opN k : Nat) (mdN k : Nat)).2 == 0 && (encS (opN k : Nat) (mdN k : Nat)).1 == k
/-- An instruction's name, and its opcode where it must be told. -/
def nmT (k : Nat) : List UInt8 := nmL.getD (opN k) [] ++ (if owN k then [] else 46 :: hx2 k)
/-- The line. -/
def lineT (k c1 c2 pc : Nat) : List UInt8 := nmT k ++ (if mdN k = 0 then [] else 32 :: opS (mdN k) (vlN k c1 c2 pc))
theorem nm_len (i : Nat) : (nmL.getD i []).length ≤ 10 := by
  by_cases h : i < 70
  · revert i; decide +kernel
  · have : nmL.length = 70 := by decide +kernel
    simp [List.getD, show nmL.length ≤ i by omega]
theorem wr_len (m : Nat) : (wrB m).length ≤ 100 := by
  unfold wrB
  have : ∀ i : Nat, i < 12 → (wrL.getD i []).length ≤ 100 := by decide +kernel
  split
  · exact this _ (by assumption)
  · exact this 8 (by decide)
theorem opmd_lt (k : Nat) (hk : k < 256) : opN k < 70 ∧ mdN k < 13 := by
  have key : ∀ k : Nat, k < 256 → opN k < 70 ∧ mdN k < 13 := by decide +kernel
  exact key k hk
theorem vl_lt (k c1 c2 pc : Nat) (h1 : c1 < 256) (h2 : c2 < 256) : vlN k c1 c2 pc < 65536 := by
  unfold vlN
  split
  · omega
  split
  · omega
  split
  · exact Nat.mod_lt _ (by decide)
  · omega
/-- What the calls of a line need of memory. -/
structure LW (w : World) (b o n : Nat) (f : Nat → Nat) (W : World) : Prop where
  nt : NTab W
  ft : FTab W
  hd : Hd W b o n f
  bl : Below w.heap.size w W
theorem NTab.lt9 {w : World} (h : NTab w) : 0 < w.heap.size := cell_ltL (h.nm 0 (by decide))
theorem NTab.below9 {w w' : World} (h : NTab w) (hb : Below w.heap.size w w') : NTab w' := ⟨fun i hi => (hb.cell (p := ⟨0, i, none⟩) h.lt9).trans (h.nm i hi)⟩
theorem LW.on {w : World} {b o n : Nat} {f : Nat → Nat} {W W' : World} (h : LW w b o n f W) (hn : 0 < n) (hb : Below W.heap.size W W') : LW w b o n f W' :=
  ⟨h.nt.below9 hb, h.ft.below hb, ⟨fun i hi => (hb.cell (p := ⟨b, o + i, none⟩) (cell_ltL (h.hd.at_ i hi))).trans (h.hd.at_ i hi), h.hd.bd⟩, h.bl.trans (hb.mono h.bl.size)⟩
theorem strApp9 (a b : List UInt8) : (⟨a.toArray⟩ : ByteArray) ++ ⟨b.toArray⟩ = ⟨(a ++ b).toArray⟩ := by
  apply ByteArray.ext
  simp
theorem belowDN {w : World} (n : Nat) : Below w.heap.size w (w.drewN n) := ⟨rfl, rfl, rfl, Nat.le_refl _, fun _ _ => rfl⟩
theorem retL {a b : List UInt8} {x y : Int} (h : a = b) (g : x = y) : Ending.returned (.tuple #[.string ⟨a.toArray⟩, .int .i64 x]) = .returned (.tuple #[.string ⟨b.toArray⟩, .int .i64 y]) := by rw [h, g]
theorem isaLine_short (k : Nat) (hk : k < 256) (pc : Nat) (w : World) (b o n cap : Nat) (f : Nat → Nat) (H : Hd w b o n f) (h0 : f 0 = k) (hn0 : 0 < n) (hs : n < lnN k) :
    Calls Tryd.prog 5 #[.slice (some ⟨b, o, none⟩) n cap, .int .u16 (pc : Nat)] w fun e w' => e = .returned (.tuple #[.string ⟨#[]⟩, .int .i64 11]) ∧ Below w.heap.size w w' := by
  have MC : Hid _ := modeOf_any k hk
  have LC : Hid _ := lenOf_any k hk
  have c0 : w.cell? ⟨b, o, none⟩ = some (.int .u8 (k : Int)) := by have := H.at_ 0 hn0; rw [h0] at this; exact this
  have l3 := (ln_md k hk).1
  have hnz : ((n : Int) == 0) = false := by rw [beq_eq_false_iff_ne]; omega
  clear H
  generalize mdN k = md at *
  generalize lnN k = ln at *
  go_enter Tryd.func5, Tryd.ntmps5
  go_wp2_with (first
    | (go_at_call 9; go_must (refine (MC.out _).mono ?_; rintro e w1 ⟨rfl, hw1⟩; obtain rfl := hw1.symm))
    | (go_at_call 8; go_must (refine (LC.out _).mono ?_; rintro e w1 ⟨rfl, hw1⟩; obtain rfl := hw1.symm)))
  go_ret2
  exact ⟨rfl, Below.refl _ _⟩
theorem isaLine_none (pc : Nat) (w : World) (a : Option Addr) (cap : Nat) :
    Calls Tryd.prog 5 #[.slice a 0 cap, .int .u16 (pc : Nat)] w fun e w' => e = .returned (.tuple #[.string ⟨#[]⟩, .int .i64 11]) ∧ Below w.heap.size w w' := by
  go_enter Tryd.func5, Tryd.ntmps5
  go_wp2
  go_ret2
  exact ⟨rfl, Below.refl _ _⟩
set_option maxRecDepth 100000 in
set_option maxHeartbeats 2000000 in
theorem isaLine_any (k : Nat) (hk : k < 256) (pc : Nat) (hp : pc < 65536) (w : World) (b o n cap : Nat) (f : Nat → Nat) (H : Hd w b o n f) (h0 : f 0 = k) (hs : lnN k ≤ n) (hn2 : n ≤ 4611686018427387904) (NT : NTab w) (FT : FTab w) :
    Calls Tryd.prog 5 #[.slice (some ⟨b, o, none⟩) n cap, .int .u16 (pc : Nat)] w fun e w' => e = .returned (.tuple #[.string ⟨(lineT k (f 1) (f 2) pc).toArray⟩, .int .i64 0]) ∧ Below w.heap.size w w' := by
  have MC : Hid (∀ w, _) := modeOf_any k hk
  have LC : Hid (∀ w, _) := lenOf_any k hk
  have RC : Hid (∀ w, _) := rowOf_any k hk
  have l3 := (ln_md k hk).1
  have hn0 : 0 < n := by omega
  obtain ⟨o70, m13⟩ := opmd_lt k hk
  have hnz : ((n : Int) == 0) = false := by rw [beq_eq_false_iff_ne]; omega
  have HL : Hid (LW w b o n f w) := ⟨NT, FT, H, Below.refl _ _⟩
  have c0 : w.cell? ⟨b, o, none⟩ = some (.int .u8 (k : Int)) := by have := H.at_ 0 hn0; rw [h0] at this; exact this
  have hsn : ¬ (n : Int) < (lnN k : Int) := by omega
  clear NT FT H
  unfold rowV at RC
  go_enter Tryd.func5, Tryd.ntmps5
  go_upto_region 3 with (first
    | (go_at_call 9; go_must (refine (MC.out _).mono ?_; rintro e w1 ⟨rfl, hw1⟩; obtain rfl := hw1.symm))
    | (go_at_call 8; go_must (refine (LC.out _).mono ?_; rintro e w1 ⟨rfl, hw1⟩; obtain rfl := hw1.symm)))
  clear MC LC
  go_cut [6] (fun q wx => ∃ r : Nat, q = .pointer (some ⟨r, 0, none⟩) ∧ Blk wx r #[.int .i64 (opN k : Nat), .int .i64 (mdN k : Nat), .int .i64 (clN k : Nat)] 35 ∧ LW w b o n f wx)
  case first =>
    go_wp2_with (go_at_call 10; go_must (refine (RC.out _).mono ?_; rintro e w1 ⟨rfl, hb1⟩))
    go_meet
    exact ⟨_, rfl, Blk.new _ _ _, (HL.out.on hn0 hb1).on hn0 ((Below.refl _ _).alloc (Nat.le_refl _) _)⟩
  case rest =>
  clear RC HL c0
  obtain ⟨r, rfl, rB, hL⟩ := hcut
  have EC : Hid (Calls _ _ _ _ _) := encode_any (opN k : Nat) (mdN k : Nat) _ hL.nt
  have cN := hL.nt.nm (opN k) o70
  have rc := rB.cell
  have hl1 := nm_len (opN k)
  have HT : Hid (nmT k = nmL.getD (opN k) [] ++ (if owN k then [] else 46 :: hx2 k)) := rfl
  have HO : Hid (owN k = ((encS (opN k : Nat) (mdN k : Nat)).2 == 0 && (encS (opN k : Nat) (mdN k : Nat)).1 == k)) := rfl
  generalize encS (opN k : Nat) (mdN k : Nat) = E at *
  obtain ⟨e1, e2⟩ := E
  generalize nmL.getD (opN k) [] = nm at *
  go_upto_region 6 with (go_at_call 11; go_must (refine EC.out.mono ?_; rintro e w1 ⟨rfl, hb1⟩))
  have rB1 := rB.below rB.lt hb1
  have hL1 := hL.on hn0 hb1
  clear EC cN rc rB hL hb1
  have c0 : w1.cell? ⟨b, o, none⟩ = some (.int .u8 (k : Int)) := by have := hL1.hd.at_ 0 hn0; rw [h0] at this; exact this
  go_cut [8, 9, 31, 36, 37, 38, 47] (fun _ _ _ _ _ _ q wx => q = .bool (!owN k) ∧ w1 = wx)
  case first =>
    by_cases g2 : e2 = 0
    · subst g2
      by_cases g1 : e1 = k
      · subst g1
        go_wp2
        go_meet
        exact ⟨by rw [HO.out]; simp, rfl⟩
      · have HG1 : Hid (((e1 : Int) == (k : Int)) = false) := by unfold Hid; rw [beq_eq_false_iff_ne]; omega
        have HG2 : Hid ((e1 == k) = false) := by unfold Hid; rw [beq_eq_false_iff_ne]; exact g1
        clear g1
        go_wp2
        go_meet
        exact ⟨by rw [HO.out, HG2.out, bne, HG1.out]; rfl, rfl⟩
    · have HG2 : Hid ((e2 == 0) = false) := by unfold Hid; rw [beq_eq_false_iff_ne]; exact g2
      go_wp2
      go_meet
      exact ⟨by rw [HO.out, HG2.out]; rfl, rfl⟩
  case rest =>
  obtain ⟨rfl, rfl⟩ := hcut
  clear HO
  have FC : Hid (Calls _ _ _ _ _) := fill_any [46, 104, 104] (by decide) k (by omega) w1
  rw [fill_point] at FC
  have hlx : (46 :: hx2 k).length = 3 := rfl
  generalize hx2 k = X at *
  generalize hTt : nmT k = T at *
  have HTT : Hid (nmT k = T) := hTt
  clear hTt
  have hTl : T.length ≤ 13 := by
    rw [HT.out, List.length_append]
    split <;> simp at * <;> omega
  go_upto_if 47 with fail
  go_cut [7] (fun q wx => q = .string ⟨T.toArray⟩ ∧ Blk wx r #[.int .i64 (opN k : Nat), .int .i64 (mdN k : Nat), .int .i64 (clN k : Nat)] 35 ∧ LW w b o n f wx)
  case first =>
    cases ho : owN k
    · have HZ : Hid (nm ++ 46 :: X = T) := by have := HT.out; rw [ho] at this; exact this.symm
      go_wp2_with (go_at_call 12; go_must (refine FC.out.mono ?_; rintro e w2 ⟨rfl, hb2⟩))
      go_meet
      exact ⟨by rw [strApp9, HZ.out], rB1.below rB1.lt hb2, hL1.on hn0 hb2⟩
    · have HZ : Hid (nm = T) := by have := HT.out; rw [ho] at this; unfold Hid; simpa using this.symm
      clear FC
      go_wp2
      go_meet
      exact ⟨by rw [HZ.out], rB1, hL1⟩
  case rest =>
  clear rB1 hL1 c0 FC HT
  obtain ⟨rfl, rB, hL⟩ := hcut
  have rc := rB.cell
  have hvl := vl_lt k (f 1) (f 2) pc (hL.hd.bd 1) (hL.hd.bd 2)
  have WC : Hid (∀ q : Nat, Calls _ _ _ _ _) := fun q => written_any (mdN k) m13 _ (hL.on hn0 (belowDN q)).ft
  have SC : Hid (∀ q : Nat, Calls _ _ _ _ _) := fun q => shown_any k hk pc hp _ b o n cap f (hL.on hn0 (belowDN q)).hd hs hn2
  generalize (if lnN k = 3 then 1 else 0) = dq at SC
  have FC : Hid (∀ W : World, Calls _ _ _ _ _) := fun W => fill_any (wrB (mdN k)) (wr_len _) (vlN k (f 1) (f 2) pc) hvl W
  have HLN : Hid (T ++ (fillP (wrB (mdN k)) (vlN k (f 1) (f 2) pc)).1 = lineT k (f 1) (f 2) pc) := by unfold Hid lineT; rw [fill_wr _ _ m13, HTT.out]
  have hfl : (fillP (wrB (mdN k)) (vlN k (f 1) (f 2) pc)).1.length ≤ 100 := by rw [fillP_len]; exact wr_len _
  generalize (fillP (wrB (mdN k)) (vlN k (f 1) (f 2) pc)).1 = Z at *
  obtain ⟨LT, hLT⟩ : ∃ x, lineT k (f 1) (f 2) pc = x := ⟨_, rfl⟩
  rw [hLT] at HLN
  have HLT : Hid _ := hLT
  clear hLT
  generalize vlN k (f 1) (f 2) pc = V at *
  generalize wrB (mdN k) = Y at *
  go_upto_region 8 with fail
  go_region_with (first
    | (go_at_call 13; go_must (refine (WC.out _).mono ?_; rintro e w2 ⟨rfl, hw2⟩; obtain rfl := hw2.symm))
    | (go_at_call 14; go_must (refine (SC.out _).mono ?_; rintro e w2 ⟨rfl, hw2⟩; obtain rfl := hw2.symm))
    | (go_at_call 12; go_must (refine (FC.out _).mono ?_; rintro e w2 ⟨rfl, hb2⟩)))
  all_goals
    go_wp2
    go_ret2
    exact ⟨by rw [HLT.out, ← HLN.out, ← strApp9]; rfl, (hL.on hn0 ((belowDN _).trans hb2)).bl⟩
end Go.Proofs.YtebnapgnnflnhaaDoor
