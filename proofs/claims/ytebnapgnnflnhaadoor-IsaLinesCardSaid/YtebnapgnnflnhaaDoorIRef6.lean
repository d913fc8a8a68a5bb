/-
  What row of the document's isa answers; conditions: a byte; the letters lie in their variable.
-/
import Derived.Test.YtebnapgnnflnhaaDoorIRef5
import Derived.Test.YtebnapgnnflnhaaDoorIBlk
import Derived.Deep.QuietTactic
import Derived.BigQuiet
import Derived.Deep.RegionWith
import Derived.Deep.DeepCutAuto
set_option linter.unusedSimpArgs false
set_option linter.unusedVariables false
namespace Go.Proofs.YtebnapgnnflnhaaDoor
open Go.RowKit Go.WideShapes
abbrev Z6 : Array Value := #[.int .i64 0, .int .i64 0, .int .i64 0, .int .i64 0, .int .i64 0, .int .i64 0]
abbrev Op6 (o : Nat) : Array Value := #[.int .i64 (o : Nat), .int .i64 0, .int .i64 0, .int .i64 0, .int .i64 0, .int .i64 0]
/-- The letters lie in their variable. -/
structure LTab (w : World) : Prop where
  lt : ∀ i, i < 13 → w.cell? ⟨3, i, none⟩ = some (.string (ltB i))
theorem beqBA {a b : ByteArray} (h : (a == b) = true) : a = b := by
  obtain ⟨d1⟩ := a
  obtain ⟨d2⟩ := b
  have h' : (d1 == d2) = true := h
  rw [eq_of_beq h']
theorem get0 (z : ByteArray) (h : 0 < z.size) : z.get! 0 = z[0] := by
  obtain ⟨d⟩ := z
  have h' : 0 < d.size := h
  show d[0]! = d[0]
  exact getElem!_pos d 0 h'
theorem cell_ltw {w : World} {p : Addr} {v : Value} (h : w.cell? p = some v) : p.block < w.heap.size := by
  refine Nat.lt_of_not_le fun hle => ?_
  have : w.heap[p.block]? = none := by simp [hle]
  simp [World.cell?, this] at h
theorem bare_ok (k : Nat) (hk : k < 256) : 3 ≤ (bareB k).size ∧ (bareB k).size ≤ 9 ∧ (bareB k).extract 0 3 = nmB (opN k) ∧ (4 < (bareB k).size ↔ mdN k ≠ 0) ∧ (4 < (bareB k).size → (bareB k).extract 4 (bareB k).size = ltB (mdN k)) ∧ 3 ≤ (cellB k).size ∧ (cellB k).size ≤ 9 ∧ ((cellB k).get! 0 = 40 ↔ clN k = 3) ∧ (clN k = 3 → (cellB k).extract 1 ((cellB k).size - 1) = bareB k) ∧ (clN k ≠ 3 → cellB k = bareB k) := by
  have h := List.all_eq_true.1 okBare_all k (by simpa using hk)
  simp only [okBare, Bool.and_eq_true, decide_eq_true_eq] at h
  obtain ⟨⟨⟨⟨⟨⟨⟨⟨h1, h2⟩, h3⟩, h4⟩, h5⟩, h6⟩, h7⟩, h8⟩, h9⟩ := h
  refine ⟨h1, h2, beqBA h3, ?_, ?_, by omega, h8, ?_, ?_, ?_⟩
  · have := eq_of_beq h4
    by_cases a : 4 < (bareB k).size <;> simp_all
  · intro a
    simp only [a, decide_true, Bool.not_true, Bool.false_or] at h5
    exact beqBA h5
  · have := eq_of_beq h6
    rw [Bool.eq_iff_iff] at this
    simpa using this
  · intro a; rw [if_pos a] at h9; exact beqBA h9
  · intro a; rw [if_neg a] at h9; exact beqBA h9
set_option maxRecDepth 100000 in
set_option maxHeartbeats 1000000 in
theorem rrow_any (k : Nat) (hk : k < 256) (w : World) (T : LTab w) :
    Calls Tryd.prog 15 #[.int .u8 (k : Nat)] w fun e w' => e = .returned (.agg #[.int .i64 (opN k : Nat), .int .i64 (mdN k : Nat), .int .i64 (kdN k : Nat), .int .i64 (lnN k : Nat), .int .i64 0, .int .i64 (clN k : Nat)]) ∧ Below w.heap.size w w' := by
  obtain ⟨h1, h2, h3, h4, h5, h6, h7, h8, h9, h10⟩ := bare_ok k hk
  have CC := Hid.mk1 (cell_any k hk)
  have NC := Hid.mk1 (named_any (opN k) (opN_lt k hk))
  generalize cellB k = z at *
  generalize bareB k = y at *
  have hz0 : (0 : Int) < z.size := by omega
  have hfil : ((z[0].toNat : Int) == 40) = fil k := by
    have e : z.get! 0 = z[0] := get0 z (by omega)
    rw [e] at h8
    unfold fil
    rw [Bool.eq_iff_iff, beq_iff_eq, beq_iff_eq, ← h8]
    constructor
    · intro a; exact UInt8.toNat_inj.1 (show z[0].toNat = 40 by omega)
    · intro a; rw [a]; rfl
  go_enter Tryd.func15, Tryd.ntmps15
  go_upto_if 12 with (go_at_call 25; go_must (refine (CC.out _).mono ?_; rintro e w1 ⟨rfl, hw1⟩; obtain rfl := hw1.symm))
  have hb0 : Below w.heap.size w (w.alloc (.cells Z6 45)) := (Below.refl _ _).alloc (Nat.le_refl _) _
  have bR0 : Blk (w.alloc (.cells Z6 45)) w.heap.size Z6 45 := Blk.new w _ _
  change Code.wp _ _ _ _ (w.alloc (.cells Z6 45))
  obtain ⟨W0, hW0⟩ : ∃ W0, W0 = w.alloc (.cells Z6 45) := ⟨_, rfl⟩
  have hs0 : W0.heap.size = w.heap.size + 1 := by rw [hW0]; simp
  rw [← hW0] at hb0 bR0 ⊢
  have HS0 := Hid.mk1 hs0
  have H4 := Hid.mk1 h4
  have H5 := Hid.mk1 h5
  clear hW0 hs0 h4 h5
  have T' : Hid (LTab w) := T
  clear T h8 hz0 hfil
  go_cut [3, 4] (fun q f wx => q = .string y ∧ f = .bool (fil k) ∧ W0 = wx)
  case first =>
    by_cases hf : clN k = 3
    · have ef : fil k = true := by unfold fil; rw [hf]; rfl
      have hx := h9 hf
      have hs1 : (1 : Int) ≤ (z.size : Int) - 1 := by omega
      clear h9 h10 hf
      rw [ef]
      go_wp2
      go_meet
      exact ⟨rfl, by rw [ef], rfl⟩
    · have ef : fil k = false := by unfold fil; simp [hf]
      have hx := h10 hf
      clear h9 h10 hf
      subst hx
      rw [ef]
      go_wp2
      go_meet
      exact ⟨rfl, by rw [ef], rfl⟩
  case rest =>
  obtain ⟨rfl, rfl, rfl⟩ := hcut
  clear h6 h7 h9 h10 CC
  have h33 : (3 : Int) ≤ y.size := by omega
  go_upto_if 24 with (go_at_call 26; go_must (refine (NC.out _).mono ?_; rintro e w1 ⟨rfl, hw1⟩; obtain rfl := hw1.symm))
  have hb1 : Below w.heap.size w (W0.alloc (.cells (Op6 (opN k)) 45)) := hb0.alloc hb0.size _
  have bI : Blk (W0.alloc (.cells (Op6 (opN k)) 45)) W0.heap.size (Op6 (opN k)) 45 := Blk.new W0 _ _
  have bR : Blk (W0.alloc (.cells (Op6 (opN k)) 45)) w.heap.size Z6 45 := bR0.old _
  change Code.wp _ _ _ _ (W0.alloc (.cells (Op6 (opN k)) 45))
  generalize (W0.alloc (.cells (Op6 (opN k)) 45)) = W1 at *
  have hq : w.heap.size < W0.heap.size := by have := HS0.out; omega
  clear bR0 hb0 HS0 NC
  obtain ⟨q, hqe⟩ : ∃ q, q = W0.heap.size := ⟨_, rfl⟩
  rw [← hqe] at bI hq ⊢
  clear hqe W0
  go_cut [] (fun wx => Below w.heap.size w wx ∧ Blk wx q #[.int .i64 (opN k : Nat), .int .i64 (mdN k : Nat), .int .i64 0, .int .i64 0, .int .i64 0, .int .i64 0] 45 ∧ Blk wx w.heap.size Z6 45)
  case first =>
    by_cases hm0 : mdN k = 0
    · have hn : ¬ (4 : Int) < y.size := by
        have := H4.out; intro h; exact this.1 (by omega) hm0
      have hn' : decide ((4 : Int) < y.size) = false := decide_eq_false hn
      rw [hn']
      have bI' : Blk W1 q #[.int .i64 (opN k : Nat), .int .i64 (mdN k : Nat), .int .i64 0, .int .i64 0, .int .i64 0, .int .i64 0] 45 := by rw [hm0]; exact bI
      clear hn hn'
      go_wp2
      go_meet
      exact ⟨hb1, bI', bR⟩
    · have hp : (4 : Int) < y.size := by have := H4.out.2 hm0; omega
      have hp' : decide ((4 : Int) < y.size) = true := decide_eq_true hp
      rw [hp']
      have hx := H5.out (by omega)
      clear H4 H5 hp'
      go_wp2
      go_loopw [6] (fun i wr => ∃ j : Nat, j ≤ 13 ∧ i = .int .i64 j ∧ Below w.heap.size w wr ∧ Blk wr q #[.int .i64 (opN k : Nat), .int .i64 (if mdN k < j then mdN k else 0 : Nat), .int .i64 0, .int .i64 0, .int .i64 0, .int .i64 0] 45 ∧ Blk wr w.heap.size Z6 45) (fun i _ => 13 - (intOf i).toNat)
      case atStart => exact ⟨0, by omega, rfl, hb1, by simpa using bI, bR⟩
      case round =>
        clear hb1 bI bR
        obtain ⟨j, hj, rfl, hb1, bI, bR⟩ := hrel
        by_cases hj13 : j = 13
        · subst hj13
          rw [if_pos (mdN_lt k hk)] at bI
          go_wp2
          go_meet
          exact ⟨hb1, bI, bR⟩
        · have hj' : (j : Int) < 13 := by omega
          have c := (hb1.cell (p := ⟨3, j, none⟩) (cell_ltw (T'.out.lt j (by omega)))).trans (T'.out.lt j (by omega))
          by_cases hjm : j = mdN k
          · subst hjm
            rw [if_neg (Nat.lt_irrefl _)] at bI
            have f1 := bI.free 1
            have c1 : wr.cell? ⟨q, 1, none⟩ = some (.int .i64 0) := bI.cell 1
            have bI' := bI.set 1 (.int .i64 (mdN k : Nat))
            have bR' := bR.other (m := q) (by omega) 1 (.int .i64 (mdN k : Nat))
            have hb1' := hb1.setCell (p := ⟨q, 1, none⟩) (Nat.le_of_lt hq) (.int .i64 (mdN k : Nat))
            go_upto_region 11 with fail
            go_quiet (fail)
            go_wp2
            go_roundw
            case rel => exact ⟨mdN k + 1, by omega, by go_num, hb1'.trans ⟨rfl, rfl, rfl, Nat.le_refl _, fun _ _ => rfl⟩, by rw [if_pos (Nat.lt_succ_self _)]; exact bI', bR'⟩
            case measure => simp [intOf]; omega
          · have hne := ltB_ne j (mdN k) (by omega) (mdN_lt k hk) hjm
            go_upto_region 11 with fail
            go_quiet (fail)
            go_wp2
            go_roundw
            case rel => exact ⟨j + 1, by omega, by go_num, hb1.trans ⟨rfl, rfl, rfl, Nat.le_refl _, fun _ _ => rfl⟩, by rw [show (if mdN k < j + 1 then mdN k else 0) = (if mdN k < j then mdN k else 0) by split <;> split <;> omega]; exact bI, bR⟩
            case measure => simp [intOf]; omega
  case rest =>
  obtain ⟨hb2, bI2, bR2⟩ := hcut
  clear hb1 bI bR H4 H5
  have hcell := bI2.cell
  have hfree := bI2.free
  go_upto_region 13 with fail
  go_cut [] (fun w3 => Below w.heap.size w w3 ∧ Blk w3 q #[.int .i64 (opN k : Nat), .int .i64 (mdN k : Nat), .int .i64 (kdN k : Nat), .int .i64 0, .int .i64 0, .int .i64 0] 45 ∧ Blk w3 w.heap.size Z6 45)
  case first =>
    go_region_with (go_at_call 27; refine (rkind_any k hk _).mono ?_; rintro e w1 ⟨rfl, hw1⟩; obtain rfl := hw1.symm)
    go_wp2
    go_meet
    exact ⟨(hb2.setCell (p := ⟨q, 2, none⟩) (Nat.le_of_lt hq) _).drew, bI2.set 2 (.int .i64 (kdN k : Nat)), bR2.other (m := q) (by omega) 2 (.int .i64 (kdN k : Nat))⟩
  case rest =>
  clear hb2 bI2 bR2 hcell hfree
  obtain ⟨hb2, bI2, bR2⟩ := hcut
  have hcell := bI2.cell
  have hfree := bI2.free
  have rcell := bR2.cell
  have rfree := bR2.free
  have hne : ¬ q = w.heap.size := by omega
  have hne' : ¬ w.heap.size = q := by omega
  go_wp2_with (first
    | (go_at_call 28; refine (rlen_any k hk _).mono ?_; rintro e w1 ⟨rfl, hw1⟩; obtain rfl := hw1.symm)
    | (go_at_call 29; refine (rclass_any k hk _).mono ?_; rintro e w1 ⟨rfl, hw1⟩; obtain rfl := hw1.symm))
  have hbF := ((((((((hb2.setCell (p := ⟨q, 3, none⟩) (Nat.le_of_lt hq) (.int .i64 (lnN k : Nat))).setCell (p := ⟨q, 5, none⟩) (Nat.le_of_lt hq) (.int .i64 (clN k : Nat))).setCell (p := ⟨w.heap.size, 0, none⟩) (Nat.le_refl _) (.int .i64 (opN k : Nat))).setCell (p := ⟨w.heap.size, 1, none⟩) (Nat.le_refl _) (.int .i64 (mdN k : Nat))).setCell (p := ⟨w.heap.size, 2, none⟩) (Nat.le_refl _) (.int .i64 (kdN k : Nat))).setCell (p := ⟨w.heap.size, 3, none⟩) (Nat.le_refl _) (.int .i64 (lnN k : Nat))).setCell (p := ⟨w.heap.size, 4, none⟩) (Nat.le_refl _) (.int .i64 0)).setCell (p := ⟨w.heap.size, 5, none⟩) (Nat.le_refl _) (.int .i64 (clN k : Nat)))
  have bF := ((((((((bR2.other (m := q) hne' 3 (.int .i64 (lnN k : Nat))).other (m := q) hne' 5 (.int .i64 (clN k : Nat))).set 0 (.int .i64 (opN k : Nat))).set 1 (.int .i64 (mdN k : Nat))).set 2 (.int .i64 (kdN k : Nat))).set 3 (.int .i64 (lnN k : Nat))).set 4 (.int .i64 0)).set 5 (.int .i64 (clN k : Nat)))
  have rf := bF.cell
  clear hcell hfree rcell rfree hb2 bI2 bR2 bF
  revert hbF rf
  generalize World.setCell _ ⟨w.heap.size, 5, none⟩ (.int .i64 (clN k : Nat)) = Wf
  intro hbF rf
  exact bodyPost_ret (v := .agg #[.int .i64 (opN k : Nat), .int .i64 (mdN k : Nat), .int .i64 (kdN k : Nat), .int .i64 (lnN k : Nat), .int .i64 0, .int .i64 (clN k : Nat)]) (by simp [results, Tryd.results15, go_sem, rf]) rfl ⟨rfl, hbF⟩
end Go.Proofs.YtebnapgnnflnhaaDoor
