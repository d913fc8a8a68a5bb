/-
  What readHead answers of every image; conditions: the image lies in its slice.
-/
import Derived.Test.YtilhlbnicmmaoaaDoorPag1
import Derived.BigQuiet
import Derived.StillTactics
import Derived.Deep.DeepCutAuto
set_option linter.unusedSimpArgs false
set_option linter.unusedVariables false
namespace Go.Proofs.YtilhlbnicmmaoaaDoor
open Go.RowKit
/-- What readHead is to answer. -/
def RhOk (L : List Nat) (w : World) (e : Ending) (w' : World) : Prop := Below w.heap.size w w' ∧
  (if (frontE L L.length).1 ≠ 0 then fault e ((frontE L L.length).1 : Nat) ((frontE L L.length).2 : Nat) else if (hdOf L).bad ≠ 0 then fault e 12 ((hdOf L).bad : Nat) else e = .returned (.agg (hv (hdOf L))))
theorem RhOk.front {L : List Nat} {w w' : World} {e : Ending} {x p : Nat} (hb : Below w.heap.size w w') (h : frontE L L.length = (x, p)) (hx : x ≠ 0) (hf : fault e (x : Nat) (p : Nat)) : RhOk L w e w' := by
  refine ⟨hb, ?_⟩
  rw [if_pos (by rw [h]; exact hx), h]
  exact hf
theorem RhOk.bad {L : List Nat} {w w' : World} {e : Ending} {p : Nat} (hb : Below w.heap.size w w') (h : (frontE L L.length).1 = 0) (hx : (hdOf L).bad = p) (hp : p ≠ 0) (hf : fault e 12 (p : Nat)) : RhOk L w e w' := by
  refine ⟨hb, ?_⟩
  rw [if_neg (by rw [h]; exact fun x => x rfl), if_pos (by rw [hx]; exact hp), hx]
  exact hf
theorem RhOk.good {L : List Nat} {w w' : World} (hb : Below w.heap.size w w') (h : (frontE L L.length).1 = 0) (hx : (hdOf L).bad = 0) : RhOk L w (.returned (.agg (hv (hdOf L)))) w' := by
  refine ⟨hb, ?_⟩
  rw [if_neg (by rw [h]; exact fun x => x rfl), if_neg (by rw [hx]; exact fun x => x rfl)]
def mgL : List Nat := [78, 69, 83, 26]
theorem fb_at (h : Hq) : ∀ (k i : Nat), i + k = 16 → (∀ j, j < i → bits BinOp.and IntKind.u8 ((h.l.getD j 0 : Nat) : Int) ((h.rs.getD j 0 : Nat) : Int) = 0) → h.bad = h.fb k i
  | 16, 0, _, _ => rfl
  | k, 0, e, _ => by obtain rfl : k = 16 := by omega
                     rfl
  | k, i + 1, e, hj => by
    rw [fb_at h (k + 1) i (by omega) (fun j hj' => hj j (by omega))]
    show (if bits BinOp.and IntKind.u8 ((h.l.getD i 0 : Nat) : Int) ((h.rs.getD i 0 : Nat) : Int) = 0 then h.fb k (i + 1) else i) = _
    rw [if_pos (hj i (by omega))]
theorem rs0 (h : Hq) : h.rs.getD 0 0 = 0 := by
  unfold Hq.rs
  split
  · rfl
  · split <;> rfl
theorem and_z (b : Nat) (h : b < 256) : bits BinOp.and IntKind.u8 (b : Int) 0 = 0 := by
  have g : ∀ t : Fin 256, bits BinOp.and IntKind.u8 ((t.val : Nat) : Int) 0 = 0 := by decide +kernel
  exact g ⟨b, h⟩
theorem rs_size (h : Hq) : (vals h.rs).toArray.size = 16 := by
  unfold Hq.rs
  split
  · rfl
  · split <;> rfl
theorem rs_lt (h : Hq) (i : Nat) : h.rs.getD i 0 < 256 := by
  have g : ∀ y ∈ h.rs, y < 256 := by
    unfold Hq.rs Hq.kdM
    intro y hy
    split at hy
    · simp only [List.mem_cons, List.not_mem_nil, or_false] at hy
      split at hy <;> omega
    · split at hy
      · simp only [List.mem_cons, List.not_mem_nil, or_false] at hy
        split at hy
        · omega
        · split at hy <;> omega
      · simp only [List.mem_cons, List.not_mem_nil, or_false] at hy
        omega
  rw [List.getD_eq_getElem?_getD]
  cases e : h.rs[i]? with
  | none => decide
  | some v => exact g v (List.mem_of_getElem? e)
theorem list16 (l : List Nat) (hl : l.length = 16) : ∃ a0 a1 a2 a3 a4 a5 a6 a7 a8 a9 a10 a11 a12 a13 a14 a15, l = [a0, a1, a2, a3, a4, a5, a6, a7, a8, a9, a10, a11, a12, a13, a14, a15] := by
  match l, hl with
  | [a0, a1, a2, a3, a4, a5, a6, a7, a8, a9, a10, a11, a12, a13, a14, a15], _ => exact ⟨_, _, _, _, _, _, _, _, _, _, _, _, _, _, _, _, rfl⟩
theorem ix16 (l : List Nat) (hl : l.length = 16) (W : World) (i : Nat) (hi : i < 16) : Sem.run Tryd.prog (Instr.index 67 (.agg (vals l).toArray) (.int .i64 (i : Nat))) W = .ok (.int .u8 (l.getD i 0 : Nat)) W := by
  obtain ⟨a0, a1, a2, a3, a4, a5, a6, a7, a8, a9, a10, a11, a12, a13, a14, a15, rfl⟩ := list16 l hl
  rcases (show i = 0 ∨ i = 1 ∨ i = 2 ∨ i = 3 ∨ i = 4 ∨ i = 5 ∨ i = 6 ∨ i = 7 ∨ i = 8 ∨ i = 9 ∨ i = 10 ∨ i = 11 ∨ i = 12 ∨ i = 13 ∨ i = 14 ∨ i = 15 by omega) with rfl | rfl | rfl | rfl | rfl | rfl | rfl | rfl | rfl | rfl | rfl | rfl | rfl | rfl | rfl | rfl <;> kernel_rfl
theorem rs_len (h : Hq) : h.rs.length = 16 := by
  unfold Hq.rs
  split
  · rfl
  · split <;> rfl
set_option maxRecDepth 100000 in
set_option maxHeartbeats 3200000 in
theorem readHead_nil (a : Option Addr) (k : Nat) (w : World) : Calls Tryd.prog 41 #[.slice a 0 k] w (RhOk [] w) := by
  have GU : Hid (∀ (x p : Int) (W : World), Calls _ _ _ _ _) := fun x p W => giveUp_any x p W
  go_enter Tryd.func41, Tryd.ntmps41
  go_upto_region 2 with fail
  have hb0 : Below w.heap.size w (w.alloc (.cells Z16 67)) := (Below.refl _ _).alloc (Nat.le_refl _) _
  generalize w.alloc (.cells Z16 67) = W0 at *
  go_loopw [3, 7] (fun _ z wr => z = .int .i64 0 ∧ wr = W0) (fun _ z _ => 4 - (intOf z).toNat)
  case atStart => exact ⟨rfl, rfl⟩
  case round =>
    obtain ⟨rfl, rfl⟩ := hrel
    go_wp2_with fail
    refine (GU.out _ _ _).mono ?_
    rintro e W1 ⟨hf, rfl⟩
    unfold fault at hf
    subst hf
    exact ⟨rfl, RhOk.front hb0 (x := 11) (p := 0) rfl (by decide) rfl⟩
set_option maxRecDepth 100000 in
set_option maxHeartbeats 6400000 in
theorem readHead_some (L : List Nat) (hB : Bytes L) (b off n k : Nat) (w : World) (hI : L.length = n) (h0n : 0 < n) (hn : n ≤ 2097152) (hr : Row w (some ⟨b, off, none⟩) L) :
    Calls Tryd.prog 41 #[.slice (some ⟨b, off, none⟩) n k] w (RhOk L w) := by
  have GU : Hid (∀ (x p : Int) (W : World), Calls _ _ _ _ _) := fun x p W => giveUp_any x p W
  have HI : Hid (L.length = n) := hI
  have RW : Hid (∀ W : World, Below w.heap.size w W → Row W (some ⟨b, off, none⟩) L) := fun W hb => hr.below hb
  have HK : Hid ((hdOf L).Ok) := hd_ok L hB
  clear hI hr hB
  go_enter Tryd.func41, Tryd.ntmps41
  go_upto_region 1 with fail
  have z0 : Blk (w.alloc (.cells Z16 67)) w.heap.size Z16 67 := Blk.new w Z16 _
  have hb0 : Below w.heap.size w (w.alloc (.cells Z16 67)) := (Below.refl _ _).alloc (Nat.le_refl _) _
  generalize w.alloc (.cells Z16 67) = W0 at *
  go_upto_region 2 with fail
  go_loopw [3, 7] (fun _ z wr => ∃ i : Nat, i ≤ 4 ∧ i ≤ n ∧ z = .int .i64 i ∧ (∀ j, j < i → L.getD j 0 = mgL.getD j 0) ∧ Blk wr w.heap.size Z16 67 ∧ Below w.heap.size w wr) (fun _ z _ => 4 - (intOf z).toNat)
  case atStart => exact ⟨0, by omega, by omega, rfl, (fun _ h => absurd h (Nat.not_lt_zero _)), z0, hb0⟩
  case round =>
    clear z0 hb0
    obtain ⟨i, hi4, hin, rfl, hm, z0, hb0⟩ := hrel
    by_cases h4 : i < 4
    · rcases (show i = 0 ∨ i = 1 ∨ i = 2 ∨ i = 3 by omega) with rfl | rfl | rfl | rfl
      · have HM : Hid (∀ j, j < 0 → L.getD j 0 = mgL.getD j 0) := hm
        clear hm
        by_cases hle : n ≤ 0
        · exact absurd h0n (by omega)
        · obtain ⟨v, hv⟩ : ∃ v, L.getD 0 0 = v := ⟨_, rfl⟩
          have HV : Hid (L.getD 0 0 = v) := hv
          have cm : wr.cell? ⟨b, off + 0, none⟩ = some (.int .u8 (v : Nat)) := row_at (RW.out _ hb0) 0 v (by rw [HI.out]; omega) hv
          have cm0 : wr.cell? ⟨b, off, none⟩ = some (.int .u8 (v : Nat)) := cm
          clear hv
          have hlt : (0 : Int) < (n : Int) := by omega
          have hltN : 0 < n := by omega
          have hge : ¬ (n : Int) ≤ 0 := by omega
          clear hle
          by_cases hvm : v = 78
          · have hvm' : ((v : Int) != (((⟨#[78, 69, 83, 26]⟩ : ByteArray)[0]'(by decide)).toNat : Int)) = false := by rw [hvm]; rfl
            have HV2 : Hid (L.getD 0 0 = 78) := HV.out.trans hvm
            clear hvm
            go_upto_region 6 with fail
            go_quiet (fail)
            go_wp2
            go_roundw
            case rel => exact ⟨1, by decide, by omega, by go_num, (fun j hj => by
              rcases (show j < 0 ∨ j = 0 by omega) with h | rfl
              · exact HM.out j h
              · exact HV2.out), z0.below z0.lt (below_draws (Below.refl _ _) _), below_draws hb0 _⟩
            case measure => simp [intOf]
          · have hvm' : ((v : Int) != (((⟨#[78, 69, 83, 26]⟩ : ByteArray)[0]'(by decide)).toNat : Int)) = true := by rw [bne_iff_ne]; show (v : Int) ≠ 78; omega
            have HFR : Hid (frontE L L.length = (10, 0)) := by
              unfold Hid frontE; rw [HI.out]; rw [if_neg (show ¬ n ≤ 0 by omega), if_pos (show L.getD 0 0 ≠ 78 from fun x => hvm (HV.out.symm.trans x))]
            clear hvm
            go_upto_region 6 with fail
            go_quiet (fail)
            go_wp2_with fail
            refine (GU.out _ _ _).mono ?_
            rintro e W9 ⟨hf, rfl⟩
            unfold fault at hf
            subst hf
            exact ⟨rfl, RhOk.front (below_draws hb0 _) HFR.out (by decide) rfl⟩
      · have HM : Hid (∀ j, j < 1 → L.getD j 0 = mgL.getD j 0) := hm
        clear hm
        by_cases hle : n ≤ 1
        · have HFR : Hid (frontE L L.length = (11, n)) := by
            unfold Hid frontE; rw [HI.out]; rw [if_neg (show ¬ n ≤ 0 by omega), if_neg (show ¬ L.getD 0 0 ≠ 78 from fun x => x (HM.out 0 (by decide)))]; rw [if_pos hle]
          have hle' : (n : Int) ≤ 1 := by omega
          clear hle
          go_wp2_with fail
          refine (GU.out _ _ _).mono ?_
          rintro e W9 ⟨hf, rfl⟩
          unfold fault at hf
          subst hf
          exact ⟨rfl, RhOk.front hb0 HFR.out (by decide) rfl⟩
        · obtain ⟨v, hv⟩ : ∃ v, L.getD 1 0 = v := ⟨_, rfl⟩
          have HV : Hid (L.getD 1 0 = v) := hv
          have cm : wr.cell? ⟨b, off + 1, none⟩ = some (.int .u8 (v : Nat)) := row_at (RW.out _ hb0) 1 v (by rw [HI.out]; omega) hv
          have cm0 : wr.cell? ⟨b, off + 1, none⟩ = some (.int .u8 (v : Nat)) := cm
          clear hv
          have hlt : (1 : Int) < (n : Int) := by omega
          have hltN : 1 < n := by omega
          have hge : ¬ (n : Int) ≤ 1 := by omega
          clear hle
          by_cases hvm : v = 69
          · have hvm' : ((v : Int) != (((⟨#[78, 69, 83, 26]⟩ : ByteArray)[1]'(by decide)).toNat : Int)) = false := by rw [hvm]; rfl
            have HV2 : Hid (L.getD 1 0 = 69) := HV.out.trans hvm
            clear hvm
            go_upto_region 6 with fail
            go_quiet (fail)
            go_wp2
            go_roundw
            case rel => exact ⟨2, by decide, by omega, by go_num, (fun j hj => by
              rcases (show j < 1 ∨ j = 1 by omega) with h | rfl
              · exact HM.out j h
              · exact HV2.out), z0.below z0.lt (below_draws (Below.refl _ _) _), below_draws hb0 _⟩
            case measure => simp [intOf]
          · have hvm' : ((v : Int) != (((⟨#[78, 69, 83, 26]⟩ : ByteArray)[1]'(by decide)).toNat : Int)) = true := by rw [bne_iff_ne]; show (v : Int) ≠ 69; omega
            have HFR : Hid (frontE L L.length = (10, 1)) := by
              unfold Hid frontE; rw [HI.out]; rw [if_neg (show ¬ n ≤ 0 by omega), if_neg (show ¬ L.getD 0 0 ≠ 78 from fun x => x (HM.out 0 (by decide)))]; rw [if_neg (show ¬ n ≤ 1 by omega), if_pos (show L.getD 1 0 ≠ 69 from fun x => hvm (HV.out.symm.trans x))]
            clear hvm
            go_upto_region 6 with fail
            go_quiet (fail)
            go_wp2_with fail
            refine (GU.out _ _ _).mono ?_
            rintro e W9 ⟨hf, rfl⟩
            unfold fault at hf
            subst hf
            exact ⟨rfl, RhOk.front (below_draws hb0 _) HFR.out (by decide) rfl⟩
      · have HM : Hid (∀ j, j < 2 → L.getD j 0 = mgL.getD j 0) := hm
        clear hm
        by_cases hle : n ≤ 2
        · have HFR : Hid (frontE L L.length = (11, n)) := by
            unfold Hid frontE; rw [HI.out]; rw [if_neg (show ¬ n ≤ 0 by omega), if_neg (show ¬ L.getD 0 0 ≠ 78 from fun x => x (HM.out 0 (by decide)))]; rw [if_neg (show ¬ n ≤ 1 by omega), if_neg (show ¬ L.getD 1 0 ≠ 69 from fun x => x (HM.out 1 (by decide)))]; rw [if_pos hle]
          have hle' : (n : Int) ≤ 2 := by omega
          clear hle
          go_wp2_with fail
          refine (GU.out _ _ _).mono ?_
          rintro e W9 ⟨hf, rfl⟩
          unfold fault at hf
          subst hf
          exact ⟨rfl, RhOk.front hb0 HFR.out (by decide) rfl⟩
        · obtain ⟨v, hv⟩ : ∃ v, L.getD 2 0 = v := ⟨_, rfl⟩
          have HV : Hid (L.getD 2 0 = v) := hv
          have cm : wr.cell? ⟨b, off + 2, none⟩ = some (.int .u8 (v : Nat)) := row_at (RW.out _ hb0) 2 v (by rw [HI.out]; omega) hv
          have cm0 : wr.cell? ⟨b, off + 2, none⟩ = some (.int .u8 (v : Nat)) := cm
          clear hv
          have hlt : (2 : Int) < (n : Int) := by omega
          have hltN : 2 < n := by omega
          have hge : ¬ (n : Int) ≤ 2 := by omega
          clear hle
          by_cases hvm : v = 83
          · have hvm' : ((v : Int) != (((⟨#[78, 69, 83, 26]⟩ : ByteArray)[2]'(by decide)).toNat : Int)) = false := by rw [hvm]; rfl
            have HV2 : Hid (L.getD 2 0 = 83) := HV.out.trans hvm
            clear hvm
            go_upto_region 6 with fail
            go_quiet (fail)
            go_wp2
            go_roundw
            case rel => exact ⟨3, by decide, by omega, by go_num, (fun j hj => by
              rcases (show j < 2 ∨ j = 2 by omega) with h | rfl
              · exact HM.out j h
              · exact HV2.out), z0.below z0.lt (below_draws (Below.refl _ _) _), below_draws hb0 _⟩
            case measure => simp [intOf]
          · have hvm' : ((v : Int) != (((⟨#[78, 69, 83, 26]⟩ : ByteArray)[2]'(by decide)).toNat : Int)) = true := by rw [bne_iff_ne]; show (v : Int) ≠ 83; omega
            have HFR : Hid (frontE L L.length = (10, 2)) := by
              unfold Hid frontE; rw [HI.out]; rw [if_neg (show ¬ n ≤ 0 by omega), if_neg (show ¬ L.getD 0 0 ≠ 78 from fun x => x (HM.out 0 (by decide)))]; rw [if_neg (show ¬ n ≤ 1 by omega), if_neg (show ¬ L.getD 1 0 ≠ 69 from fun x => x (HM.out 1 (by decide)))]; rw [if_neg (show ¬ n ≤ 2 by omega), if_pos (show L.getD 2 0 ≠ 83 from fun x => hvm (HV.out.symm.trans x))]
            clear hvm
            go_upto_region 6 with fail
            go_quiet (fail)
            go_wp2_with fail
            refine (GU.out _ _ _).mono ?_
            rintro e W9 ⟨hf, rfl⟩
            unfold fault at hf
            subst hf
            exact ⟨rfl, RhOk.front (below_draws hb0 _) HFR.out (by decide) rfl⟩
      · have HM : Hid (∀ j, j < 3 → L.getD j 0 = mgL.getD j 0) := hm
        clear hm
        by_cases hle : n ≤ 3
        · have HFR : Hid (frontE L L.length = (11, n)) := by
            unfold Hid frontE; rw [HI.out]; rw [if_neg (show ¬ n ≤ 0 by omega), if_neg (show ¬ L.getD 0 0 ≠ 78 from fun x => x (HM.out 0 (by decide)))]; rw [if_neg (show ¬ n ≤ 1 by omega), if_neg (show ¬ L.getD 1 0 ≠ 69 from fun x => x (HM.out 1 (by decide)))]; rw [if_neg (show ¬ n ≤ 2 by omega), if_neg (show ¬ L.getD 2 0 ≠ 83 from fun x => x (HM.out 2 (by decide)))]; rw [if_pos hle]
          have hle' : (n : Int) ≤ 3 := by omega
          clear hle
          go_wp2_with fail
          refine (GU.out _ _ _).mono ?_
          rintro e W9 ⟨hf, rfl⟩
          unfold fault at hf
          subst hf
          exact ⟨rfl, RhOk.front hb0 HFR.out (by decide) rfl⟩
        · obtain ⟨v, hv⟩ : ∃ v, L.getD 3 0 = v := ⟨_, rfl⟩
          have HV : Hid (L.getD 3 0 = v) := hv
          have cm : wr.cell? ⟨b, off + 3, none⟩ = some (.int .u8 (v : Nat)) := row_at (RW.out _ hb0) 3 v (by rw [HI.out]; omega) hv
          have cm0 : wr.cell? ⟨b, off + 3, none⟩ = some (.int .u8 (v : Nat)) := cm
          clear hv
          have hlt : (3 : Int) < (n : Int) := by omega
          have hltN : 3 < n := by omega
          have hge : ¬ (n : Int) ≤ 3 := by omega
          clear hle
          by_cases hvm : v = 26
          · have hvm' : ((v : Int) != (((⟨#[78, 69, 83, 26]⟩ : ByteArray)[3]'(by decide)).toNat : Int)) = false := by rw [hvm]; rfl
            have HV2 : Hid (L.getD 3 0 = 26) := HV.out.trans hvm
            clear hvm
            go_upto_region 6 with fail
            go_quiet (fail)
            go_wp2
            go_roundw
            case rel => exact ⟨4, by decide, by omega, by go_num, (fun j hj => by
              rcases (show j < 3 ∨ j = 3 by omega) with h | rfl
              · exact HM.out j h
              · exact HV2.out), z0.below z0.lt (below_draws (Below.refl _ _) _), below_draws hb0 _⟩
            case measure => simp [intOf]
          · have hvm' : ((v : Int) != (((⟨#[78, 69, 83, 26]⟩ : ByteArray)[3]'(by decide)).toNat : Int)) = true := by rw [bne_iff_ne]; show (v : Int) ≠ 26; omega
            have HFR : Hid (frontE L L.length = (10, 3)) := by
              unfold Hid frontE; rw [HI.out]; rw [if_neg (show ¬ n ≤ 0 by omega), if_neg (show ¬ L.getD 0 0 ≠ 78 from fun x => x (HM.out 0 (by decide)))]; rw [if_neg (show ¬ n ≤ 1 by omega), if_neg (show ¬ L.getD 1 0 ≠ 69 from fun x => x (HM.out 1 (by decide)))]; rw [if_neg (show ¬ n ≤ 2 by omega), if_neg (show ¬ L.getD 2 0 ≠ 83 from fun x => x (HM.out 2 (by decide)))]; rw [if_neg (show ¬ n ≤ 3 by omega), if_pos (show L.getD 3 0 ≠ 26 from fun x => hvm (HV.out.symm.trans x))]
            clear hvm
            go_upto_region 6 with fail
            go_quiet (fail)
            go_wp2_with fail
            refine (GU.out _ _ _).mono ?_
            rintro e W9 ⟨hf, rfl⟩
            unfold fault at hf
            subst hf
            exact ⟨rfl, RhOk.front (below_draws hb0 _) HFR.out (by decide) rfl⟩
    · obtain rfl : i = 4 := by omega
      generalize wr = W1 at *
      clear h4 hi4
      have HF0 : Hid (frontE L L.length = if n < 16 then (11, n) else (0, 0)) := by
        unfold Hid frontE; rw [HI.out]; rw [if_neg (show ¬ n ≤ 0 by omega), if_neg (show ¬ L.getD 0 0 ≠ 78 from fun x => x (hm 0 (by decide)))]; rw [if_neg (show ¬ n ≤ 1 by omega), if_neg (show ¬ L.getD 1 0 ≠ 69 from fun x => x (hm 1 (by decide)))]; rw [if_neg (show ¬ n ≤ 2 by omega), if_neg (show ¬ L.getD 2 0 ≠ 83 from fun x => x (hm 2 (by decide)))]; rw [if_neg (show ¬ n ≤ 3 by omega), if_neg (show ¬ L.getD 3 0 ≠ 26 from fun x => x (hm 3 (by decide)))]
      clear hm
      by_cases h16 : n < 16
      · have h16' : (n : Int) < 16 := by omega
        have HFR : Hid (frontE L L.length = (11, n)) := by unfold Hid; rw [HF0.out, if_pos h16]
        go_wp2_with fail
        refine (GU.out _ _ _).mono ?_
        rintro e W9 ⟨hf, rfl⟩
        unfold fault at hf
        subst hf
        exact ⟨rfl, RhOk.front hb0 HFR.out (by decide) rfl⟩
      have HFR : Hid ((frontE L L.length).1 = 0) := by unfold Hid; rw [HF0.out, if_neg h16]
      have hge16 : ¬ (n : Int) < 16 := by omega
      have hn16 : 16 ≤ n := by omega
      clear h16 HF0
      go_upto_region 12 with fail
      clear hge16
      have bh : Blk (W1.alloc (.cells Z16 67)) W1.heap.size Z16 67 := Blk.new W1 Z16 _
      have hA : Below W1.heap.size W1 (W1.alloc (.cells Z16 67)) := (Below.refl _ _).alloc (Nat.le_refl _) _
      have hb1 := hb0.trans (hA.mono hb0.size)
      have z1 := z0.below z0.lt hA
      have hlt1 : w.heap.size < W1.heap.size := z0.lt
      clear hA z0 hb0
      generalize W1.alloc (.cells Z16 67) = W2 at *
      generalize W1.heap.size = m at *
      have HB : Hid (W2.heap[m]? = some (.cells (List.replicate 16 (.int .u8 0)).toArray 67 (0, 0))) := bh
      have HT : Hid (L.take 16 = (hdOf L).l) := hd_take L (by rw [HI.out]; exact hn16)
      have F1 : Hid ((vals (hdOf L).l).length = Nat.min n 16) := by
        unfold Hid
        rw [show Nat.min n 16 = 16 from Nat.min_eq_right hn16]
        rfl
      have F2 : Hid (0 < (vals (hdOf L).l).length → (some ⟨m, 0, none⟩ : Option Addr) = some ⟨m, 0, none⟩ ∧ ∃ ad, (some ⟨b, off, none⟩ : Option Addr) = some ad ∧ ∀ j v, (vals (hdOf L).l)[j]? = some v → W2.cell? (ad.add j) = some v) := by
        intro _
        refine ⟨rfl, _, rfl, fun j v hv => ?_⟩
        have hj : j < 16 := (List.getElem?_eq_some_iff.1 hv).1
        rw [Addr.add_lit, row_at (RW.out _ hb1) j _ (by rw [HI.out]; omega) rfl]
        have e2 : L.getD j 0 = (hdOf L).l.getD j 0 := by
          rw [← HT.out, List.getD_eq_getElem?_getD, List.getD_eq_getElem?_getD, List.getElem?_take, if_pos hj]
        rw [e2]
        have hv2 : (vals (hdOf L).l)[j]? = some (.int .u8 ((hdOf L).l.getD j 0 : Nat)) := by
          have hj' : j < (hdOf L).l.length := hj
          simp [vals, hj']
        rw [← hv, hv2]
      have F3 : Hid (0 + (vals (hdOf L).l).length ≤ (List.replicate 16 (Value.int .u8 0)).length) := by unfold Hid; exact Nat.le_refl 16
      clear bh
      obtain ⟨H, hH⟩ : ∃ H, hdOf L = H := ⟨_, rfl⟩
      have HH : Hid (hdOf L = H) := hH
      rw [hH] at F1 F2 F3 HK HT
      clear hH HT
      go_cut [35] (fun _ wx => Blk wx m (hv H) 67 ∧ Blk wx w.heap.size Z16 67 ∧ Below w.heap.size w wx)
      case first =>
        go_wp2_with (refine wpList_copy_splice rfl _ _ 22 22 rfl 5 (by kernel_rfl) (by kernel_rfl) (some ⟨m, 0, none⟩) (some ⟨b, off, none⟩) 16 16 n k rfl rfl m 0 (List.replicate 16 (.int .u8 0)) 67 HB.out (vals H.l) F1.out F2.out F3.out (vals_one _) m W2 (Below.refl _ _) (Nat.le_refl _) ?_; intro w5 hg5 hb6)
        go_meet
        have hg := hg5.out
        rw [splice_full _ _ (by rfl)] at hg
        exact ⟨hg, z1.below hlt1 hb6, hb1.trans (hb6.mono (Nat.le_of_lt hlt1))⟩
      case rest =>
      clear HB F1 F2 F3 z1 hb1
      obtain ⟨bh, z1, hb1⟩ := hcut
      generalize wc = W3 at *
      go_upto_region 13 with fail
      have HL : Hid ((hv H).size = 16 ∧ (hv H).all (·.oneCell') = true) := ⟨rfl, vals_one' _⟩
      have RC : Hid (Calls _ _ _ _ _) := reserved_g H HK.out (hv H) rfl W3
      go_wp2_with (refine wpList_load_mid rfl 67 _ rfl m 0 rfl (hv H).toList _ bh.range Tryd.underlying67 rfl (by exact infoHdr) ?_; rw [Array.toArray_toList])
      refine RC.out.mono ?_
      rintro e W4 ⟨rfl, hb4⟩
      have bh4 := bh.below bh.lt hb4
      have z4 := z1.below z1.lt hb4
      have hb14 := hb1.trans (hb4.mono hb1.size)
      obtain ⟨rl, hrl⟩ : ∃ rl, H.rs = rl := ⟨_, rfl⟩
      have HRL : Hid (H.rs = rl) := hrl
      have IX : Hid (∀ (W : World) (i : Nat), i < 16 → Sem.run Tryd.prog (Instr.index 67 (.agg (vals rl).toArray) (.int .i64 (i : Nat))) W = .ok (.int .u8 (rl.getD i 0 : Nat)) W) := fun W i hi => ix16 rl (by rw [← hrl]; exact rs_len H) W i hi
      have HQ : Hid (∀ i : Nat, rl.getD i 0 < 256) := fun i => by rw [← hrl]; exact rs_lt H i
      rw [hrl]
      clear RC hrl bh z1 hb1 hb4
      generalize (vals rl).toArray = RA at *
      go_upto_region 14 with fail
      go_loopw [5, 6, 38] (fun _ _ z wr => ∃ i : Nat, i ≤ 16 ∧ z = .int .i64 i ∧ (∀ j, j < i → bits BinOp.and IntKind.u8 ((H.l.getD j 0 : Nat) : Int) ((rl.getD j 0 : Nat) : Int) = 0) ∧ Blk wr m (hv H) 67 ∧ Blk wr w.heap.size Z16 67 ∧ Below w.heap.size w wr) (fun _ _ z _ => 16 - (intOf z).toNat)
      case atStart => exact ⟨0, by omega, rfl, (fun _ h => absurd h (Nat.not_lt_zero _)), bh4, z4, hb14⟩
      case round =>
        clear bh4 z4 hb14
        obtain ⟨i, hi16, rfl, hj, bh, z1, hb1⟩ := hrel
        have HJ : Hid _ := hj
        clear hj
        by_cases h16 : i < 16
        · have hx := IX.out wr i h16
          have dh : wr.cell? ⟨m, i, none⟩ = some (.int .u8 (H.l.getD i 0 : Nat)) := by
            have hj' : i < H.l.length := h16
            rw [bh.cell i]
            simp [hv, vals, hj']
          obtain ⟨u, hu⟩ : ∃ u, H.l.getD i 0 = u := ⟨_, rfl⟩
          obtain ⟨q, hq⟩ : ∃ q, rl.getD i 0 = q := ⟨_, rfl⟩
          have HU : Hid (H.l.getD i 0 = u ∧ rl.getD i 0 = q) := ⟨hu, hq⟩
          rw [hu] at dh
          rw [hq] at hx
          clear hu hq
          by_cases hz : bits BinOp.and IntKind.u8 (u : Int) (q : Int) = 0
          · have HZ : Hid (bits BinOp.and IntKind.u8 (u : Int) (q : Int) = 0) := hz
            go_wp2
            go_roundw
            case rel => exact ⟨i + 1, by omega, by go_num, (fun j hj => by
              rcases (show j < i ∨ j = i by omega) with h | rfl
              · exact HJ.out j h
              · rw [HU.out.1, HU.out.2]; exact HZ.out), bh, z1, hb1⟩
            case measure => simp [intOf]; omega
          · have HBD : Hid ((hdOf L).bad = i ∧ i ≠ 0) := by
              rw [HH.out]
              have e1 := fb_at H (15 - i + 1) i (by omega) (fun j hj => by rw [HRL.out]; exact HJ.out j hj)
              refine ⟨?_, fun e0 => ?_⟩
              · rw [e1]
                show (if bits BinOp.and IntKind.u8 ((H.l.getD i 0 : Nat) : Int) ((H.rs.getD i 0 : Nat) : Int) = 0 then H.fb (15 - i) (i + 1) else i) = _
                rw [HRL.out, HU.out.1, HU.out.2, if_neg hz]
              · subst e0
                have e2 : q = 0 := by rw [← HU.out.2, ← HRL.out]; exact rs0 H
                rw [e2] at hz
                exact hz (and_z u (by rw [← HU.out.1]; exact HK.out.k0))
            have hz' : (bits BinOp.and IntKind.u8 (u : Int) (q : Int) != 0) = true := by rw [bne_iff_ne]; exact hz
            clear hz
            go_wp2_with fail
            refine (GU.out _ _ _).mono ?_
            rintro e W9 ⟨hf, rfl⟩
            unfold fault at hf
            subst hf
            exact ⟨rfl, RhOk.bad hb1 HFR.out HBD.out.1 HBD.out.2 rfl⟩
        · obtain rfl : i = 16 := by omega
          generalize wr = W5 at *
          have HBD : Hid ((hdOf L).bad = 0) := by
            rw [HH.out]
            exact fb_at H 0 16 rfl (fun j hj => by rw [HRL.out]; exact HJ.out j hj)
          go_upto_region 19 with fail
          obtain ⟨LA, hLA⟩ : ∃ LA, hv H = LA := ⟨_, rfl⟩
          have HLL : Hid (hv (hdOf L) = LA) := by unfold Hid; rw [HH.out]; exact hLA
          rw [hLA] at bh HL
          clear hLA HJ
          go_wp2_with (first
            | refine wpList_load_mid rfl 67 _ rfl m 0 rfl LA.toList _ bh.range Tryd.underlying67 rfl (by rw [Array.length_toList, HL.out.1]; exact infoHdr) ?_
            | refine wpList_store_mid rfl 67 _ _ rfl w.heap.size 0 LA rfl rfl (by exact z1.there _ HL.out.1.symm) (by rw [HL.out.1]; exact infoHdr) HL.out.2 ?_)
          refine ret_agg1 (m := w.heap.size) (L := LA) Tryd.results41 (by rfl) (z1.setAll (L := LA) (by rw [HL.out.1]; rfl)) Tryd.underlying67 rfl (by rw [HL.out.1]; exact infoHdr) ?_
          rw [← HLL.out]
          exact RhOk.good (setCells_below (Nat.le_refl _) _ _ _ _ hb1) HFR.out HBD.out
theorem readHead_g (L : List Nat) (hB : Bytes L) (a : Option Addr) (n k : Nat) (w : World) (hI : L.length = n) (hn : n ≤ 2097152) (hr : Row w a L) :
    Calls Tryd.prog 41 #[.slice a n k] w (RhOk L w) := by
  by_cases h0 : L = []
  · subst h0
    obtain rfl : n = 0 := hI.symm
    exact readHead_nil a k w
  · have hpos : 0 < n := by rw [← hI]; exact List.length_pos_iff.2 h0
    rcases hr with e | ⟨b, off, e, hc⟩
    · exact absurd e h0
    · subst e
      exact readHead_some L hB b off n k w hI hpos hn (.inr ⟨b, off, rfl, hc⟩)
end Go.Proofs.YtilhlbnicmmaoaaDoor
