/-
  What readHead answers of every image; conditions: the image lies in its slice.
  What the header's nes2Fields and setWork put; conditions: the cartridge in the making lies in a block of its own.
  What the header's fields answers of every header; conditions: the bytes are bytes.
-/
import Derived.Test.YtpdbndkckioamaaDoorPagW
import Derived.BigQuiet
import Derived.StillTactics
import Derived.Deep.DeepCutAuto
import Derived.StillTailTactics
import Derived.Deep.RegionHeld3
set_option linter.unusedSimpArgs false
set_option linter.unusedVariables false
namespace Go.Proofs.YtpdbndkckioamaaDoor
open Go.RowKit
/-- What readHead is to answer. -/
def RhOk (L : List Nat) (w : World) (e : Ending) (w' : World) : Prop := Below w.heap.size w w' ∧
  (if (frontE L L.length).1 ≠ 0 then fault e ((frontE L L.length).1 : Nat) ((frontE L L.length).2 : Nat) else if (hdOf L).bad ≠ 0 then fault e 12 ((hdOf L).bad : Nat) else e = .returned (.agg (hv (hdOf L))))
theorem RhOk.front {L : List Nat} {w w' : World} {e : Ending} {x p : Nat} (hb : Below w.heap.size w w') (h : frontE L L.length = (x, p)) (hx : x ≠ 0) (hf : fault e (x : Nat) (p : Nat)) : RhOk L w e w' := by
  refine ⟨hb, ?_⟩
  rw [if_pos (by rw [h]; exact hx), h]
  exact hf
theorem RhOk.bad {L : List Nat} {w w' : World} {e : Ending} {p : Nat} (hb : Below w.heap.size w w') (h : (frontE L L.length).1 = 0) (hx : (hdOf L).bad = p) (hp : p ≠ 0) (hf : fault e 12 (p : Nat)) : RhOk L w e w' := by
  refine ⟨hb, ?_⟩
  rw [if_neg (by rw [h]; exact fun x => x rfl), if_pos (by rw [hx]; exact hp), hx]
  exact hf
theorem RhOk.good {L : List Nat} {w w' : World} (hb : Below w.heap.size w w') (h : (frontE L L.length).1 = 0) (hx : (hdOf L).bad = 0) : RhOk L w (.returned (.agg (hv (hdOf L)))) w' := by
  refine ⟨hb, ?_⟩
  rw [if_neg (by rw [h]; exact fun x => x rfl), if_neg (by rw [hx]; exact fun x => x rfl)]
def mgL : List Nat := [78, 69, 83, 26]
theorem fb_at (h : Hq) : ∀ (k i : Nat), i + k = 16 → (∀ j, j < i → bits BinOp.and IntKind.u8 ((h.l.getD j 0 : Nat) : Int) ((h.rs.getD j 0 : Nat) : Int) = 0) → h.bad = h.fb k i
  | 16, 0, _, _ => rfl
  | k, 0, e, _ => by obtain rfl : k = 16 := by omega
                     rfl
  | k, i + 1, e, hj => by
    rw [fb_at h (k + 1) i (by omega) (fun j hj' => hj j (by omega))]
    show (if bits BinOp.and IntKind.u8 ((h.l.getD i 0 : Nat) : Int) ((h.rs.getD i 0 : Nat) : Int) = 0 then h.fb k (i + 1) else i) = _
    rw [if_pos (hj i (by omega))]
theorem rs0 (h : Hq) : h.rs.getD 0 0 = 0 := by
  unfold Hq.rs
  split
  · rfl
  · split <;> rfl
theorem and_z (b : Nat) (h : b < 256) : bits BinOp.and IntKind.u8 (b : Int) 0 = 0 := by
  have g : ∀ t : Fin 256, bits BinOp.and IntKind.u8 ((t.val : Nat) : Int) 0 = 0 := by decide +kernel
  exact g ⟨b, h⟩
theorem rs_size (h : Hq) : (vals h.rs).toArray.size = 16 := by
  unfold Hq.rs
  split
  · rfl
  · split <;> rfl
theorem rs_lt (h : Hq) (i : Nat) : h.rs.getD i 0 < 256 := by
  have g : ∀ y ∈ h.rs, y < 256 := by
    unfold Hq.rs Hq.kdM
    intro y hy
    split at hy
    · simp only [List.mem_cons, List.not_mem_nil, or_false] at hy
      split at hy <;> omega
    · split at hy
      · simp only [List.mem_cons, List.not_mem_nil, or_false] at hy
        split at hy
        · omega
        · split at hy <;> omega
      · simp only [List.mem_cons, List.not_mem_nil, or_false] at hy
        omega
  rw [List.getD_eq_getElem?_getD]
  cases e : h.rs[i]? with
  | none => decide
  | some v => exact g v (List.mem_of_getElem? e)
theorem list16 (l : List Nat) (hl : l.length = 16) : ∃ a0 a1 a2 a3 a4 a5 a6 a7 a8 a9 a10 a11 a12 a13 a14 a15, l = [a0, a1, a2, a3, a4, a5, a6, a7, a8, a9, a10, a11, a12, a13, a14, a15] := by
  match l, hl with
  | [a0, a1, a2, a3, a4, a5, a6, a7, a8, a9, a10, a11, a12, a13, a14, a15], _ => exact ⟨_, _, _, _, _, _, _, _, _, _, _, _, _, _, _, _, rfl⟩
theorem ix16 (l : List Nat) (hl : l.length = 16) (W : World) (i : Nat) (hi : i < 16) : Sem.run Tryd.prog (Instr.index 67 (.agg (vals l).toArray) (.int .i64 (i : Nat))) W = .ok (.int .u8 (l.getD i 0 : Nat)) W := by
  obtain ⟨a0, a1, a2, a3, a4, a5, a6, a7, a8, a9, a10, a11, a12, a13, a14, a15, rfl⟩ := list16 l hl
  rcases (show i = 0 ∨ i = 1 ∨ i = 2 ∨ i = 3 ∨ i = 4 ∨ i = 5 ∨ i = 6 ∨ i = 7 ∨ i = 8 ∨ i = 9 ∨ i = 10 ∨ i = 11 ∨ i = 12 ∨ i = 13 ∨ i = 14 ∨ i = 15 by omega) with rfl | rfl | rfl | rfl | rfl | rfl | rfl | rfl | rfl | rfl | rfl | rfl | rfl | rfl | rfl | rfl <;> kernel_rfl
theorem rs_len (h : Hq) : h.rs.length = 16 := by
  unfold Hq.rs
  split
  · rfl
  · split <;> rfl
set_option maxRecDepth 100000 in
set_option maxHeartbeats 3200000 in
theorem readHead_nil (a : Option Addr) (k : Nat) (w : World) : Calls Tryd.prog 41 #[.slice a 0 k] w (RhOk [] w) := by
  have GU : Hid (∀ (x p : Int) (W : World), Calls _ _ _ _ _) := fun x p W => giveUp_any x p W
  go_enter Tryd.func41, Tryd.ntmps41
  go_upto_region 2 with fail
  have hb0 : Below w.heap.size w (w.alloc (.cells Z16 67)) := (Below.refl _ _).alloc (Nat.le_refl _) _
  generalize w.alloc (.cells Z16 67) = W0 at *
  go_loopw [3, 7] (fun _ z wr => z = .int .i64 0 ∧ wr = W0) (fun _ z _ => 4 - (intOf z).toNat)
  case atStart => exact ⟨rfl, rfl⟩
  case round =>
    obtain ⟨rfl, rfl⟩ := hrel
    go_wp2_with fail
    refine (GU.out _ _ _).mono ?_
    rintro e W1 ⟨hf, rfl⟩
    unfold fault at hf
    subst hf
    exact ⟨rfl, RhOk.front hb0 (x := 11) (p := 0) rfl (by decide) rfl⟩
set_option maxRecDepth 100000 in
set_option maxHeartbeats 6400000 in
theorem readHead_some (L : List Nat) (hB : Bytes L) (b off n k : Nat) (w : World) (hI : L.length = n) (h0n : 0 < n) (hn : n ≤ 2097152) (hr : Row w (some ⟨b, off, none⟩) L) :
    Calls Tryd.prog 41 #[.slice (some ⟨b, off, none⟩) n k] w (RhOk L w) := by
  have GU : Hid (∀ (x p : Int) (W : World), Calls _ _ _ _ _) := fun x p W => giveUp_any x p W
  have HI : Hid (L.length = n) := hI
  have RW : Hid (∀ W : World, Below w.heap.size w W → Row W (some ⟨b, off, none⟩) L) := fun W hb => hr.below hb
  have HK : Hid ((hdOf L).Ok) := hd_ok L hB
  clear hI hr hB
  go_enter Tryd.func41, Tryd.ntmps41
  go_upto_region 1 with fail
  have z0 : Blk (w.alloc (.cells Z16 67)) w.heap.size Z16 67 := Blk.new w Z16 _
  have hb0 : Below w.heap.size w (w.alloc (.cells Z16 67)) := (Below.refl _ _).alloc (Nat.le_refl _) _
  generalize w.alloc (.cells Z16 67) = W0 at *
  go_upto_region 2 with fail
  go_loopw [3, 7] (fun _ z wr => ∃ i : Nat, i ≤ 4 ∧ i ≤ n ∧ z = .int .i64 i ∧ (∀ j, j < i → L.getD j 0 = mgL.getD j 0) ∧ Blk wr w.heap.size Z16 67 ∧ Below w.heap.size w wr) (fun _ z _ => 4 - (intOf z).toNat)
  case atStart => exact ⟨0, by omega, by omega, rfl, (fun _ h => absurd h (Nat.not_lt_zero _)), z0, hb0⟩
  case round =>
    clear z0 hb0
    obtain ⟨i, hi4, hin, rfl, hm, z0, hb0⟩ := hrel
    by_cases h4 : i < 4
    · rcases (show i = 0 ∨ i = 1 ∨ i = 2 ∨ i = 3 by omega) with rfl | rfl | rfl | rfl
      · have HM : Hid (∀ j, j < 0 → L.getD j 0 = mgL.getD j 0) := hm
        clear hm
        by_cases hle : n ≤ 0
        · exact absurd h0n (by omega)
        · obtain ⟨v, hv⟩ : ∃ v, L.getD 0 0 = v := ⟨_, rfl⟩
          have HV : Hid (L.getD 0 0 = v) := hv
          have cm : wr.cell? ⟨b, off + 0, none⟩ = some (.int .u8 (v : Nat)) := row_at (RW.out _ hb0) 0 v (by rw [HI.out]; omega) hv
          have cm0 : wr.cell? ⟨b, off, none⟩ = some (.int .u8 (v : Nat)) := cm
          clear hv
          have hlt : (0 : Int) < (n : Int) := by omega
          have hltN : 0 < n := by omega
          have hge : ¬ (n : Int) ≤ 0 := by omega
          clear hle
          by_cases hvm : v = 78
          · have hvm' : ((v : Int) != (((⟨#[78, 69, 83, 26]⟩ : ByteArray)[0]'(by decide)).toNat : Int)) = false := by rw [hvm]; rfl
            have HV2 : Hid (L.getD 0 0 = 78) := HV.out.trans hvm
            clear hvm
            go_upto_region 6 with fail
            go_quiet (fail)
            go_wp2
            go_roundw
            case rel => exact ⟨1, by decide, by omega, by go_num, (fun j hj => by
              rcases (show j < 0 ∨ j = 0 by omega) with h | rfl
              · exact HM.out j h
              · exact HV2.out), z0.below z0.lt (below_draws (Below.refl _ _) _), below_draws hb0 _⟩
            case measure => simp [intOf]
          · have hvm' : ((v : Int) != (((⟨#[78, 69, 83, 26]⟩ : ByteArray)[0]'(by decide)).toNat : Int)) = true := by rw [bne_iff_ne]; show (v : Int) ≠ 78; omega
            have HFR : Hid (frontE L L.length = (10, 0)) := by
              unfold Hid frontE; rw [HI.out]; rw [if_neg (show ¬ n ≤ 0 by omega), if_pos (show L.getD 0 0 ≠ 78 from fun x => hvm (HV.out.symm.trans x))]
            clear hvm
            go_upto_region 6 with fail
            go_quiet (fail)
            go_wp2_with fail
            refine (GU.out _ _ _).mono ?_
            rintro e W9 ⟨hf, rfl⟩
            unfold fault at hf
            subst hf
            exact ⟨rfl, RhOk.front (below_draws hb0 _) HFR.out (by decide) rfl⟩
      · have HM : Hid (∀ j, j < 1 → L.getD j 0 = mgL.getD j 0) := hm
        clear hm
        by_cases hle : n ≤ 1
        · have HFR : Hid (frontE L L.length = (11, n)) := by
            unfold Hid frontE; rw [HI.out]; rw [if_neg (show ¬ n ≤ 0 by omega), if_neg (show ¬ L.getD 0 0 ≠ 78 from fun x => x (HM.out 0 (by decide)))]; rw [if_pos hle]
          have hle' : (n : Int) ≤ 1 := by omega
          clear hle
          go_wp2_with fail
          refine (GU.out _ _ _).mono ?_
          rintro e W9 ⟨hf, rfl⟩
          unfold fault at hf
          subst hf
          exact ⟨rfl, RhOk.front hb0 HFR.out (by decide) rfl⟩
        · obtain ⟨v, hv⟩ : ∃ v, L.getD 1 0 = v := ⟨_, rfl⟩
          have HV : Hid (L.getD 1 0 = v) := hv
          have cm : wr.cell? ⟨b, off + 1, none⟩ = some (.int .u8 (v : Nat)) := row_at (RW.out _ hb0) 1 v (by rw [HI.out]; omega) hv
          have cm0 : wr.cell? ⟨b, off + 1, none⟩ = some (.int .u8 (v : Nat)) := cm
          clear hv
          have hlt : (1 : Int) < (n : Int) := by omega
          have hltN : 1 < n := by omega
          have hge : ¬ (n : Int) ≤ 1 := by omega
          clear hle
          by_cases hvm : v = 69
          · have hvm' : ((v : Int) != (((⟨#[78, 69, 83, 26]⟩ : ByteArray)[1]'(by decide)).toNat : Int)) = false := by rw [hvm]; rfl
            have HV2 : Hid (L.getD 1 0 = 69) := HV.out.trans hvm
            clear hvm
            go_upto_region 6 with fail
            go_quiet (fail)
            go_wp2
            go_roundw
            case rel => exact ⟨2, by decide, by omega, by go_num, (fun j hj => by
              rcases (show j < 1 ∨ j = 1 by omega) with h | rfl
              · exact HM.out j h
              · exact HV2.out), z0.below z0.lt (below_draws (Below.refl _ _) _), below_draws hb0 _⟩
            case measure => simp [intOf]
          · have hvm' : ((v : Int) != (((⟨#[78, 69, 83, 26]⟩ : ByteArray)[1]'(by decide)).toNat : Int)) = true := by rw [bne_iff_ne]; show (v : Int) ≠ 69; omega
            have HFR : Hid (frontE L L.length = (10, 1)) := by
              unfold Hid frontE; rw [HI.out]; rw [if_neg (show ¬ n ≤ 0 by omega), if_neg (show ¬ L.getD 0 0 ≠ 78 from fun x => x (HM.out 0 (by decide)))]; rw [if_neg (show ¬ n ≤ 1 by omega), if_pos (show L.getD 1 0 ≠ 69 from fun x => hvm (HV.out.symm.trans x))]
            clear hvm
            go_upto_region 6 with fail
            go_quiet (fail)
            go_wp2_with fail
            refine (GU.out _ _ _).mono ?_
            rintro e W9 ⟨hf, rfl⟩
            unfold fault at hf
            subst hf
            exact ⟨rfl, RhOk.front (below_draws hb0 _) HFR.out (by decide) rfl⟩
      · have HM : Hid (∀ j, j < 2 → L.getD j 0 = mgL.getD j 0) := hm
        clear hm
        by_cases hle : n ≤ 2
        · have HFR : Hid (frontE L L.length = (11, n)) := by
            unfold Hid frontE; rw [HI.out]; rw [if_neg (show ¬ n ≤ 0 by omega), if_neg (show ¬ L.getD 0 0 ≠ 78 from fun x => x (HM.out 0 (by decide)))]; rw [if_neg (show ¬ n ≤ 1 by omega), if_neg (show ¬ L.getD 1 0 ≠ 69 from fun x => x (HM.out 1 (by decide)))]; rw [if_pos hle]
          have hle' : (n : Int) ≤ 2 := by omega
          clear hle
          go_wp2_with fail
          refine (GU.out _ _ _).mono ?_
          rintro e W9 ⟨hf, rfl⟩
          unfold fault at hf
          subst hf
          exact ⟨rfl, RhOk.front hb0 HFR.out (by decide) rfl⟩
        · obtain ⟨v, hv⟩ : ∃ v, L.getD 2 0 = v := ⟨_, rfl⟩
          have HV : Hid (L.getD 2 0 = v) := hv
          have cm : wr.cell? ⟨b, off + 2, none⟩ = some (.int .u8 (v : Nat)) := row_at (RW.out _ hb0) 2 v (by rw [HI.out]; omega) hv
          have cm0 : wr.cell? ⟨b, off + 2, none⟩ = some (.int .u8 (v : Nat)) := cm
          clear hv
          have hlt : (2 : Int) < (n : Int) := by omega
          have hltN : 2 < n := by omega
          have hge : ¬ (n : Int) ≤ 2 := by omega
          clear hle
          by_cases hvm : v = 83
          · have hvm' : ((v : Int) != (((⟨#[78, 69, 83, 26]⟩ : ByteArray)[2]'(by decide)).toNat : Int)) = false := by rw [hvm]; rfl
            have HV2 : Hid (L.getD 2 0 = 83) := HV.out.trans hvm
            clear hvm
            go_upto_region 6 with fail
            go_quiet (fail)
            go_wp2
            go_roundw
            case rel => exact ⟨3, by decide, by omega, by go_num, (fun j hj => by
              rcases (show j < 2 ∨ j = 2 by omega) with h | rfl
              · exact HM.out j h
              · exact HV2.out), z0.below z0.lt (below_draws (Below.refl _ _) _), below_draws hb0 _⟩
            case measure => simp [intOf]
          · have hvm' : ((v : Int) != (((⟨#[78, 69, 83, 26]⟩ : ByteArray)[2]'(by decide)).toNat : Int)) = true := by rw [bne_iff_ne]; show (v : Int) ≠ 83; omega
            have HFR : Hid (frontE L L.length = (10, 2)) := by
              unfold Hid frontE; rw [HI.out]; rw [if_neg (show ¬ n ≤ 0 by omega), if_neg (show ¬ L.getD 0 0 ≠ 78 from fun x => x (HM.out 0 (by decide)))]; rw [if_neg (show ¬ n ≤ 1 by omega), if_neg (show ¬ L.getD 1 0 ≠ 69 from fun x => x (HM.out 1 (by decide)))]; rw [if_neg (show ¬ n ≤ 2 by omega), if_pos (show L.getD 2 0 ≠ 83 from fun x => hvm (HV.out.symm.trans x))]
            clear hvm
            go_upto_region 6 with fail
            go_quiet (fail)
            go_wp2_with fail
            refine (GU.out _ _ _).mono ?_
            rintro e W9 ⟨hf, rfl⟩
            unfold fault at hf
            subst hf
            exact ⟨rfl, RhOk.front (below_draws hb0 _) HFR.out (by decide) rfl⟩
      · have HM : Hid (∀ j, j < 3 → L.getD j 0 = mgL.getD j 0) := hm
        clear hm
        by_cases hle : n ≤ 3
        · have HFR : Hid (frontE L L.length = (11, n)) := by
            unfold Hid frontE; rw [HI.out]; rw [if_neg (show ¬ n ≤ 0 by omega), if_neg (show ¬ L.getD 0 0 ≠ 78 from fun x => x (HM.out 0 (by decide)))]; rw [if_neg (show ¬ n ≤ 1 by omega), if_neg (show ¬ L.getD 1 0 ≠ 69 from fun x => x (HM.out 1 (by decide)))]; rw [if_neg (show ¬ n ≤ 2 by omega), if_neg (show ¬ L.getD 2 0 ≠ 83 from fun x => x (HM.out 2 (by decide)))]; rw [if_pos hle]
          have hle' : (n : Int) ≤ 3 := by omega
          clear hle
          go_wp2_with fail
          refine (GU.out _ _ _).mono ?_
          rintro e W9 ⟨hf, rfl⟩
          unfold fault at hf
          subst hf
          exact ⟨rfl, RhOk.front hb0 HFR.out (by decide) rfl⟩
        · obtain ⟨v, hv⟩ : ∃ v, L.getD 3 0 = v := ⟨_, rfl⟩
          have HV : Hid (L.getD 3 0 = v) := hv
          have cm : wr.cell? ⟨b, off + 3, none⟩ = some (.int .u8 (v : Nat)) := row_at (RW.out _ hb0) 3 v (by rw [HI.out]; omega) hv
          have cm0 : wr.cell? ⟨b, off + 3, none⟩ = some (.int .u8 (v : Nat)) := cm
          clear hv
          have hlt : (3 : Int) < (n : Int) := by omega
          have hltN : 3 < n := by omega
          have hge : ¬ (n : Int) ≤ 3 := by omega
          clear hle
          by_cases hvm : v = 26
          · have hvm' : ((v : Int) != (((⟨#[78, 69, 83, 26]⟩ : ByteArray)[3]'(by decide)).toNat : Int)) = false := by rw [hvm]; rfl
            have HV2 : Hid (L.getD 3 0 = 26) := HV.out.trans hvm
            clear hvm
            go_upto_region 6 with fail
            go_quiet (fail)
            go_wp2
            go_roundw
            case rel => exact ⟨4, by decide, by omega, by go_num, (fun j hj => by
              rcases (show j < 3 ∨ j = 3 by omega) with h | rfl
              · exact HM.out j h
              · exact HV2.out), z0.below z0.lt (below_draws (Below.refl _ _) _), below_draws hb0 _⟩
            case measure => simp [intOf]
          · have hvm' : ((v : Int) != (((⟨#[78, 69, 83, 26]⟩ : ByteArray)[3]'(by decide)).toNat : Int)) = true := by rw [bne_iff_ne]; show (v : Int) ≠ 26; omega
            have HFR : Hid (frontE L L.length = (10, 3)) := by
              unfold Hid frontE; rw [HI.out]; rw [if_neg (show ¬ n ≤ 0 by omega), if_neg (show ¬ L.getD 0 0 ≠ 78 from fun x => x (HM.out 0 (by decide)))]; rw [if_neg (show ¬ n ≤ 1 by omega), if_neg (show ¬ L.getD 1 0 ≠ 69 from fun x => x (HM.out 1 (by decide)))]; rw [if_neg (show ¬ n ≤ 2 by omega), if_neg (show ¬ L.getD 2 0 ≠ 83 from fun x => x (HM.out 2 (by decide)))]; rw [if_neg (show ¬ n ≤ 3 by omega), if_pos (show L.getD 3 0 ≠ 26 from fun x => hvm (HV.out.symm.trans x))]
            clear hvm
            go_upto_region 6 with fail
            go_quiet (fail)
            go_wp2_with fail
            refine (GU.out _ _ _).mono ?_
            rintro e W9 ⟨hf, rfl⟩
            unfold fault at hf
            subst hf
            exact ⟨rfl, RhOk.front (below_draws hb0 _) HFR.out (by decide) rfl⟩
    · obtain rfl : i = 4 := by omega
      generalize wr = W1 at *
      clear h4 hi4
      have HF0 : Hid (frontE L L.length = if n < 16 then (11, n) else (0, 0)) := by
        unfold Hid frontE; rw [HI.out]; rw [if_neg (show ¬ n ≤ 0 by omega), if_neg (show ¬ L.getD 0 0 ≠ 78 from fun x => x (hm 0 (by decide)))]; rw [if_neg (show ¬ n ≤ 1 by omega), if_neg (show ¬ L.getD 1 0 ≠ 69 from fun x => x (hm 1 (by decide)))]; rw [if_neg (show ¬ n ≤ 2 by omega), if_neg (show ¬ L.getD 2 0 ≠ 83 from fun x => x (hm 2 (by decide)))]; rw [if_neg (show ¬ n ≤ 3 by omega), if_neg (show ¬ L.getD 3 0 ≠ 26 from fun x => x (hm 3 (by decide)))]
      clear hm
      by_cases h16 : n < 16
      · have h16' : (n : Int) < 16 := by omega
        have HFR : Hid (frontE L L.length = (11, n)) := by unfold Hid; rw [HF0.out, if_pos h16]
        go_wp2_with fail
        refine (GU.out _ _ _).mono ?_
        rintro e W9 ⟨hf, rfl⟩
        unfold fault at hf
        subst hf
        exact ⟨rfl, RhOk.front hb0 HFR.out (by decide) rfl⟩
      have HFR : Hid ((frontE L L.length).1 = 0) := by unfold Hid; rw [HF0.out, if_neg h16]
      have hge16 : ¬ (n : Int) < 16 := by omega
      have hn16 : 16 ≤ n := by omega
      clear h16 HF0
      go_upto_region 12 with fail
      clear hge16
      have bh : Blk (W1.alloc (.cells Z16 67)) W1.heap.size Z16 67 := Blk.new W1 Z16 _
      have hA : Below W1.heap.size W1 (W1.alloc (.cells Z16 67)) := (Below.refl _ _).alloc (Nat.le_refl _) _
      have hb1 := hb0.trans (hA.mono hb0.size)
      have z1 := z0.below z0.lt hA
      have hlt1 : w.heap.size < W1.heap.size := z0.lt
      clear hA z0 hb0
      generalize W1.alloc (.cells Z16 67) = W2 at *
      generalize W1.heap.size = m at *
      have HB : Hid (W2.heap[m]? = some (.cells (List.replicate 16 (.int .u8 0)).toArray 67 (0, 0))) := bh
      have HT : Hid (L.take 16 = (hdOf L).l) := hd_take L (by rw [HI.out]; exact hn16)
      have F1 : Hid ((vals (hdOf L).l).length = Nat.min n 16) := by
        unfold Hid
        rw [show Nat.min n 16 = 16 from Nat.min_eq_right hn16]
        rfl
      have F2 : Hid (0 < (vals (hdOf L).l).length → (some ⟨m, 0, none⟩ : Option Addr) = some ⟨m, 0, none⟩ ∧ ∃ ad, (some ⟨b, off, none⟩ : Option Addr) = some ad ∧ ∀ j v, (vals (hdOf L).l)[j]? = some v → W2.cell? (ad.add j) = some v) := by
        intro _
        refine ⟨rfl, _, rfl, fun j v hv => ?_⟩
        have hj : j < 16 := (List.getElem?_eq_some_iff.1 hv).1
        rw [Addr.add_lit, row_at (RW.out _ hb1) j _ (by rw [HI.out]; omega) rfl]
        have e2 : L.getD j 0 = (hdOf L).l.getD j 0 := by
          rw [← HT.out, List.getD_eq_getElem?_getD, List.getD_eq_getElem?_getD, List.getElem?_take, if_pos hj]
        rw [e2]
        have hv2 : (vals (hdOf L).l)[j]? = some (.int .u8 ((hdOf L).l.getD j 0 : Nat)) := by
          have hj' : j < (hdOf L).l.length := hj
          simp [vals, hj']
        rw [← hv, hv2]
      have F3 : Hid (0 + (vals (hdOf L).l).length ≤ (List.replicate 16 (Value.int .u8 0)).length) := by unfold Hid; exact Nat.le_refl 16
      clear bh
      obtain ⟨H, hH⟩ : ∃ H, hdOf L = H := ⟨_, rfl⟩
      have HH : Hid (hdOf L = H) := hH
      rw [hH] at F1 F2 F3 HK HT
      clear hH HT
      go_cut [35] (fun _ wx => Blk wx m (hv H) 67 ∧ Blk wx w.heap.size Z16 67 ∧ Below w.heap.size w wx)
      case first =>
        go_wp2_with (refine wpList_copy_splice rfl _ _ 22 22 rfl 5 (by kernel_rfl) (by kernel_rfl) (some ⟨m, 0, none⟩) (some ⟨b, off, none⟩) 16 16 n k rfl rfl m 0 (List.replicate 16 (.int .u8 0)) 67 HB.out (vals H.l) F1.out F2.out F3.out (vals_one _) m W2 (Below.refl _ _) (Nat.le_refl _) ?_; intro w5 hg5 hb6)
        go_meet
        have hg := hg5.out
        rw [splice_full _ _ (by rfl)] at hg
        exact ⟨hg, z1.below hlt1 hb6, hb1.trans (hb6.mono (Nat.le_of_lt hlt1))⟩
      case rest =>
      clear HB F1 F2 F3 z1 hb1
      obtain ⟨bh, z1, hb1⟩ := hcut
      generalize wc = W3 at *
      go_upto_region 13 with fail
      have HL : Hid ((hv H).size = 16 ∧ (hv H).all (·.oneCell') = true) := ⟨rfl, vals_one' _⟩
      have RC : Hid (Calls _ _ _ _ _) := reserved_g H HK.out (hv H) rfl W3
      go_wp2_with (refine wpList_load_mid rfl 67 _ rfl m 0 rfl (hv H).toList _ bh.range Tryd.underlying67 rfl (by exact infoHdr) ?_; rw [Array.toArray_toList])
      refine RC.out.mono ?_
      rintro e W4 ⟨rfl, hb4⟩
      have bh4 := bh.below bh.lt hb4
      have z4 := z1.below z1.lt hb4
      have hb14 := hb1.trans (hb4.mono hb1.size)
      obtain ⟨rl, hrl⟩ : ∃ rl, H.rs = rl := ⟨_, rfl⟩
      have HRL : Hid (H.rs = rl) := hrl
      have IX : Hid (∀ (W : World) (i : Nat), i < 16 → Sem.run Tryd.prog (Instr.index 67 (.agg (vals rl).toArray) (.int .i64 (i : Nat))) W = .ok (.int .u8 (rl.getD i 0 : Nat)) W) := fun W i hi => ix16 rl (by rw [← hrl]; exact rs_len H) W i hi
      have HQ : Hid (∀ i : Nat, rl.getD i 0 < 256) := fun i => by rw [← hrl]; exact rs_lt H i
      rw [hrl]
      clear RC hrl bh z1 hb1 hb4
      generalize (vals rl).toArray = RA at *
      go_upto_region 14 with fail
      go_loopw [5, 6, 38] (fun _ _ z wr => ∃ i : Nat, i ≤ 16 ∧ z = .int .i64 i ∧ (∀ j, j < i → bits BinOp.and IntKind.u8 ((H.l.getD j 0 : Nat) : Int) ((rl.getD j 0 : Nat) : Int) = 0) ∧ Blk wr m (hv H) 67 ∧ Blk wr w.heap.size Z16 67 ∧ Below w.heap.size w wr) (fun _ _ z _ => 16 - (intOf z).toNat)
      case atStart => exact ⟨0, by omega, rfl, (fun _ h => absurd h (Nat.not_lt_zero _)), bh4, z4, hb14⟩
      case round =>
        clear bh4 z4 hb14
        obtain ⟨i, hi16, rfl, hj, bh, z1, hb1⟩ := hrel
        have HJ : Hid _ := hj
        clear hj
        by_cases h16 : i < 16
        · have hx := IX.out wr i h16
          have dh : wr.cell? ⟨m, i, none⟩ = some (.int .u8 (H.l.getD i 0 : Nat)) := by
            have hj' : i < H.l.length := h16
            rw [bh.cell i]
            simp [hv, vals, hj']
          obtain ⟨u, hu⟩ : ∃ u, H.l.getD i 0 = u := ⟨_, rfl⟩
          obtain ⟨q, hq⟩ : ∃ q, rl.getD i 0 = q := ⟨_, rfl⟩
          have HU : Hid (H.l.getD i 0 = u ∧ rl.getD i 0 = q) := ⟨hu, hq⟩
          rw [hu] at dh
          rw [hq] at hx
          clear hu hq
          by_cases hz : bits BinOp.and IntKind.u8 (u : Int) (q : Int) = 0
          · have HZ : Hid (bits BinOp.and IntKind.u8 (u : Int) (q : Int) = 0) := hz
            go_wp2
            go_roundw
            case rel => exact ⟨i + 1, by omega, by go_num, (fun j hj => by
              rcases (show j < i ∨ j = i by omega) with h | rfl
              · exact HJ.out j h
              · rw [HU.out.1, HU.out.2]; exact HZ.out), bh, z1, hb1⟩
            case measure => simp [intOf]; omega
          · have HBD : Hid ((hdOf L).bad = i ∧ i ≠ 0) := by
              rw [HH.out]
              have e1 := fb_at H (15 - i + 1) i (by omega) (fun j hj => by rw [HRL.out]; exact HJ.out j hj)
              refine ⟨?_, fun e0 => ?_⟩
              · rw [e1]
                show (if bits BinOp.and IntKind.u8 ((H.l.getD i 0 : Nat) : Int) ((H.rs.getD i 0 : Nat) : Int) = 0 then H.fb (15 - i) (i + 1) else i) = _
                rw [HRL.out, HU.out.1, HU.out.2, if_neg hz]
              · subst e0
                have e2 : q = 0 := by rw [← HU.out.2, ← HRL.out]; exact rs0 H
                rw [e2] at hz
                exact hz (and_z u (by rw [← HU.out.1]; exact HK.out.k0))
            have hz' : (bits BinOp.and IntKind.u8 (u : Int) (q : Int) != 0) = true := by rw [bne_iff_ne]; exact hz
            clear hz
            go_wp2_with fail
            refine (GU.out _ _ _).mono ?_
            rintro e W9 ⟨hf, rfl⟩
            unfold fault at hf
            subst hf
            exact ⟨rfl, RhOk.bad hb1 HFR.out HBD.out.1 HBD.out.2 rfl⟩
        · obtain rfl : i = 16 := by omega
          generalize wr = W5 at *
          have HBD : Hid ((hdOf L).bad = 0) := by
            rw [HH.out]
            exact fb_at H 0 16 rfl (fun j hj => by rw [HRL.out]; exact HJ.out j hj)
          go_upto_region 19 with fail
          obtain ⟨LA, hLA⟩ : ∃ LA, hv H = LA := ⟨_, rfl⟩
          have HLL : Hid (hv (hdOf L) = LA) := by unfold Hid; rw [HH.out]; exact hLA
          rw [hLA] at bh HL
          clear hLA HJ
          go_wp2_with (first
            | refine wpList_load_mid rfl 67 _ rfl m 0 rfl LA.toList _ bh.range Tryd.underlying67 rfl (by rw [Array.length_toList, HL.out.1]; exact infoHdr) ?_
            | refine wpList_store_mid rfl 67 _ _ rfl w.heap.size 0 LA rfl rfl (by exact z1.there _ HL.out.1.symm) (by rw [HL.out.1]; exact infoHdr) HL.out.2 ?_)
          refine ret_agg1 (m := w.heap.size) (L := LA) Tryd.results41 (by rfl) (z1.setAll (L := LA) (by rw [HL.out.1]; rfl)) Tryd.underlying67 rfl (by rw [HL.out.1]; exact infoHdr) ?_
          rw [← HLL.out]
          exact RhOk.good (setCells_below (Nat.le_refl _) _ _ _ _ hb1) HFR.out HBD.out
theorem readHead_g (L : List Nat) (hB : Bytes L) (a : Option Addr) (n k : Nat) (w : World) (hI : L.length = n) (hn : n ≤ 2097152) (hr : Row w a L) :
    Calls Tryd.prog 41 #[.slice a n k] w (RhOk L w) := by
  by_cases h0 : L = []
  · subst h0
    obtain rfl : n = 0 := hI.symm
    exact readHead_nil a k w
  · have hpos : 0 < n := by rw [← hI]; exact List.length_pos_iff.2 h0
    rcases hr with e | ⟨b, off, e, hc⟩
    · exact absurd e h0
    · subst e
      exact readHead_some L hB b off n k w hI hpos hn (.inr ⟨b, off, rfl, hc⟩)
end Go.Proofs.YtpdbndkckioamaaDoor
namespace Go.Proofs.YtpdbndkckioamaaDoor
open Go.RowKit
/-- What a header of NES 2.0 says, number by number. -/
structure Nx (h : Hq) (x : HN) : Prop where
  m : x.m < 4096
  f240 : bits BinOp.and IntKind.u8 (h.b7 : Int) 240 = ((x.m / 16 % 16 * 16 : Nat) : Int)
  m8a : bits BinOp.and IntKind.u8 (h.b8 : Int) 15 = ((x.m / 256 : Nat) : Int)
  m8b : (h.b8 : Int) / 16 = (x.s : Int)
  l8 : h.b8 < 256
  s : x.s < 16
  f3 : bits BinOp.and IntKind.u8 (h.b7 : Int) 3 = (x.k : Int)
  k : x.k < 4
  kd : x.kd < 256
  e13 : h.b13 = x.kd
  t3 : bits BinOp.and IntKind.u8 (h.b12 : Int) 3 = (x.t : Int)
  t : x.t < 4
  d63 : bits BinOp.and IntKind.u8 (h.b15 : Int) 63 = (x.d : Int)
  d : x.d < 64
  mi3 : bits BinOp.and IntKind.u8 (h.b14 : Int) 3 = (x.mi : Int)
  mi : x.mi < 4
  r10a : bits BinOp.and IntKind.u8 (h.b10 : Int) 15 = (x.a1 : Int)
  r10b : (h.b10 : Int) / 16 = (x.a2 : Int)
  r11a : bits BinOp.and IntKind.u8 (h.b11 : Int) 15 = (x.a3 : Int)
  r11b : (h.b11 : Int) / 16 = (x.a4 : Int)
  l10 : h.b10 < 256
  l11 : h.b11 < 256
  az : x.a1 ≤ 15 ∧ x.a2 ≤ 15 ∧ x.a3 ≤ 15 ∧ x.a4 ≤ 15
def nxOf (h : Hq) : HN := ⟨2, h.b6 / 16 + h.b7 / 16 * 16 + h.b8 % 16 * 256, h.b8 / 16, h.b7 % 4, h.b13, h.b12 % 4, h.b15 % 64, h.b14 % 4, 0, h.b10 % 16, h.b10 / 16, h.b11 % 16, h.b11 / 16⟩
theorem nx_of (h : Hq) (B : h.Ok) : Nx h (nxOf h) := by
  have k6 := B.k6
  have k7 := B.k7
  have k8 := B.k8
  have k10 := B.k10
  have k11 := B.k11
  have a7 := by_and h.b7 B.k7
  have a8 := by_and h.b8 B.k8
  have a10 := by_and h.b10 B.k10
  have a11 := by_and h.b11 B.k11
  have a12 := by_and h.b12 B.k12
  have a14 := by_and h.b14 B.k14
  have a15 := by_and h.b15 B.k15
  have e1 : (h.b6 / 16 + h.b7 / 16 * 16 + h.b8 % 16 * 256) / 16 % 16 * 16 = h.b7 / 16 * 16 := by omega
  have e2 : (h.b6 / 16 + h.b7 / 16 * 16 + h.b8 % 16 * 256) / 256 = h.b8 % 16 := by omega
  refine ⟨?_, ?_, ?_, ?_, k8, ?_, a7.2.1, ?_, B.k13, rfl, a12.2.1, ?_, a15.2.2.2.2, ?_, a14.2.1, ?_, a10.2.2.2.1, ?_, a11.2.2.2.1, ?_, k10, k11, ?_, ?_, ?_, ?_⟩
  · show h.b6 / 16 + h.b7 / 16 * 16 + h.b8 % 16 * 256 < 4096; omega
  · show _ = (((h.b6 / 16 + h.b7 / 16 * 16 + h.b8 % 16 * 256) / 16 % 16 * 16 : Nat) : Int); rw [e1]; exact a7.2.2.1
  · show _ = (((h.b6 / 16 + h.b7 / 16 * 16 + h.b8 % 16 * 256) / 256 : Nat) : Int); rw [e2]; exact a8.2.2.2.1
  · show (h.b8 : Int) / 16 = ((h.b8 / 16 : Nat) : Int); omega
  · show h.b8 / 16 < 16; omega
  · show h.b7 % 4 < 4; omega
  · show h.b12 % 4 < 4; omega
  · show h.b15 % 64 < 64; omega
  · show h.b14 % 4 < 4; omega
  · show (h.b10 : Int) / 16 = ((h.b10 / 16 : Nat) : Int); omega
  · show (h.b11 : Int) / 16 = ((h.b11 / 16 : Nat) : Int); omega
  · show h.b10 % 16 ≤ 15; omega
  · show h.b10 / 16 ≤ 15; omega
  · show h.b11 % 16 ≤ 15; omega
  · show h.b11 / 16 ≤ 15; omega
/-- The cells that nes2Fields leaves. -/
def nA (x : HN) (vt fo ba : Bool) : Array Value := #[.int .i64 2, .int .i64 ((x.m : Nat) : Int), .int .i64 ((x.s : Nat) : Int), .bool vt, .bool fo, .bool ba, .int .i64 ((x.k : Nat) : Int), .int .i64 ((x.kd : Nat) : Int), .int .i64 ((x.t : Nat) : Int), .int .i64 ((x.d : Nat) : Int), .int .i64 ((x.mi : Nat) : Int), .int .i64 ((rz x.a1 : Nat) : Int), .int .i64 ((rz x.a2 : Nat) : Int), .int .i64 ((rz x.a3 : Nat) : Int), .int .i64 ((rz x.a4 : Nat) : Int), .slice none 0 0, .slice none 0 0, .slice none 0 0, .slice none 0 0]
set_option maxRecDepth 100000 in
set_option maxHeartbeats 3200000 in
theorem nes2_g (hs : Array Value) (h : Hq) (x : HN) (X : Nx h x) (HH0 : hs = hv h) (vt fo ba : Bool) (w : World) (g y : Nat) (hy0 : x.m % 16 = y) (bg : Blk w g #[.int .i64 2, .int .i64 (y : Nat), .int .i64 0, .bool vt, .bool fo, .bool ba, .int .i64 0, .int .i64 0, .int .i64 0, .int .i64 0, .int .i64 0, .int .i64 0, .int .i64 0, .int .i64 0, .int .i64 0, .slice none 0 0, .slice none 0 0, .slice none 0 0, .slice none 0 0] 25) :
    Calls Tryd.prog 61 #[.agg hs, .pointer (some ⟨g, 0, none⟩)] w fun e w' => ∃ v, e = .returned v ∧ Blk w' g (nA x vt fo ba) 25 ∧ Tk g w w' := by
  have HH : Hid (hs = _) := HH0
  clear HH0
  have hsz : hs.size = 16 := by rw [HH.out]; rfl
  have HSZ : Hid (hs.size = 16) := hsz
  go_enter Tryd.func61, Tryd.ntmps61
  go_upto_region 1 with fail
  have K0 : Nf w hs g #[.int .i64 2, .int .i64 (y : Nat), .int .i64 0, .bool vt, .bool fo, .bool ba, .int .i64 0, .int .i64 0, .int .i64 0, .int .i64 0, .int .i64 0, .int .i64 0, .int .i64 0, .int .i64 0, .int .i64 0, .slice none 0 0, .slice none 0 0, .slice none 0 0, .slice none 0 0] (w.alloc (.cells hs 67)) :=
    ⟨Blk.new w hs _, bg.old _, bg.lt, Tk.of ((Below.refl _ _).alloc (Nat.le_refl _) _) bg.lt⟩
  generalize w.alloc (.cells hs 67) = W0 at *
  clear hsz bg
  have Hm := X.m
  have HY0 : Hid (x.m % 16 = y) := hy0
  clear hy0
  have c7 := (K0.b.cell 7).trans (show hs[7]? = some (.int .u8 ((h.b7 : Nat) : Int)) by rw [HH.out]; rfl)
  have c8 := (K0.b.cell 8).trans (show hs[8]? = some (.int .u8 ((h.b8 : Nat) : Int)) by rw [HH.out]; rfl)
  have f240 := X.f240
  have m8a := X.m8a
  obtain ⟨o1, o2⟩ := map_or x.m Hm
  rw [HY0.out] at o2
  have l1 : x.m / 16 % 16 * 16 < 256 := by omega
  have l2 : x.m / 256 < 16 := by omega
  have u1 : IntKind.i64.wrap ((x.m / 16 % 16 * 16 : Nat) : Int) = ((x.m / 16 % 16 * 16 : Nat) : Int) := by rw [IntKind.wrap_i64]; omega
  have u2 : IntKind.i64.wrap ((x.m / 256 : Nat) : Int) = ((x.m / 256 : Nat) : Int) := by rw [IntKind.wrap_i64]; omega
  have u3 : IntKind.i64.wrap (((x.m / 256 : Nat) : Int) * 256) = ((x.m / 256 * 256 : Nat) : Int) := by rw [IntKind.wrap_i64]; omega
  generalize x.m / 16 % 16 * 16 = z16 at *
  generalize x.m / 256 * 256 = mb at *
  generalize x.m / 256 = mh at *
  generalize x.m / 16 * 16 = mt at *
  have dh := (K0.c.cell 1).trans (show _ = some (.int .i64 ((y : Nat) : Int)) from rfl)
  have fh := K0.c.free 1
  refine wp_region_still_tail 17 (by kernel_rfl) (by kernel_rfl) ?_
  simp only [List.take_succ_cons, List.take_zero, List.drop_succ_cons, List.drop_zero]
  repeat still_step
  refine wpStill_nil ?_
  change wpList _ _ _ _ _ W0.drew
  have K1 := K0.drew
  clear K0 dh fh c7 c8 f240 m8a o1 o2 l1 l2 u1 u2 u3
  generalize W0.drew = W1 at *
  have dh := (K1.c.cell 1).trans (show _ = some (.int .i64 ((y : Nat) : Int)) from rfl)
  have fh := K1.c.free 1
  go_upto_region 2 with fail
  have K2 : Nf w hs g #[.int .i64 2, .int .i64 ((x.m : Nat) : Int), .int .i64 0, .bool vt, .bool fo, .bool ba, .int .i64 0, .int .i64 0, .int .i64 0, .int .i64 0, .int .i64 0, .int .i64 0, .int .i64 0, .int .i64 0, .int .i64 0, .slice none 0 0, .slice none 0 0, .slice none 0 0, .slice none 0 0] (W1.setCell ⟨g, 1, none⟩ (.int .i64 ((x.m : Nat) : Int))) := K1.put 1 (.int .i64 ((x.m : Nat) : Int)) rfl
  clear K1 dh fh
  generalize W1.setCell ⟨g, 1, none⟩ (.int .i64 ((x.m : Nat) : Int)) = W2 at *
  have c8 := (K2.b.cell 8).trans (show hs[8]? = some (.int .u8 ((h.b8 : Nat) : Int)) by rw [HH.out]; rfl)
  have f1 := X.m8b
  have f2' := X.l8
  have f3' := X.s
  have dh := (K2.c.cell 2).trans (show _ = some (.int .i64 0) from rfl)
  have fh := K2.c.free 2
  go_upto_region 3 with fail
  have K3 : Nf w hs g #[.int .i64 2, .int .i64 ((x.m : Nat) : Int), .int .i64 ((x.s : Nat) : Int), .bool vt, .bool fo, .bool ba, .int .i64 0, .int .i64 0, .int .i64 0, .int .i64 0, .int .i64 0, .int .i64 0, .int .i64 0, .int .i64 0, .int .i64 0, .slice none 0 0, .slice none 0 0, .slice none 0 0, .slice none 0 0] (W2.setCell ⟨g, 2, none⟩ (.int .i64 ((x.s : Nat) : Int))) := K2.put 2 (.int .i64 ((x.s : Nat) : Int)) rfl
  clear K2 dh fh
  generalize W2.setCell ⟨g, 2, none⟩ (.int .i64 ((x.s : Nat) : Int)) = W3 at *
  clear c8 f1 f2' f3'
  have c7 := (K3.b.cell 7).trans (show hs[7]? = some (.int .u8 ((h.b7 : Nat) : Int)) by rw [HH.out]; rfl)
  have f1 := X.f3
  have f2' := X.k
  have dh := (K3.c.cell 6).trans (show _ = some (.int .i64 0) from rfl)
  have fh := K3.c.free 6
  go_upto_region 4 with fail
  have K4 : Nf w hs g #[.int .i64 2, .int .i64 ((x.m : Nat) : Int), .int .i64 ((x.s : Nat) : Int), .bool vt, .bool fo, .bool ba, .int .i64 ((x.k : Nat) : Int), .int .i64 0, .int .i64 0, .int .i64 0, .int .i64 0, .int .i64 0, .int .i64 0, .int .i64 0, .int .i64 0, .slice none 0 0, .slice none 0 0, .slice none 0 0, .slice none 0 0] (W3.setCell ⟨g, 6, none⟩ (.int .i64 ((x.k : Nat) : Int))) := K3.put 6 (.int .i64 ((x.k : Nat) : Int)) rfl
  clear K3 dh fh
  generalize W3.setCell ⟨g, 6, none⟩ (.int .i64 ((x.k : Nat) : Int)) = W4 at *
  clear c7 f1 f2'
  have c13 := (K4.b.cell 13).trans (show hs[13]? = some (.int .u8 ((x.kd : Nat) : Int)) by rw [HH.out, ← X.e13]; rfl)
  have f1 := X.kd
  have dh := (K4.c.cell 7).trans (show _ = some (.int .i64 0) from rfl)
  have fh := K4.c.free 7
  go_upto_region 5 with fail
  have K5 : Nf w hs g #[.int .i64 2, .int .i64 ((x.m : Nat) : Int), .int .i64 ((x.s : Nat) : Int), .bool vt, .bool fo, .bool ba, .int .i64 ((x.k : Nat) : Int), .int .i64 ((x.kd : Nat) : Int), .int .i64 0, .int .i64 0, .int .i64 0, .int .i64 0, .int .i64 0, .int .i64 0, .int .i64 0, .slice none 0 0, .slice none 0 0, .slice none 0 0, .slice none 0 0] (W4.setCell ⟨g, 7, none⟩ (.int .i64 ((x.kd : Nat) : Int))) := K4.put 7 (.int .i64 ((x.kd : Nat) : Int)) rfl
  clear K4 dh fh
  generalize W4.setCell ⟨g, 7, none⟩ (.int .i64 ((x.kd : Nat) : Int)) = W5 at *
  clear c13 f1
  have c12 := (K5.b.cell 12).trans (show hs[12]? = some (.int .u8 ((h.b12 : Nat) : Int)) by rw [HH.out]; rfl)
  have f1 := X.t3
  have f2' := X.t
  have dh := (K5.c.cell 8).trans (show _ = some (.int .i64 0) from rfl)
  have fh := K5.c.free 8
  go_upto_region 6 with fail
  have K6 : Nf w hs g #[.int .i64 2, .int .i64 ((x.m : Nat) : Int), .int .i64 ((x.s : Nat) : Int), .bool vt, .bool fo, .bool ba, .int .i64 ((x.k : Nat) : Int), .int .i64 ((x.kd : Nat) : Int), .int .i64 ((x.t : Nat) : Int), .int .i64 0, .int .i64 0, .int .i64 0, .int .i64 0, .int .i64 0, .int .i64 0, .slice none 0 0, .slice none 0 0, .slice none 0 0, .slice none 0 0] (W5.setCell ⟨g, 8, none⟩ (.int .i64 ((x.t : Nat) : Int))) := K5.put 8 (.int .i64 ((x.t : Nat) : Int)) rfl
  clear K5 dh fh
  generalize W5.setCell ⟨g, 8, none⟩ (.int .i64 ((x.t : Nat) : Int)) = W6 at *
  clear c12 f1 f2'
  have c15 := (K6.b.cell 15).trans (show hs[15]? = some (.int .u8 ((h.b15 : Nat) : Int)) by rw [HH.out]; rfl)
  have f1 := X.d63
  have f2' := X.d
  have dh := (K6.c.cell 9).trans (show _ = some (.int .i64 0) from rfl)
  have fh := K6.c.free 9
  go_upto_region 7 with fail
  have K7 : Nf w hs g #[.int .i64 2, .int .i64 ((x.m : Nat) : Int), .int .i64 ((x.s : Nat) : Int), .bool vt, .bool fo, .bool ba, .int .i64 ((x.k : Nat) : Int), .int .i64 ((x.kd : Nat) : Int), .int .i64 ((x.t : Nat) : Int), .int .i64 ((x.d : Nat) : Int), .int .i64 0, .int .i64 0, .int .i64 0, .int .i64 0, .int .i64 0, .slice none 0 0, .slice none 0 0, .slice none 0 0, .slice none 0 0] (W6.setCell ⟨g, 9, none⟩ (.int .i64 ((x.d : Nat) : Int))) := K6.put 9 (.int .i64 ((x.d : Nat) : Int)) rfl
  clear K6 dh fh
  generalize W6.setCell ⟨g, 9, none⟩ (.int .i64 ((x.d : Nat) : Int)) = W7 at *
  clear c15 f1 f2'
  have c14 := (K7.b.cell 14).trans (show hs[14]? = some (.int .u8 ((h.b14 : Nat) : Int)) by rw [HH.out]; rfl)
  have f1 := X.mi3
  have f2' := X.mi
  have dh := (K7.c.cell 10).trans (show _ = some (.int .i64 0) from rfl)
  have fh := K7.c.free 10
  go_upto_region 8 with fail
  have K8 : Nf w hs g #[.int .i64 2, .int .i64 ((x.m : Nat) : Int), .int .i64 ((x.s : Nat) : Int), .bool vt, .bool fo, .bool ba, .int .i64 ((x.k : Nat) : Int), .int .i64 ((x.kd : Nat) : Int), .int .i64 ((x.t : Nat) : Int), .int .i64 ((x.d : Nat) : Int), .int .i64 ((x.mi : Nat) : Int), .int .i64 0, .int .i64 0, .int .i64 0, .int .i64 0, .slice none 0 0, .slice none 0 0, .slice none 0 0, .slice none 0 0] (W7.setCell ⟨g, 10, none⟩ (.int .i64 ((x.mi : Nat) : Int))) := K7.put 10 (.int .i64 ((x.mi : Nat) : Int)) rfl
  clear K7 dh fh
  generalize W7.setCell ⟨g, 10, none⟩ (.int .i64 ((x.mi : Nat) : Int)) = W8 at *
  clear c14 f1 f2'
  obtain ⟨z1, z2, z3, z4⟩ := X.az
  have c10 := (K8.b.cell 10).trans (show hs[10]? = some (.int .u8 ((h.b10 : Nat) : Int)) by rw [HH.out]; rfl)
  have f1 := X.r10a
  have f2' := X.l10
  have RC : Hid (∀ W : World, Calls _ _ _ _ _) := fun W => ramSize_any x.a1 z1 W
  have HR : Hid (ramV x.a1 = rz x.a1) := rfl
  rw [HR.out] at RC
  generalize hrz : rz x.a1 = q11 at RC
  have HQ11 : Hid (rz x.a1 = q11) := hrz
  clear hrz HR
  go_wp2_with fail
  refine (RC.out W8).mono ?_
  rintro e W8 ⟨rfl, rfl⟩
  have dh := (K8.c.cell 11).trans (show _ = some (.int .i64 0) from rfl)
  have fh := K8.c.free 11
  go_upto_region 9 with fail
  have K9 : Nf w hs g #[.int .i64 2, .int .i64 ((x.m : Nat) : Int), .int .i64 ((x.s : Nat) : Int), .bool vt, .bool fo, .bool ba, .int .i64 ((x.k : Nat) : Int), .int .i64 ((x.kd : Nat) : Int), .int .i64 ((x.t : Nat) : Int), .int .i64 ((x.d : Nat) : Int), .int .i64 ((x.mi : Nat) : Int), .int .i64 ((q11 : Nat) : Int), .int .i64 0, .int .i64 0, .int .i64 0, .slice none 0 0, .slice none 0 0, .slice none 0 0, .slice none 0 0] (W8.setCell ⟨g, 11, none⟩ (.int .i64 ((q11 : Nat) : Int))) := K8.put 11 (.int .i64 ((q11 : Nat) : Int)) rfl
  clear K8 dh fh
  generalize W8.setCell ⟨g, 11, none⟩ (.int .i64 ((q11 : Nat) : Int)) = W9 at *
  clear c10 f1 f2' RC
  have c10 := (K9.b.cell 10).trans (show hs[10]? = some (.int .u8 ((h.b10 : Nat) : Int)) by rw [HH.out]; rfl)
  have f1 := X.r10b
  have f2' := X.l10
  have RC : Hid (∀ W : World, Calls _ _ _ _ _) := fun W => ramSize_any x.a2 z2 W
  have HR : Hid (ramV x.a2 = rz x.a2) := rfl
  rw [HR.out] at RC
  generalize hrz : rz x.a2 = q12 at RC
  have HQ12 : Hid (rz x.a2 = q12) := hrz
  clear hrz HR
  go_wp2_with fail
  refine (RC.out W9).mono ?_
  rintro e W9 ⟨rfl, rfl⟩
  have dh := (K9.c.cell 12).trans (show _ = some (.int .i64 0) from rfl)
  have fh := K9.c.free 12
  go_upto_region 10 with fail
  have K10 : Nf w hs g #[.int .i64 2, .int .i64 ((x.m : Nat) : Int), .int .i64 ((x.s : Nat) : Int), .bool vt, .bool fo, .bool ba, .int .i64 ((x.k : Nat) : Int), .int .i64 ((x.kd : Nat) : Int), .int .i64 ((x.t : Nat) : Int), .int .i64 ((x.d : Nat) : Int), .int .i64 ((x.mi : Nat) : Int), .int .i64 ((q11 : Nat) : Int), .int .i64 ((q12 : Nat) : Int), .int .i64 0, .int .i64 0, .slice none 0 0, .slice none 0 0, .slice none 0 0, .slice none 0 0] (W9.setCell ⟨g, 12, none⟩ (.int .i64 ((q12 : Nat) : Int))) := K9.put 12 (.int .i64 ((q12 : Nat) : Int)) rfl
  clear K9 dh fh
  generalize W9.setCell ⟨g, 12, none⟩ (.int .i64 ((q12 : Nat) : Int)) = W10 at *
  clear c10 f1 f2' RC
  have c11 := (K10.b.cell 11).trans (show hs[11]? = some (.int .u8 ((h.b11 : Nat) : Int)) by rw [HH.out]; rfl)
  have f1 := X.r11a
  have f2' := X.l11
  have RC : Hid (∀ W : World, Calls _ _ _ _ _) := fun W => ramSize_any x.a3 z3 W
  have HR : Hid (ramV x.a3 = rz x.a3) := rfl
  rw [HR.out] at RC
  generalize hrz : rz x.a3 = q13 at RC
  have HQ13 : Hid (rz x.a3 = q13) := hrz
  clear hrz HR
  go_wp2_with fail
  refine (RC.out W10).mono ?_
  rintro e W10 ⟨rfl, rfl⟩
  have dh := (K10.c.cell 13).trans (show _ = some (.int .i64 0) from rfl)
  have fh := K10.c.free 13
  go_upto_region 11 with fail
  have K11 : Nf w hs g #[.int .i64 2, .int .i64 ((x.m : Nat) : Int), .int .i64 ((x.s : Nat) : Int), .bool vt, .bool fo, .bool ba, .int .i64 ((x.k : Nat) : Int), .int .i64 ((x.kd : Nat) : Int), .int .i64 ((x.t : Nat) : Int), .int .i64 ((x.d : Nat) : Int), .int .i64 ((x.mi : Nat) : Int), .int .i64 ((q11 : Nat) : Int), .int .i64 ((q12 : Nat) : Int), .int .i64 ((q13 : Nat) : Int), .int .i64 0, .slice none 0 0, .slice none 0 0, .slice none 0 0, .slice none 0 0] (W10.setCell ⟨g, 13, none⟩ (.int .i64 ((q13 : Nat) : Int))) := K10.put 13 (.int .i64 ((q13 : Nat) : Int)) rfl
  clear K10 dh fh
  generalize W10.setCell ⟨g, 13, none⟩ (.int .i64 ((q13 : Nat) : Int)) = W11 at *
  clear c11 f1 f2' RC
  have c11 := (K11.b.cell 11).trans (show hs[11]? = some (.int .u8 ((h.b11 : Nat) : Int)) by rw [HH.out]; rfl)
  have f1 := X.r11b
  have f2' := X.l11
  have RC : Hid (∀ W : World, Calls _ _ _ _ _) := fun W => ramSize_any x.a4 z4 W
  have HR : Hid (ramV x.a4 = rz x.a4) := rfl
  rw [HR.out] at RC
  generalize hrz : rz x.a4 = q14 at RC
  have HQ14 : Hid (rz x.a4 = q14) := hrz
  clear hrz HR
  go_wp2_with fail
  refine (RC.out W11).mono ?_
  rintro e W11 ⟨rfl, rfl⟩
  have dh := (K11.c.cell 14).trans (show _ = some (.int .i64 0) from rfl)
  have fh := K11.c.free 14
  go_wp2
  have K : Nf w hs g #[.int .i64 2, .int .i64 ((x.m : Nat) : Int), .int .i64 ((x.s : Nat) : Int), .bool vt, .bool fo, .bool ba, .int .i64 ((x.k : Nat) : Int), .int .i64 ((x.kd : Nat) : Int), .int .i64 ((x.t : Nat) : Int), .int .i64 ((x.d : Nat) : Int), .int .i64 ((x.mi : Nat) : Int), .int .i64 ((q11 : Nat) : Int), .int .i64 ((q12 : Nat) : Int), .int .i64 ((q13 : Nat) : Int), .int .i64 ((q14 : Nat) : Int), .slice none 0 0, .slice none 0 0, .slice none 0 0, .slice none 0 0] (W11.setCell ⟨g, 14, none⟩ (.int .i64 ((q14 : Nat) : Int))) := K11.put 14 _ rfl
  have e : nA x vt fo ba = #[.int .i64 2, .int .i64 ((x.m : Nat) : Int), .int .i64 ((x.s : Nat) : Int), .bool vt, .bool fo, .bool ba, .int .i64 ((x.k : Nat) : Int), .int .i64 ((x.kd : Nat) : Int), .int .i64 ((x.t : Nat) : Int), .int .i64 ((x.d : Nat) : Int), .int .i64 ((x.mi : Nat) : Int), .int .i64 ((q11 : Nat) : Int), .int .i64 ((q12 : Nat) : Int), .int .i64 ((q13 : Nat) : Int), .int .i64 ((q14 : Nat) : Int), .slice none 0 0, .slice none 0 0, .slice none 0 0, .slice none 0 0] := by
    unfold nA
    rw [HQ11.out, HQ12.out, HQ13.out, HQ14.out]
  go_end0
  exact ⟨_, rfl, by rw [e]; exact K.c, K.tk⟩
/-- What setWork leaves. -/
def PutOk (g : Nat) (a : Array Value) (w : World) (e : Ending) (w' : World) : Prop := ∃ v, e = .returned v ∧ Blk w' g a 25 ∧ Tk g w w'
theorem setWork_g (g u : Nat) (f m con tim : Int) (vt fo ba : Bool) (hu : u ≤ 255) (w : World) (bg : Blk w g #[.int .i64 f, .int .i64 m, .int .i64 0, .bool vt, .bool fo, .bool ba, .int .i64 con, .int .i64 0, .int .i64 tim, .int .i64 0, .int .i64 0, .int .i64 0, .int .i64 0, .int .i64 0, .int .i64 0, .slice none 0 0, .slice none 0 0, .slice none 0 0, .slice none 0 0] 25) :
    Calls Tryd.prog 60 #[.pointer (some ⟨g, 0, none⟩), .int .i64 (u : Nat)] w (PutOk g #[.int .i64 f, .int .i64 m, .int .i64 0, .bool vt, .bool fo, .bool ba, .int .i64 con, .int .i64 0, .int .i64 tim, .int .i64 0, .int .i64 0, .int .i64 ((if ba then 0 else u * 8192 : Nat) : Int), .int .i64 ((if ba then u * 8192 else 0 : Nat) : Int), .int .i64 0, .int .i64 0, .slice none 0 0, .slice none 0 0, .slice none 0 0, .slice none 0 0] w) := by
  have d5 := (bg.cell 5).trans (show _ = some (.bool ba) from rfl)
  have d11 := (bg.cell 11).trans (show _ = some (.int .i64 0) from rfl)
  have d12 := (bg.cell 12).trans (show _ = some (.int .i64 0) from rfl)
  have f11 := bg.free 11
  have f12 := bg.free 12
  have s11 := bg.set 11 (.int .i64 ((u * 8192 : Nat) : Int))
  have s12 := bg.set 12 (.int .i64 ((u * 8192 : Nat) : Int))
  have e : (u : Int) * 8192 = ((u * 8192 : Nat) : Int) := by simp
  have t11 := Tk.set (m := g) w 11 (.int .i64 ((u * 8192 : Nat) : Int))
  have t12 := Tk.set (m := g) w 12 (.int .i64 ((u * 8192 : Nat) : Int))
  have hb : u * 8192 < 9223372036854775807 := by omega
  have HP : Hid ((∃ z, w.setCell ⟨g, 11, none⟩ (.int .i64 ((u * 8192 : Nat) : Int)) = z) ∧ True) := ⟨⟨_, rfl⟩, trivial⟩
  clear bg HP
  generalize u * 8192 = z at *
  cases ba
  · go_enter Tryd.func60, Tryd.ntmps60
    go_wp2
    go_end0
    exact ⟨_, rfl, s11, t11⟩
  · go_enter Tryd.func60, Tryd.ntmps60
    go_wp2
    go_end0
    exact ⟨_, rfl, s12, t12⟩
end Go.Proofs.YtpdbndkckioamaaDoor
namespace Go.Proofs.YtpdbndkckioamaaDoor
open Go.RowKit
theorem bool_bit (n : Nat) (z : Int) (k : Nat) (hk : 0 < k) (h : z = ((n % 2 * k : Nat) : Int)) : (z != 0) = decide (n % 2 = 1) := by
  rw [h]
  rcases (show n % 2 = 0 ∨ n % 2 = 1 by omega) with e | e <;> rw [e]
  · simp
  · rw [Nat.one_mul, show decide (1 = 1) = true from rfl, bne_iff_ne]
    exact fun e => absurd e (by omega)
theorem or_map (a b : Nat) (h1 : a < 16) (h2 : b < 256) : bits BinOp.or IntKind.i64 ((a : Nat) : Int) ((b / 16 * 16 : Nat) : Int) = ((a + b / 16 * 16 : Nat) : Int) := by
  have e : b / 16 * 16 ||| a = b / 16 * 16 + a := nat_join 4 (b / 16 * 16) a (by omega) h1
  rw [i64_or_nat a (b / 16 * 16) (by omega) (by omega), Nat.or_comm, e, Nat.add_comm]
set_option maxRecDepth 100000 in
set_option maxHeartbeats 6400000 in
theorem fields_g (h : Hq) (B : h.Ok) (hs : Array Value) (HH0 : hs = hv h) (w : World) :
    Calls Tryd.prog 42 #[.agg hs] w fun e w' => e = .returned (.agg (cN (h.cf h.cr0 0 0 0 0))) ∧ Below w.heap.size w w' := by
  have HH : Hid (hs = _) := HH0
  have hsz : hs.size = 16 := by rw [HH0]; rfl
  have HSZ : Hid (hs.size = 16) := hsz
  have FC0 : Hid (∀ W : World, Calls _ _ _ _ _) := fun W => format_g h B hs HH0 W
  have HB : Hid h.Ok := B
  clear HH0
  obtain ⟨ff, hff⟩ : ∃ ff, h.f = ff := ⟨_, rfl⟩
  have HF : Hid (h.f = ff) := hff
  rw [hff] at FC0
  have FC : Hid (∀ W : World, Calls Tryd.prog 59 #[.agg hs.toList.toArray] W fun e w' => e = .returned (.int .i64 (ff : Nat)) ∧ Below W.heap.size W w') := fun W => by rw [Array.toArray_toList]; exact FC0.out W
  have hf3 : ff = 0 ∨ ff = 1 ∨ ff = 2 := by rw [← hff]; exact h.f_lt
  clear FC0 hff
  have b6 := by_bit h.b6 B.k6
  have v1 := bool_bit h.b6 (bits BinOp.and IntKind.u8 (h.b6 : Int) 1) 1 (by decide) (by rw [Nat.mul_one]; exact b6.1)
  have v2 := bool_bit (h.b6 / 2) (bits BinOp.and IntKind.u8 (h.b6 : Int) 2) 2 (by decide) b6.2.1
  have v8 := bool_bit (h.b6 / 8) (bits BinOp.and IntKind.u8 (h.b6 : Int) 8) 8 (by decide) b6.2.2.2
  obtain ⟨vt, hvt⟩ : ∃ vt, decide (h.b6 % 2 = 1) = vt := ⟨_, rfl⟩
  obtain ⟨ba, hba⟩ : ∃ ba, decide (h.b6 / 2 % 2 = 1) = ba := ⟨_, rfl⟩
  obtain ⟨fo, hfo⟩ : ∃ fo, decide (h.b6 / 8 % 2 = 1) = fo := ⟨_, rfl⟩
  have HVB : Hid ((decide (h.b6 % 2 = 1) = vt ∧ decide (h.b6 / 2 % 2 = 1) = ba) ∧ decide (h.b6 / 8 % 2 = 1) = fo) := ⟨⟨hvt, hba⟩, hfo⟩
  rw [hvt] at v1
  rw [hba] at v2
  rw [hfo] at v8
  clear hvt hba hfo b6
  have l6 : h.b6 < 256 := B.k6
  have m6 : (h.b6 : Int) / 16 = ((h.b6 / 16 : Nat) : Int) := by omega
  have hm16 : h.b6 / 16 < 16 := by omega
  obtain ⟨y, hy⟩ : ∃ y, h.b6 / 16 = y := ⟨_, rfl⟩
  have HY : Hid (h.b6 / 16 = y) := hy
  rw [hy] at m6 hm16
  obtain ⟨y6, hy6⟩ : ∃ y6, h.b6 = y6 := ⟨_, rfl⟩
  rw [hy6] at m6 v1 v2 v8 l6
  have H6 : Hid (hs[6]? = some (.int .u8 (y6 : Nat))) := by unfold Hid; rw [HH.out, ← hy6]; rfl
  clear hy hy6 B
  obtain ⟨CF0, hCF⟩ : ∃ x, x = cN (h.cf h.cr0 0 0 0 0) := ⟨_, rfl⟩
  have HCF : Hid (CF0 = cN (h.cf h.cr0 0 0 0 0)) := hCF
  rw [← hCF]
  clear hCF
  go_enter Tryd.func42, Tryd.ntmps42
  go_upto_region 1 with fail
  have K0 : Blk ((w.alloc (.cells hs 67)).alloc (.cells Z19 25)) w.heap.size hs 67 ∧ Blk ((w.alloc (.cells hs 67)).alloc (.cells Z19 25)) (w.heap.size + 1) Z19 25 ∧ Below w.heap.size w ((w.alloc (.cells hs 67)).alloc (.cells Z19 25)) :=
    ⟨(Blk.new w hs _).old _, by have := Blk.new (w.alloc (.cells hs 67)) Z19 25; rwa [World.size_alloc] at this, ((Below.refl _ _).alloc (Nat.le_refl _) _).alloc (by simp) _⟩
  generalize (w.alloc (.cells hs 67)).alloc (.cells Z19 25) = W0 at *
  obtain ⟨b0, z0, hb0⟩ := K0
  clear hsz
  go_cut [3] (fun p wx => ∃ g, p = .pointer (some ⟨g, 0, none⟩) ∧ Blk wx g #[.int .i64 (ff : Nat), .int .i64 (y : Nat), .int .i64 0, .bool vt, .bool fo, .bool ba, .int .i64 0, .int .i64 0, .int .i64 0, .int .i64 0, .int .i64 0, .int .i64 0, .int .i64 0, .int .i64 0, .int .i64 0, .slice none 0 0, .slice none 0 0, .slice none 0 0, .slice none 0 0] 25 ∧ Blk wx w.heap.size hs 67 ∧ Blk wx (w.heap.size + 1) Z19 25 ∧ w.heap.size + 1 < g ∧ Below w.heap.size w wx)
  case first =>
    have s0 : SF w hs W0 W0.drew := ⟨b0.drew, z0.drew, (Below.refl _ _).drew⟩
    refine wp_region_held (S := SF w hs W0) (by kernel_rfl) ?_
    refine takeH (i := 2) (v := .pointer (some ⟨w.heap.size, 6, none⟩)) ⟨#[.agg hs, .pointer (some ⟨w.heap.size, 0, none⟩), .pointer (some ⟨w.heap.size + 1, 0, none⟩), undef, undef, undef, .pointer (some ⟨w.heap.size, 6, none⟩), undef, undef, undef, undef, undef, undef, undef, undef, undef, undef, undef, undef, undef, undef, undef, undef, undef, undef, undef, undef, undef, undef, undef, undef, undef, undef, undef, undef, undef, undef, undef, undef, undef, undef, undef, undef, undef, undef, undef, undef, undef, undef, undef, undef, undef, undef, undef, undef, undef, undef, undef], []⟩ rfl (by kernel_rfl) (by kernel_rfl) (by kernel_rfl) (fun _ _ _ h => h) (.inl ⟨by kernel_rfl, fun _ _ => by kernel_rfl⟩) s0 (by kernel_rfl) ?_
    refine takeH (i := 3) (v := .int .u8 (y6 : Nat)) ⟨#[.agg hs, .pointer (some ⟨w.heap.size, 0, none⟩), .pointer (some ⟨w.heap.size + 1, 0, none⟩), undef, undef, undef, .pointer (some ⟨w.heap.size, 6, none⟩), .int .u8 (y6 : Nat), undef, undef, undef, undef, undef, undef, undef, undef, undef, undef, undef, undef, undef, undef, undef, undef, undef, undef, undef, undef, undef, undef, undef, undef, undef, undef, undef, undef, undef, undef, undef, undef, undef, undef, undef, undef, undef, undef, undef, undef, undef, undef, undef, undef, undef, undef, undef, undef, undef, undef], []⟩ rfl (by kernel_rfl) (by kernel_rfl) (by kernel_rfl) (fun _ _ _ h => h) (.inl ⟨by kernel_rfl, fun v hv => by have c : v.cell? ⟨w.heap.size, 6, none⟩ = some (.int .u8 (y6 : Nat)) := (hv.bb.cell 6).trans H6.out; go_simp⟩) s0 (by kernel_rfl) ?_
    refine takeH (i := 4) (v := .int .u8 (y : Nat)) ⟨#[.agg hs, .pointer (some ⟨w.heap.size, 0, none⟩), .pointer (some ⟨w.heap.size + 1, 0, none⟩), undef, undef, undef, .pointer (some ⟨w.heap.size, 6, none⟩), .int .u8 (y6 : Nat), .int .u8 (y : Nat), undef, undef, undef, undef, undef, undef, undef, undef, undef, undef, undef, undef, undef, undef, undef, undef, undef, undef, undef, undef, undef, undef, undef, undef, undef, undef, undef, undef, undef, undef, undef, undef, undef, undef, undef, undef, undef, undef, undef, undef, undef, undef, undef, undef, undef, undef, undef, undef, undef], []⟩ rfl (by kernel_rfl) (by kernel_rfl) (by kernel_rfl) (fun _ _ _ h => h) (.inl ⟨by kernel_rfl, fun v _ => by have h := m6; go_simp⟩) s0 (by kernel_rfl) ?_
    refine takeH (i := 5) (v := .int .i64 (y : Nat)) ⟨#[.agg hs, .pointer (some ⟨w.heap.size, 0, none⟩), .pointer (some ⟨w.heap.size + 1, 0, none⟩), undef, undef, undef, .pointer (some ⟨w.heap.size, 6, none⟩), .int .u8 (y6 : Nat), .int .u8 (y : Nat), .int .i64 (y : Nat), undef, undef, undef, undef, undef, undef, undef, undef, undef, undef, undef, undef, undef, undef, undef, undef, undef, undef, undef, undef, undef, undef, undef, undef, undef, undef, undef, undef, undef, undef, undef, undef, undef, undef, undef, undef, undef, undef, undef, undef, undef, undef, undef, undef, undef, undef, undef, undef], []⟩ rfl (by kernel_rfl) (by kernel_rfl) (by kernel_rfl) (fun _ _ _ h => h) (.inl ⟨by kernel_rfl, fun v _ => by go_simp; rw [IntKind.wrap_i64]; omega⟩) s0 (by kernel_rfl) ?_
    refine takeH (i := 6) (v := .pointer (some ⟨w.heap.size, 6, none⟩)) ⟨#[.agg hs, .pointer (some ⟨w.heap.size, 0, none⟩), .pointer (some ⟨w.heap.size + 1, 0, none⟩), undef, undef, undef, .pointer (some ⟨w.heap.size, 6, none⟩), .int .u8 (y6 : Nat), .int .u8 (y : Nat), .int .i64 (y : Nat), .pointer (some ⟨w.heap.size, 6, none⟩), undef, undef, undef, undef, undef, undef, undef, undef, undef, undef, undef, undef, undef, undef, undef, undef, undef, undef, undef, undef, undef, undef, undef, undef, undef, undef, undef, undef, undef, undef, undef, undef, undef, undef, undef, undef, undef, undef, undef, undef, undef, undef, undef, undef, undef, undef, undef], []⟩ rfl (by kernel_rfl) (by kernel_rfl) (by kernel_rfl) (fun _ _ _ h => h) (.inl ⟨by kernel_rfl, fun _ _ => by kernel_rfl⟩) s0 (by kernel_rfl) ?_
    refine takeH (i := 7) (v := .int .u8 (y6 : Nat)) ⟨#[.agg hs, .pointer (some ⟨w.heap.size, 0, none⟩), .pointer (some ⟨w.heap.size + 1, 0, none⟩), undef, undef, undef, .pointer (some ⟨w.heap.size, 6, none⟩), .int .u8 (y6 : Nat), .int .u8 (y : Nat), .int .i64 (y : Nat), .pointer (some ⟨w.heap.size, 6, none⟩), .int .u8 (y6 : Nat), undef, undef, undef, undef, undef, undef, undef, undef, undef, undef, undef, undef, undef, undef, undef, undef, undef, undef, undef, undef, undef, undef, undef, undef, undef, undef, undef, undef, undef, undef, undef, undef, undef, undef, undef, undef, undef, undef, undef, undef, undef, undef, undef, undef, undef, undef], []⟩ rfl (by kernel_rfl) (by kernel_rfl) (by kernel_rfl) (fun _ _ _ h => h) (.inl ⟨by kernel_rfl, fun v hv => by have c : v.cell? ⟨w.heap.size, 6, none⟩ = some (.int .u8 (y6 : Nat)) := (hv.bb.cell 6).trans H6.out; go_simp⟩) s0 (by kernel_rfl) ?_
    refine takeH (i := 8) (v := .int .u8 (bits BinOp.and IntKind.u8 (y6 : Int) 1)) ⟨#[.agg hs, .pointer (some ⟨w.heap.size, 0, none⟩), .pointer (some ⟨w.heap.size + 1, 0, none⟩), undef, undef, undef, .pointer (some ⟨w.heap.size, 6, none⟩), .int .u8 (y6 : Nat), .int .u8 (y : Nat), .int .i64 (y : Nat), .pointer (some ⟨w.heap.size, 6, none⟩), .int .u8 (y6 : Nat), .int .u8 (bits BinOp.and IntKind.u8 (y6 : Int) 1), undef, undef, undef, undef, undef, undef, undef, undef, undef, undef, undef, undef, undef, undef, undef, undef, undef, undef, undef, undef, undef, undef, undef, undef, undef, undef, undef, undef, undef, undef, undef, undef, undef, undef, undef, undef, undef, undef, undef, undef, undef, undef, undef, undef, undef], []⟩ rfl (by kernel_rfl) (by kernel_rfl) (by kernel_rfl) (fun _ _ _ h => h) (.inl ⟨by kernel_rfl, fun _ _ => by kernel_rfl⟩) s0 (by kernel_rfl) ?_
    refine takeH (i := 9) (v := .bool (bits BinOp.and IntKind.u8 (y6 : Int) 1 != 0)) ⟨#[.agg hs, .pointer (some ⟨w.heap.size, 0, none⟩), .pointer (some ⟨w.heap.size + 1, 0, none⟩), undef, undef, undef, .pointer (some ⟨w.heap.size, 6, none⟩), .int .u8 (y6 : Nat), .int .u8 (y : Nat), .int .i64 (y : Nat), .pointer (some ⟨w.heap.size, 6, none⟩), .int .u8 (y6 : Nat), .int .u8 (bits BinOp.and IntKind.u8 (y6 : Int) 1), .bool (bits BinOp.and IntKind.u8 (y6 : Int) 1 != 0), undef, undef, undef, undef, undef, undef, undef, undef, undef, undef, undef, undef, undef, undef, undef, undef, undef, undef, undef, undef, undef, undef, undef, undef, undef, undef, undef, undef, undef, undef, undef, undef, undef, undef, undef, undef, undef, undef, undef, undef, undef, undef, undef, undef], []⟩ rfl (by kernel_rfl) (by kernel_rfl) (by kernel_rfl) (fun _ _ _ h => h) (.inl ⟨by kernel_rfl, fun v _ => by go_simp⟩) s0 (by kernel_rfl) ?_
    refine takeH (i := 10) (v := .pointer (some ⟨w.heap.size, 6, none⟩)) ⟨#[.agg hs, .pointer (some ⟨w.heap.size, 0, none⟩), .pointer (some ⟨w.heap.size + 1, 0, none⟩), undef, undef, undef, .pointer (some ⟨w.heap.size, 6, none⟩), .int .u8 (y6 : Nat), .int .u8 (y : Nat), .int .i64 (y : Nat), .pointer (some ⟨w.heap.size, 6, none⟩), .int .u8 (y6 : Nat), .int .u8 (bits BinOp.and IntKind.u8 (y6 : Int) 1), .bool (bits BinOp.and IntKind.u8 (y6 : Int) 1 != 0), .pointer (some ⟨w.heap.size, 6, none⟩), undef, undef, undef, undef, undef, undef, undef, undef, undef, undef, undef, undef, undef, undef, undef, undef, undef, undef, undef, undef, undef, undef, undef, undef, undef, undef, undef, undef, undef, undef, undef, undef, undef, undef, undef, undef, undef, undef, undef, undef, undef, undef, undef], []⟩ rfl (by kernel_rfl) (by kernel_rfl) (by kernel_rfl) (fun _ _ _ h => h) (.inl ⟨by kernel_rfl, fun _ _ => by kernel_rfl⟩) s0 (by kernel_rfl) ?_
    refine takeH (i := 11) (v := .int .u8 (y6 : Nat)) ⟨#[.agg hs, .pointer (some ⟨w.heap.size, 0, none⟩), .pointer (some ⟨w.heap.size + 1, 0, none⟩), undef, undef, undef, .pointer (some ⟨w.heap.size, 6, none⟩), .int .u8 (y6 : Nat), .int .u8 (y : Nat), .int .i64 (y : Nat), .pointer (some ⟨w.heap.size, 6, none⟩), .int .u8 (y6 : Nat), .int .u8 (bits BinOp.and IntKind.u8 (y6 : Int) 1), .bool (bits BinOp.and IntKind.u8 (y6 : Int) 1 != 0), .pointer (some ⟨w.heap.size, 6, none⟩), .int .u8 (y6 : Nat), undef, undef, undef, undef, undef, undef, undef, undef, undef, undef, undef, undef, undef, undef, undef, undef, undef, undef, undef, undef, undef, undef, undef, undef, undef, undef, undef, undef, undef, undef, undef, undef, undef, undef, undef, undef, undef, undef, undef, undef, undef, undef], []⟩ rfl (by kernel_rfl) (by kernel_rfl) (by kernel_rfl) (fun _ _ _ h => h) (.inl ⟨by kernel_rfl, fun v hv => by have c : v.cell? ⟨w.heap.size, 6, none⟩ = some (.int .u8 (y6 : Nat)) := (hv.bb.cell 6).trans H6.out; go_simp⟩) s0 (by kernel_rfl) ?_
    refine takeH (i := 12) (v := .int .u8 (bits BinOp.and IntKind.u8 (y6 : Int) 2)) ⟨#[.agg hs, .pointer (some ⟨w.heap.size, 0, none⟩), .pointer (some ⟨w.heap.size + 1, 0, none⟩), undef, undef, undef, .pointer (some ⟨w.heap.size, 6, none⟩), .int .u8 (y6 : Nat), .int .u8 (y : Nat), .int .i64 (y : Nat), .pointer (some ⟨w.heap.size, 6, none⟩), .int .u8 (y6 : Nat), .int .u8 (bits BinOp.and IntKind.u8 (y6 : Int) 1), .bool (bits BinOp.and IntKind.u8 (y6 : Int) 1 != 0), .pointer (some ⟨w.heap.size, 6, none⟩), .int .u8 (y6 : Nat), .int .u8 (bits BinOp.and IntKind.u8 (y6 : Int) 2), undef, undef, undef, undef, undef, undef, undef, undef, undef, undef, undef, undef, undef, undef, undef, undef, undef, undef, undef, undef, undef, undef, undef, undef, undef, undef, undef, undef, undef, undef, undef, undef, undef, undef, undef, undef, undef, undef, undef, undef, undef], []⟩ rfl (by kernel_rfl) (by kernel_rfl) (by kernel_rfl) (fun _ _ _ h => h) (.inl ⟨by kernel_rfl, fun _ _ => by kernel_rfl⟩) s0 (by kernel_rfl) ?_
    refine takeH (i := 13) (v := .bool (bits BinOp.and IntKind.u8 (y6 : Int) 2 != 0)) ⟨#[.agg hs, .pointer (some ⟨w.heap.size, 0, none⟩), .pointer (some ⟨w.heap.size + 1, 0, none⟩), undef, undef, undef, .pointer (some ⟨w.heap.size, 6, none⟩), .int .u8 (y6 : Nat), .int .u8 (y : Nat), .int .i64 (y : Nat), .pointer (some ⟨w.heap.size, 6, none⟩), .int .u8 (y6 : Nat), .int .u8 (bits BinOp.and IntKind.u8 (y6 : Int) 1), .bool (bits BinOp.and IntKind.u8 (y6 : Int) 1 != 0), .pointer (some ⟨w.heap.size, 6, none⟩), .int .u8 (y6 : Nat), .int .u8 (bits BinOp.and IntKind.u8 (y6 : Int) 2), .bool (bits BinOp.and IntKind.u8 (y6 : Int) 2 != 0), undef, undef, undef, undef, undef, undef, undef, undef, undef, undef, undef, undef, undef, undef, undef, undef, undef, undef, undef, undef, undef, undef, undef, undef, undef, undef, undef, undef, undef, undef, undef, undef, undef, undef, undef, undef, undef, undef, undef, undef], []⟩ rfl (by kernel_rfl) (by kernel_rfl) (by kernel_rfl) (fun _ _ _ h => h) (.inl ⟨by kernel_rfl, fun v _ => by go_simp⟩) s0 (by kernel_rfl) ?_
    refine takeH (i := 14) (v := .pointer (some ⟨w.heap.size, 6, none⟩)) ⟨#[.agg hs, .pointer (some ⟨w.heap.size, 0, none⟩), .pointer (some ⟨w.heap.size + 1, 0, none⟩), undef, undef, undef, .pointer (some ⟨w.heap.size, 6, none⟩), .int .u8 (y6 : Nat), .int .u8 (y : Nat), .int .i64 (y : Nat), .pointer (some ⟨w.heap.size, 6, none⟩), .int .u8 (y6 : Nat), .int .u8 (bits BinOp.and IntKind.u8 (y6 : Int) 1), .bool (bits BinOp.and IntKind.u8 (y6 : Int) 1 != 0), .pointer (some ⟨w.heap.size, 6, none⟩), .int .u8 (y6 : Nat), .int .u8 (bits BinOp.and IntKind.u8 (y6 : Int) 2), .bool (bits BinOp.and IntKind.u8 (y6 : Int) 2 != 0), .pointer (some ⟨w.heap.size, 6, none⟩), undef, undef, undef, undef, undef, undef, undef, undef, undef, undef, undef, undef, undef, undef, undef, undef, undef, undef, undef, undef, undef, undef, undef, undef, undef, undef, undef, undef, undef, undef, undef, undef, undef, undef, undef, undef, undef, undef, undef], []⟩ rfl (by kernel_rfl) (by kernel_rfl) (by kernel_rfl) (fun _ _ _ h => h) (.inl ⟨by kernel_rfl, fun _ _ => by kernel_rfl⟩) s0 (by kernel_rfl) ?_
    refine takeH (i := 15) (v := .int .u8 (y6 : Nat)) ⟨#[.agg hs, .pointer (some ⟨w.heap.size, 0, none⟩), .pointer (some ⟨w.heap.size + 1, 0, none⟩), undef, undef, undef, .pointer (some ⟨w.heap.size, 6, none⟩), .int .u8 (y6 : Nat), .int .u8 (y : Nat), .int .i64 (y : Nat), .pointer (some ⟨w.heap.size, 6, none⟩), .int .u8 (y6 : Nat), .int .u8 (bits BinOp.and IntKind.u8 (y6 : Int) 1), .bool (bits BinOp.and IntKind.u8 (y6 : Int) 1 != 0), .pointer (some ⟨w.heap.size, 6, none⟩), .int .u8 (y6 : Nat), .int .u8 (bits BinOp.and IntKind.u8 (y6 : Int) 2), .bool (bits BinOp.and IntKind.u8 (y6 : Int) 2 != 0), .pointer (some ⟨w.heap.size, 6, none⟩), .int .u8 (y6 : Nat), undef, undef, undef, undef, undef, undef, undef, undef, undef, undef, undef, undef, undef, undef, undef, undef, undef, undef, undef, undef, undef, undef, undef, undef, undef, undef, undef, undef, undef, undef, undef, undef, undef, undef, undef, undef, undef, undef], []⟩ rfl (by kernel_rfl) (by kernel_rfl) (by kernel_rfl) (fun _ _ _ h => h) (.inl ⟨by kernel_rfl, fun v hv => by have c : v.cell? ⟨w.heap.size, 6, none⟩ = some (.int .u8 (y6 : Nat)) := (hv.bb.cell 6).trans H6.out; go_simp⟩) s0 (by kernel_rfl) ?_
    refine takeH (i := 16) (v := .int .u8 (bits BinOp.and IntKind.u8 (y6 : Int) 8)) ⟨#[.agg hs, .pointer (some ⟨w.heap.size, 0, none⟩), .pointer (some ⟨w.heap.size + 1, 0, none⟩), undef, undef, undef, .pointer (some ⟨w.heap.size, 6, none⟩), .int .u8 (y6 : Nat), .int .u8 (y : Nat), .int .i64 (y : Nat), .pointer (some ⟨w.heap.size, 6, none⟩), .int .u8 (y6 : Nat), .int .u8 (bits BinOp.and IntKind.u8 (y6 : Int) 1), .bool (bits BinOp.and IntKind.u8 (y6 : Int) 1 != 0), .pointer (some ⟨w.heap.size, 6, none⟩), .int .u8 (y6 : Nat), .int .u8 (bits BinOp.and IntKind.u8 (y6 : Int) 2), .bool (bits BinOp.and IntKind.u8 (y6 : Int) 2 != 0), .pointer (some ⟨w.heap.size, 6, none⟩), .int .u8 (y6 : Nat), .int .u8 (bits BinOp.and IntKind.u8 (y6 : Int) 8), undef, undef, undef, undef, undef, undef, undef, undef, undef, undef, undef, undef, undef, undef, undef, undef, undef, undef, undef, undef, undef, undef, undef, undef, undef, undef, undef, undef, undef, undef, undef, undef, undef, undef, undef, undef, undef], []⟩ rfl (by kernel_rfl) (by kernel_rfl) (by kernel_rfl) (fun _ _ _ h => h) (.inl ⟨by kernel_rfl, fun _ _ => by kernel_rfl⟩) s0 (by kernel_rfl) ?_
    refine takeH (i := 17) (v := .bool (bits BinOp.and IntKind.u8 (y6 : Int) 8 != 0)) ⟨#[.agg hs, .pointer (some ⟨w.heap.size, 0, none⟩), .pointer (some ⟨w.heap.size + 1, 0, none⟩), undef, undef, undef, .pointer (some ⟨w.heap.size, 6, none⟩), .int .u8 (y6 : Nat), .int .u8 (y : Nat), .int .i64 (y : Nat), .pointer (some ⟨w.heap.size, 6, none⟩), .int .u8 (y6 : Nat), .int .u8 (bits BinOp.and IntKind.u8 (y6 : Int) 1), .bool (bits BinOp.and IntKind.u8 (y6 : Int) 1 != 0), .pointer (some ⟨w.heap.size, 6, none⟩), .int .u8 (y6 : Nat), .int .u8 (bits BinOp.and IntKind.u8 (y6 : Int) 2), .bool (bits BinOp.and IntKind.u8 (y6 : Int) 2 != 0), .pointer (some ⟨w.heap.size, 6, none⟩), .int .u8 (y6 : Nat), .int .u8 (bits BinOp.and IntKind.u8 (y6 : Int) 8), .bool (bits BinOp.and IntKind.u8 (y6 : Int) 8 != 0), undef, undef, undef, undef, undef, undef, undef, undef, undef, undef, undef, undef, undef, undef, undef, undef, undef, undef, undef, undef, undef, undef, undef, undef, undef, undef, undef, undef, undef, undef, undef, undef, undef, undef, undef, undef], []⟩ rfl (by kernel_rfl) (by kernel_rfl) (by kernel_rfl) (fun _ _ _ h => h) (.inl ⟨by kernel_rfl, fun v _ => by go_simp⟩) s0 (by kernel_rfl) ?_
    refine takeH (i := 0) (v := .agg hs.toList.toArray) ⟨#[.agg hs, .pointer (some ⟨w.heap.size, 0, none⟩), .pointer (some ⟨w.heap.size + 1, 0, none⟩), undef, .agg hs.toList.toArray, undef, .pointer (some ⟨w.heap.size, 6, none⟩), .int .u8 (y6 : Nat), .int .u8 (y : Nat), .int .i64 (y : Nat), .pointer (some ⟨w.heap.size, 6, none⟩), .int .u8 (y6 : Nat), .int .u8 (bits BinOp.and IntKind.u8 (y6 : Int) 1), .bool (bits BinOp.and IntKind.u8 (y6 : Int) 1 != 0), .pointer (some ⟨w.heap.size, 6, none⟩), .int .u8 (y6 : Nat), .int .u8 (bits BinOp.and IntKind.u8 (y6 : Int) 2), .bool (bits BinOp.and IntKind.u8 (y6 : Int) 2 != 0), .pointer (some ⟨w.heap.size, 6, none⟩), .int .u8 (y6 : Nat), .int .u8 (bits BinOp.and IntKind.u8 (y6 : Int) 8), .bool (bits BinOp.and IntKind.u8 (y6 : Int) 8 != 0), undef, undef, undef, undef, undef, undef, undef, undef, undef, undef, undef, undef, undef, undef, undef, undef, undef, undef, undef, undef, undef, undef, undef, undef, undef, undef, undef, undef, undef, undef, undef, undef, undef, undef, undef, undef], []⟩ rfl (by kernel_rfl) (by kernel_rfl) (by kernel_rfl) (fun _ _ _ h => h) (yieldsIf_load_mid (by kernel_rfl) 67 (.tmp 1) rfl w.heap.size 0 (by kernel_rfl) hs.toList _ (fun v hv => Blk.range hv.bb) Tryd.underlying67 rfl (by rw [Array.length_toList, HSZ.out]; exact infoHdr)) s0 (by kernel_rfl) ?_
    refine wpAnyH_all (rs := [1, 19]) (by kernel_rfl) (by simp) ?_
    intro i hi
    rcases (show i = 1 ∨ i = 19 by simpa using hi) with rfl | rfl
    · refine wpOp_contract (f := 59) rfl (by kernel_rfl) (by kernel_rfl) (FC.out _) ⟨#[.agg hs, .pointer (some ⟨w.heap.size, 0, none⟩), .pointer (some ⟨w.heap.size + 1, 0, none⟩), undef, .agg hs.toList.toArray, .int .i64 (ff : Nat), .pointer (some ⟨w.heap.size, 6, none⟩), .int .u8 (y6 : Nat), .int .u8 (y : Nat), .int .i64 (y : Nat), .pointer (some ⟨w.heap.size, 6, none⟩), .int .u8 (y6 : Nat), .int .u8 (bits BinOp.and IntKind.u8 (y6 : Int) 1), .bool (bits BinOp.and IntKind.u8 (y6 : Int) 1 != 0), .pointer (some ⟨w.heap.size, 6, none⟩), .int .u8 (y6 : Nat), .int .u8 (bits BinOp.and IntKind.u8 (y6 : Int) 2), .bool (bits BinOp.and IntKind.u8 (y6 : Int) 2 != 0), .pointer (some ⟨w.heap.size, 6, none⟩), .int .u8 (y6 : Nat), .int .u8 (bits BinOp.and IntKind.u8 (y6 : Int) 8), .bool (bits BinOp.and IntKind.u8 (y6 : Int) 8 != 0), undef, undef, undef, undef, undef, undef, undef, undef, undef, undef, undef, undef, undef, undef, undef, undef, undef, undef, undef, undef, undef, undef, undef, undef, undef, undef, undef, undef, undef, undef, undef, undef, undef, undef, undef, undef], []⟩ (by kernel_rfl) ?_
      intro Wq hbq
      have s1 := s0.on hbq
      clear hi
      have hq2 : W0.heap.size ≤ Wq.heap.size := s1.bl.size
      refine ⟨s1, ?_⟩
      refine takeH (i := 18) (v := .agg #[.int .i64 (ff : Nat), .int .i64 (y : Nat), .int .i64 0, .bool (bits BinOp.and IntKind.u8 (y6 : Int) 1 != 0), .bool (bits BinOp.and IntKind.u8 (y6 : Int) 8 != 0), .bool (bits BinOp.and IntKind.u8 (y6 : Int) 2 != 0), .int .i64 0, .int .i64 0, .int .i64 0, .int .i64 0, .int .i64 0, .int .i64 0, .int .i64 0, .int .i64 0, .int .i64 0, .slice none 0 0, .slice none 0 0, .slice none 0 0, .slice none 0 0]) ⟨#[.agg hs, .pointer (some ⟨w.heap.size, 0, none⟩), .pointer (some ⟨w.heap.size + 1, 0, none⟩), undef, .agg hs.toList.toArray, .int .i64 (ff : Nat), .pointer (some ⟨w.heap.size, 6, none⟩), .int .u8 (y6 : Nat), .int .u8 (y : Nat), .int .i64 (y : Nat), .pointer (some ⟨w.heap.size, 6, none⟩), .int .u8 (y6 : Nat), .int .u8 (bits BinOp.and IntKind.u8 (y6 : Int) 1), .bool (bits BinOp.and IntKind.u8 (y6 : Int) 1 != 0), .pointer (some ⟨w.heap.size, 6, none⟩), .int .u8 (y6 : Nat), .int .u8 (bits BinOp.and IntKind.u8 (y6 : Int) 2), .bool (bits BinOp.and IntKind.u8 (y6 : Int) 2 != 0), .pointer (some ⟨w.heap.size, 6, none⟩), .int .u8 (y6 : Nat), .int .u8 (bits BinOp.and IntKind.u8 (y6 : Int) 8), .bool (bits BinOp.and IntKind.u8 (y6 : Int) 8 != 0), .agg #[.int .i64 (ff : Nat), .int .i64 (y : Nat), .int .i64 0, .bool (bits BinOp.and IntKind.u8 (y6 : Int) 1 != 0), .bool (bits BinOp.and IntKind.u8 (y6 : Int) 8 != 0), .bool (bits BinOp.and IntKind.u8 (y6 : Int) 2 != 0), .int .i64 0, .int .i64 0, .int .i64 0, .int .i64 0, .int .i64 0, .int .i64 0, .int .i64 0, .int .i64 0, .int .i64 0, .slice none 0 0, .slice none 0 0, .slice none 0 0, .slice none 0 0], undef, undef, undef, undef, undef, undef, undef, undef, undef, undef, undef, undef, undef, undef, undef, undef, undef, undef, undef, undef, undef, undef, undef, undef, undef, undef, undef, undef, undef, undef, undef, undef, undef, undef, undef], []⟩ rfl (by kernel_rfl) (by kernel_rfl) (by kernel_rfl) (fun _ _ _ h => h) (.inl ⟨by kernel_rfl, fun _ _ => by kernel_rfl⟩) s1 (by kernel_rfl) ?_
      refine wpAnyH_all (rs := [19]) (by kernel_rfl) (by simp) ?_
      intro i hi
      obtain rfl : i = 19 := by simpa using hi
      refine wpOp_world rfl (by kernel_rfl) (exec_allocC rfl) ⟨#[.agg hs, .pointer (some ⟨w.heap.size, 0, none⟩), .pointer (some ⟨w.heap.size + 1, 0, none⟩), .pointer (some ⟨Wq.heap.size, 0, none⟩), .agg hs.toList.toArray, .int .i64 (ff : Nat), .pointer (some ⟨w.heap.size, 6, none⟩), .int .u8 (y6 : Nat), .int .u8 (y : Nat), .int .i64 (y : Nat), .pointer (some ⟨w.heap.size, 6, none⟩), .int .u8 (y6 : Nat), .int .u8 (bits BinOp.and IntKind.u8 (y6 : Int) 1), .bool (bits BinOp.and IntKind.u8 (y6 : Int) 1 != 0), .pointer (some ⟨w.heap.size, 6, none⟩), .int .u8 (y6 : Nat), .int .u8 (bits BinOp.and IntKind.u8 (y6 : Int) 2), .bool (bits BinOp.and IntKind.u8 (y6 : Int) 2 != 0), .pointer (some ⟨w.heap.size, 6, none⟩), .int .u8 (y6 : Nat), .int .u8 (bits BinOp.and IntKind.u8 (y6 : Int) 8), .bool (bits BinOp.and IntKind.u8 (y6 : Int) 8 != 0), .agg #[.int .i64 (ff : Nat), .int .i64 (y : Nat), .int .i64 0, .bool (bits BinOp.and IntKind.u8 (y6 : Int) 1 != 0), .bool (bits BinOp.and IntKind.u8 (y6 : Int) 8 != 0), .bool (bits BinOp.and IntKind.u8 (y6 : Int) 2 != 0), .int .i64 0, .int .i64 0, .int .i64 0, .int .i64 0, .int .i64 0, .int .i64 0, .int .i64 0, .int .i64 0, .int .i64 0, .slice none 0 0, .slice none 0 0, .slice none 0 0, .slice none 0 0], undef, undef, undef, undef, undef, undef, undef, undef, undef, undef, undef, undef, undef, undef, undef, undef, undef, undef, undef, undef, undef, undef, undef, undef, undef, undef, undef, undef, undef, undef, undef, undef, undef, undef, undef], []⟩ (by kernel_rfl) ?_
      clear hi
      have bn : Blk (Wq.alloc (.cells Z19 25)) Wq.heap.size Z19 25 := Blk.new Wq Z19 _
      have s2 := s1.on ((Below.refl _ _).alloc (Nat.le_refl _) (.cells Z19 25))
      refine ⟨s2, ?_⟩
      refine wpAnyH_all (rs := [20]) (by kernel_rfl) (by simp) ?_
      intro i hi
      obtain rfl : i = 20 := by simpa using hi
      refine wpOp_store rfl (by kernel_rfl) 25 (.tmp 3) (.tmp 22) rfl Wq.heap.size 0 (.agg #[.int .i64 (ff : Nat), .int .i64 (y : Nat), .int .i64 0, .bool (bits BinOp.and IntKind.u8 (y6 : Int) 1 != 0), .bool (bits BinOp.and IntKind.u8 (y6 : Int) 8 != 0), .bool (bits BinOp.and IntKind.u8 (y6 : Int) 2 != 0), .int .i64 0, .int .i64 0, .int .i64 0, .int .i64 0, .int .i64 0, .int .i64 0, .int .i64 0, .int .i64 0, .int .i64 0, .slice none 0 0, .slice none 0 0, .slice none 0 0, .slice none 0 0]) (#[.int .i64 (ff : Nat), .int .i64 (y : Nat), .int .i64 0, .bool (bits BinOp.and IntKind.u8 (y6 : Int) 1 != 0), .bool (bits BinOp.and IntKind.u8 (y6 : Int) 8 != 0), .bool (bits BinOp.and IntKind.u8 (y6 : Int) 2 != 0), .int .i64 0, .int .i64 0, .int .i64 0, .int .i64 0, .int .i64 0, .int .i64 0, .int .i64 0, .int .i64 0, .int .i64 0, .slice none 0 0, .slice none 0 0, .slice none 0 0, .slice none 0 0]) (by kernel_rfl) (by kernel_rfl) rfl (bn.there 19 rfl) (by exact Tryd.infoCart) (by simp [Value.oneCell']) ⟨#[.agg hs, .pointer (some ⟨w.heap.size, 0, none⟩), .pointer (some ⟨w.heap.size + 1, 0, none⟩), .pointer (some ⟨Wq.heap.size, 0, none⟩), .agg hs.toList.toArray, .int .i64 (ff : Nat), .pointer (some ⟨w.heap.size, 6, none⟩), .int .u8 (y6 : Nat), .int .u8 (y : Nat), .int .i64 (y : Nat), .pointer (some ⟨w.heap.size, 6, none⟩), .int .u8 (y6 : Nat), .int .u8 (bits BinOp.and IntKind.u8 (y6 : Int) 1), .bool (bits BinOp.and IntKind.u8 (y6 : Int) 1 != 0), .pointer (some ⟨w.heap.size, 6, none⟩), .int .u8 (y6 : Nat), .int .u8 (bits BinOp.and IntKind.u8 (y6 : Int) 2), .bool (bits BinOp.and IntKind.u8 (y6 : Int) 2 != 0), .pointer (some ⟨w.heap.size, 6, none⟩), .int .u8 (y6 : Nat), .int .u8 (bits BinOp.and IntKind.u8 (y6 : Int) 8), .bool (bits BinOp.and IntKind.u8 (y6 : Int) 8 != 0), .agg #[.int .i64 (ff : Nat), .int .i64 (y : Nat), .int .i64 0, .bool (bits BinOp.and IntKind.u8 (y6 : Int) 1 != 0), .bool (bits BinOp.and IntKind.u8 (y6 : Int) 8 != 0), .bool (bits BinOp.and IntKind.u8 (y6 : Int) 2 != 0), .int .i64 0, .int .i64 0, .int .i64 0, .int .i64 0, .int .i64 0, .int .i64 0, .int .i64 0, .int .i64 0, .int .i64 0, .slice none 0 0, .slice none 0 0, .slice none 0 0, .slice none 0 0], undef, undef, undef, undef, undef, undef, undef, undef, undef, undef, undef, undef, undef, undef, undef, undef, undef, undef, undef, undef, undef, undef, undef, undef, undef, undef, undef, undef, undef, undef, undef, undef, undef, undef, undef], []⟩ (by kernel_rfl) ?_
      intro Wz eqW
      clear hi
      have hq1 := z0.lt
      have s9 : SF w hs W0 Wz := by
        rw [eqW]
        exact ⟨s2.bb.otherCells (by omega) _ _, s2.zz.otherCells (by omega) _ _, setCells_below (by omega) _ _ _ _ s2.bl⟩
      have bz : Blk Wz Wq.heap.size #[.int .i64 (ff : Nat), .int .i64 (y : Nat), .int .i64 0, .bool vt, .bool fo, .bool ba, .int .i64 0, .int .i64 0, .int .i64 0, .int .i64 0, .int .i64 0, .int .i64 0, .int .i64 0, .int .i64 0, .int .i64 0, .slice none 0 0, .slice none 0 0, .slice none 0 0, .slice none 0 0] 25 := by
        rw [eqW]
        refine Blk.cong (bn.setAll (L := #[.int .i64 (ff : Nat), .int .i64 (y : Nat), .int .i64 0, .bool (bits BinOp.and IntKind.u8 (y6 : Int) 1 != 0), .bool (bits BinOp.and IntKind.u8 (y6 : Int) 8 != 0), .bool (bits BinOp.and IntKind.u8 (y6 : Int) 2 != 0), .int .i64 0, .int .i64 0, .int .i64 0, .int .i64 0, .int .i64 0, .int .i64 0, .int .i64 0, .int .i64 0, .int .i64 0, .slice none 0 0, .slice none 0 0, .slice none 0 0, .slice none 0 0]) rfl) ?_
        rw [v1, v2, v8]
      have hgt : w.heap.size + 1 < Wq.heap.size := by omega
      have hbF := hb0.trans (s9.bl.mono hb0.size)
      have s9b := s9.bb
      have s9z := s9.zz
      refine ⟨s9, ?_⟩
      clear eqW bn s9
      refine wpAnyH_done (by kernel_rfl) ?_ _
      go_wp2
      go_meet
      refine ⟨Wq.heap.size, ?_, bz, s9b, s9z, hgt, hbF⟩
      rfl
    · refine wpOp_world rfl (by kernel_rfl) (exec_allocC rfl) ⟨#[.agg hs, .pointer (some ⟨w.heap.size, 0, none⟩), .pointer (some ⟨w.heap.size + 1, 0, none⟩), .pointer (some ⟨W0.heap.size, 0, none⟩), .agg hs.toList.toArray, undef, .pointer (some ⟨w.heap.size, 6, none⟩), .int .u8 (y6 : Nat), .int .u8 (y : Nat), .int .i64 (y : Nat), .pointer (some ⟨w.heap.size, 6, none⟩), .int .u8 (y6 : Nat), .int .u8 (bits BinOp.and IntKind.u8 (y6 : Int) 1), .bool (bits BinOp.and IntKind.u8 (y6 : Int) 1 != 0), .pointer (some ⟨w.heap.size, 6, none⟩), .int .u8 (y6 : Nat), .int .u8 (bits BinOp.and IntKind.u8 (y6 : Int) 2), .bool (bits BinOp.and IntKind.u8 (y6 : Int) 2 != 0), .pointer (some ⟨w.heap.size, 6, none⟩), .int .u8 (y6 : Nat), .int .u8 (bits BinOp.and IntKind.u8 (y6 : Int) 8), .bool (bits BinOp.and IntKind.u8 (y6 : Int) 8 != 0), undef, undef, undef, undef, undef, undef, undef, undef, undef, undef, undef, undef, undef, undef, undef, undef, undef, undef, undef, undef, undef, undef, undef, undef, undef, undef, undef, undef, undef, undef, undef, undef, undef, undef, undef, undef], []⟩ (by kernel_rfl) ?_
      clear hi
      have bn0 : Blk (W0.drew.alloc (.cells Z19 25)) W0.heap.size Z19 25 := Blk.new W0.drew Z19 _
      have s1 := s0.on ((Below.refl _ _).alloc (Nat.le_refl _) (.cells Z19 25))
      refine ⟨s1, ?_⟩
      refine wpAnyH_all (rs := [1]) (by kernel_rfl) (by simp) ?_
      intro i hi
      obtain rfl : i = 1 := by simpa using hi
      refine wpOp_contract (f := 59) rfl (by kernel_rfl) (by kernel_rfl) (FC.out _) ⟨#[.agg hs, .pointer (some ⟨w.heap.size, 0, none⟩), .pointer (some ⟨w.heap.size + 1, 0, none⟩), .pointer (some ⟨W0.heap.size, 0, none⟩), .agg hs.toList.toArray, .int .i64 (ff : Nat), .pointer (some ⟨w.heap.size, 6, none⟩), .int .u8 (y6 : Nat), .int .u8 (y : Nat), .int .i64 (y : Nat), .pointer (some ⟨w.heap.size, 6, none⟩), .int .u8 (y6 : Nat), .int .u8 (bits BinOp.and IntKind.u8 (y6 : Int) 1), .bool (bits BinOp.and IntKind.u8 (y6 : Int) 1 != 0), .pointer (some ⟨w.heap.size, 6, none⟩), .int .u8 (y6 : Nat), .int .u8 (bits BinOp.and IntKind.u8 (y6 : Int) 2), .bool (bits BinOp.and IntKind.u8 (y6 : Int) 2 != 0), .pointer (some ⟨w.heap.size, 6, none⟩), .int .u8 (y6 : Nat), .int .u8 (bits BinOp.and IntKind.u8 (y6 : Int) 8), .bool (bits BinOp.and IntKind.u8 (y6 : Int) 8 != 0), undef, undef, undef, undef, undef, undef, undef, undef, undef, undef, undef, undef, undef, undef, undef, undef, undef, undef, undef, undef, undef, undef, undef, undef, undef, undef, undef, undef, undef, undef, undef, undef, undef, undef, undef, undef], []⟩ (by kernel_rfl) ?_
      intro Wq hbq
      have s2 := s1.on hbq
      have bn := bn0.below bn0.lt hbq
      clear hi
      refine ⟨s2, ?_⟩
      refine takeH (i := 18) (v := .agg #[.int .i64 (ff : Nat), .int .i64 (y : Nat), .int .i64 0, .bool (bits BinOp.and IntKind.u8 (y6 : Int) 1 != 0), .bool (bits BinOp.and IntKind.u8 (y6 : Int) 8 != 0), .bool (bits BinOp.and IntKind.u8 (y6 : Int) 2 != 0), .int .i64 0, .int .i64 0, .int .i64 0, .int .i64 0, .int .i64 0, .int .i64 0, .int .i64 0, .int .i64 0, .int .i64 0, .slice none 0 0, .slice none 0 0, .slice none 0 0, .slice none 0 0]) ⟨#[.agg hs, .pointer (some ⟨w.heap.size, 0, none⟩), .pointer (some ⟨w.heap.size + 1, 0, none⟩), .pointer (some ⟨W0.heap.size, 0, none⟩), .agg hs.toList.toArray, .int .i64 (ff : Nat), .pointer (some ⟨w.heap.size, 6, none⟩), .int .u8 (y6 : Nat), .int .u8 (y : Nat), .int .i64 (y : Nat), .pointer (some ⟨w.heap.size, 6, none⟩), .int .u8 (y6 : Nat), .int .u8 (bits BinOp.and IntKind.u8 (y6 : Int) 1), .bool (bits BinOp.and IntKind.u8 (y6 : Int) 1 != 0), .pointer (some ⟨w.heap.size, 6, none⟩), .int .u8 (y6 : Nat), .int .u8 (bits BinOp.and IntKind.u8 (y6 : Int) 2), .bool (bits BinOp.and IntKind.u8 (y6 : Int) 2 != 0), .pointer (some ⟨w.heap.size, 6, none⟩), .int .u8 (y6 : Nat), .int .u8 (bits BinOp.and IntKind.u8 (y6 : Int) 8), .bool (bits BinOp.and IntKind.u8 (y6 : Int) 8 != 0), .agg #[.int .i64 (ff : Nat), .int .i64 (y : Nat), .int .i64 0, .bool (bits BinOp.and IntKind.u8 (y6 : Int) 1 != 0), .bool (bits BinOp.and IntKind.u8 (y6 : Int) 8 != 0), .bool (bits BinOp.and IntKind.u8 (y6 : Int) 2 != 0), .int .i64 0, .int .i64 0, .int .i64 0, .int .i64 0, .int .i64 0, .int .i64 0, .int .i64 0, .int .i64 0, .int .i64 0, .slice none 0 0, .slice none 0 0, .slice none 0 0, .slice none 0 0], undef, undef, undef, undef, undef, undef, undef, undef, undef, undef, undef, undef, undef, undef, undef, undef, undef, undef, undef, undef, undef, undef, undef, undef, undef, undef, undef, undef, undef, undef, undef, undef, undef, undef, undef], []⟩ rfl (by kernel_rfl) (by kernel_rfl) (by kernel_rfl) (fun _ _ _ h => h) (.inl ⟨by kernel_rfl, fun _ _ => by kernel_rfl⟩) s2 (by kernel_rfl) ?_
      refine wpAnyH_all (rs := [20]) (by kernel_rfl) (by simp) ?_
      intro i hi
      obtain rfl : i = 20 := by simpa using hi
      refine wpOp_store rfl (by kernel_rfl) 25 (.tmp 3) (.tmp 22) rfl W0.heap.size 0 (.agg #[.int .i64 (ff : Nat), .int .i64 (y : Nat), .int .i64 0, .bool (bits BinOp.and IntKind.u8 (y6 : Int) 1 != 0), .bool (bits BinOp.and IntKind.u8 (y6 : Int) 8 != 0), .bool (bits BinOp.and IntKind.u8 (y6 : Int) 2 != 0), .int .i64 0, .int .i64 0, .int .i64 0, .int .i64 0, .int .i64 0, .int .i64 0, .int .i64 0, .int .i64 0, .int .i64 0, .slice none 0 0, .slice none 0 0, .slice none 0 0, .slice none 0 0]) (#[.int .i64 (ff : Nat), .int .i64 (y : Nat), .int .i64 0, .bool (bits BinOp.and IntKind.u8 (y6 : Int) 1 != 0), .bool (bits BinOp.and IntKind.u8 (y6 : Int) 8 != 0), .bool (bits BinOp.and IntKind.u8 (y6 : Int) 2 != 0), .int .i64 0, .int .i64 0, .int .i64 0, .int .i64 0, .int .i64 0, .int .i64 0, .int .i64 0, .int .i64 0, .int .i64 0, .slice none 0 0, .slice none 0 0, .slice none 0 0, .slice none 0 0]) (by kernel_rfl) (by kernel_rfl) rfl (bn.there 19 rfl) (by exact Tryd.infoCart) (by simp [Value.oneCell']) ⟨#[.agg hs, .pointer (some ⟨w.heap.size, 0, none⟩), .pointer (some ⟨w.heap.size + 1, 0, none⟩), .pointer (some ⟨W0.heap.size, 0, none⟩), .agg hs.toList.toArray, .int .i64 (ff : Nat), .pointer (some ⟨w.heap.size, 6, none⟩), .int .u8 (y6 : Nat), .int .u8 (y : Nat), .int .i64 (y : Nat), .pointer (some ⟨w.heap.size, 6, none⟩), .int .u8 (y6 : Nat), .int .u8 (bits BinOp.and IntKind.u8 (y6 : Int) 1), .bool (bits BinOp.and IntKind.u8 (y6 : Int) 1 != 0), .pointer (some ⟨w.heap.size, 6, none⟩), .int .u8 (y6 : Nat), .int .u8 (bits BinOp.and IntKind.u8 (y6 : Int) 2), .bool (bits BinOp.and IntKind.u8 (y6 : Int) 2 != 0), .pointer (some ⟨w.heap.size, 6, none⟩), .int .u8 (y6 : Nat), .int .u8 (bits BinOp.and IntKind.u8 (y6 : Int) 8), .bool (bits BinOp.and IntKind.u8 (y6 : Int) 8 != 0), .agg #[.int .i64 (ff : Nat), .int .i64 (y : Nat), .int .i64 0, .bool (bits BinOp.and IntKind.u8 (y6 : Int) 1 != 0), .bool (bits BinOp.and IntKind.u8 (y6 : Int) 8 != 0), .bool (bits BinOp.and IntKind.u8 (y6 : Int) 2 != 0), .int .i64 0, .int .i64 0, .int .i64 0, .int .i64 0, .int .i64 0, .int .i64 0, .int .i64 0, .int .i64 0, .int .i64 0, .slice none 0 0, .slice none 0 0, .slice none 0 0, .slice none 0 0], undef, undef, undef, undef, undef, undef, undef, undef, undef, undef, undef, undef, undef, undef, undef, undef, undef, undef, undef, undef, undef, undef, undef, undef, undef, undef, undef, undef, undef, undef, undef, undef, undef, undef, undef], []⟩ (by kernel_rfl) ?_
      intro Wz eqW
      clear hi
      have hq1 := z0.lt
      have s9 : SF w hs W0 Wz := by
        rw [eqW]
        exact ⟨s2.bb.otherCells (by omega) _ _, s2.zz.otherCells (by omega) _ _, setCells_below (by omega) _ _ _ _ s2.bl⟩
      have bz : Blk Wz W0.heap.size #[.int .i64 (ff : Nat), .int .i64 (y : Nat), .int .i64 0, .bool vt, .bool fo, .bool ba, .int .i64 0, .int .i64 0, .int .i64 0, .int .i64 0, .int .i64 0, .int .i64 0, .int .i64 0, .int .i64 0, .int .i64 0, .slice none 0 0, .slice none 0 0, .slice none 0 0, .slice none 0 0] 25 := by
        rw [eqW]
        refine Blk.cong (bn.setAll (L := #[.int .i64 (ff : Nat), .int .i64 (y : Nat), .int .i64 0, .bool (bits BinOp.and IntKind.u8 (y6 : Int) 1 != 0), .bool (bits BinOp.and IntKind.u8 (y6 : Int) 8 != 0), .bool (bits BinOp.and IntKind.u8 (y6 : Int) 2 != 0), .int .i64 0, .int .i64 0, .int .i64 0, .int .i64 0, .int .i64 0, .int .i64 0, .int .i64 0, .int .i64 0, .int .i64 0, .slice none 0 0, .slice none 0 0, .slice none 0 0, .slice none 0 0]) rfl) ?_
        rw [v1, v2, v8]
      have hgt : w.heap.size + 1 < W0.heap.size := by omega
      have hbF := hb0.trans (s9.bl.mono hb0.size)
      have s9b := s9.bb
      have s9z := s9.zz
      refine ⟨s9, ?_⟩
      clear eqW bn s9
      refine wpAnyH_done (by kernel_rfl) ?_ _
      go_wp2
      go_meet
      refine ⟨W0.heap.size, ?_, bz, s9b, s9z, hgt, hbF⟩
      rfl
  case rest =>
  obtain ⟨g, rfl, bg, bH, bZ, hlt, hbw⟩ := hcut
  generalize wc = W1 at *
  clear b0 z0 hb0 FC v1 v2 v8 m6 l6
  rcases hf3 with rfl | rfl | rfl
  · have HE : Hid ((#[.int .i64 0, .int .i64 (y : Nat), .int .i64 0, .bool vt, .bool fo, .bool ba, .int .i64 0, .int .i64 0, .int .i64 0, .int .i64 0, .int .i64 0, .int .i64 ((if ba then 0 else 1 * 8192 : Nat) : Int), .int .i64 ((if ba then 1 * 8192 else 0 : Nat) : Int), .int .i64 0, .int .i64 0, .slice none 0 0, .slice none 0 0, .slice none 0 0, .slice none 0 0] : Array Value) = cN (h.cf h.cr0 0 0 0 0)) := by
      unfold Hid cN Hq.cf Hq.cr0 Hq.wu Hq.bat
      rw [HF.out, HVB.out.1.1, HVB.out.1.2, HVB.out.2, HY.out]
      rfl
    have NC : Hid (Calls _ _ _ _ _) := setWork_g g 1 0 (y : Nat) 0 0 vt fo ba (by decide) W1 bg
    have d0 := (bg.cell 0).trans (show _ = some (.int .i64 0) from rfl)
    go_upto_region 4 with fail
    go_wp2_with fail
    refine NC.out.mono ?_
    rintro e W2 ⟨vv, rfl, bg2, tk2⟩
    have bZ2 := tk2.blk bZ (by omega)
    have hb2 : Below w.heap.size w W2 := hbw.trans (tk2.bl.mono (by omega))
    clear NC d0 bg bH bZ hbw
    go_upto_region 12 with fail
    have HC : Hid ((#[.int .i64 0, .int .i64 (y : Nat), .int .i64 0, .bool vt, .bool fo, .bool ba, .int .i64 0, .int .i64 0, .int .i64 0, .int .i64 0, .int .i64 0, .int .i64 ((if ba then 0 else 1 * 8192 : Nat) : Int), .int .i64 ((if ba then 1 * 8192 else 0 : Nat) : Int), .int .i64 0, .int .i64 0, .slice none 0 0, .slice none 0 0, .slice none 0 0, .slice none 0 0] : Array Value).size = 19 ∧ (#[.int .i64 0, .int .i64 (y : Nat), .int .i64 0, .bool vt, .bool fo, .bool ba, .int .i64 0, .int .i64 0, .int .i64 0, .int .i64 0, .int .i64 0, .int .i64 ((if ba then 0 else 1 * 8192 : Nat) : Int), .int .i64 ((if ba then 1 * 8192 else 0 : Nat) : Int), .int .i64 0, .int .i64 0, .slice none 0 0, .slice none 0 0, .slice none 0 0, .slice none 0 0] : Array Value).all (·.oneCell') = true) := ⟨rfl, by simp [nA, Value.oneCell']⟩
    generalize hCC : (#[.int .i64 0, .int .i64 (y : Nat), .int .i64 0, .bool vt, .bool fo, .bool ba, .int .i64 0, .int .i64 0, .int .i64 0, .int .i64 0, .int .i64 0, .int .i64 ((if ba then 0 else 1 * 8192 : Nat) : Int), .int .i64 ((if ba then 1 * 8192 else 0 : Nat) : Int), .int .i64 0, .int .i64 0, .slice none 0 0, .slice none 0 0, .slice none 0 0, .slice none 0 0] : Array Value) = CC at *
    have HCC : Hid (CC = cN (h.cf h.cr0 0 0 0 0)) := by first | exact HE | (unfold Hid; rw [← hCC]; exact HE.out)
    clear hCC HE
    go_wp2_with (first
      | refine wpList_load_mid rfl 25 _ rfl g 0 rfl CC.toList _ bg2.range Tryd.underlying25 rfl (by rw [Array.length_toList, HC.out.1]; exact Tryd.infoCart) ?_
      | refine wpList_store_mid rfl 25 _ _ rfl (w.heap.size + 1) 0 CC rfl rfl (by exact bZ2.there _ HC.out.1.symm) (by rw [HC.out.1]; exact Tryd.infoCart) HC.out.2 ?_)
    refine ret_agg1 (m := w.heap.size + 1) (L := CC) Tryd.results42 (by rfl) (bZ2.setAll (L := CC) (by rw [HC.out.1]; rfl)) Tryd.underlying25 rfl (by rw [HC.out.1]; exact Tryd.infoCart) ?_
    exact ⟨by rw [HCF.out, HCC.out], setCells_below (by omega) _ _ _ _ hb2⟩
  · have k7 := HB.out.k7
    have k8 := HB.out.k8
    have k9 := HB.out.k9
    obtain ⟨uu, huu⟩ : ∃ uu, max h.b8 1 = uu := ⟨_, rfl⟩
    obtain ⟨mm, hmm⟩ : ∃ mm, y + h.b7 / 16 * 16 = mm := ⟨_, rfl⟩
    obtain ⟨kk, hkk⟩ : ∃ kk, h.b7 % 4 = kk := ⟨_, rfl⟩
    obtain ⟨tt, htt⟩ : ∃ tt, h.b9 % 2 = tt := ⟨_, rfl⟩
    have HE : Hid ((#[.int .i64 1, .int .i64 (mm : Nat), .int .i64 0, .bool vt, .bool fo, .bool ba, .int .i64 (kk : Nat), .int .i64 0, .int .i64 (tt : Nat), .int .i64 0, .int .i64 0, .int .i64 ((if ba then 0 else uu * 8192 : Nat) : Int), .int .i64 ((if ba then uu * 8192 else 0 : Nat) : Int), .int .i64 0, .int .i64 0, .slice none 0 0, .slice none 0 0, .slice none 0 0, .slice none 0 0] : Array Value) = cN (h.cf h.cr0 0 0 0 0)) := by
      unfold Hid cN Hq.cf Hq.cr0 Hq.wu Hq.bat
      rw [HF.out, HVB.out.1.1, HVB.out.1.2, HVB.out.2, HY.out]
      rw [← huu, ← hmm, ← hkk, ← htt]
      rfl
    have o7 := or_map y h.b7 hm16 k7
    rw [hmm] at o7
    have a7 := by_and h.b7 k7
    have a240 := a7.2.2.1
    have a3 := a7.2.1
    rw [hkk] at a3
    have a1 := (by_bit h.b9 k9).1
    rw [htt] at a1
    have lm : mm < 256 := by omega
    have lk : kk < 4 := by omega
    have lt' : tt < 2 := by omega
    have hmax : max (h.b8 : Int) 1 = (uu : Int) := by omega
    have lu : uu ≤ 255 := by omega
    have H789 : Hid ((hs[7]? = some (.int .u8 ((h.b7 : Nat) : Int)) ∧ hs[8]? = some (.int .u8 ((h.b8 : Nat) : Int))) ∧ hs[9]? = some (.int .u8 ((h.b9 : Nat) : Int))) := by rw [HH.out]; exact ⟨⟨rfl, rfl⟩, rfl⟩
    have lz : h.b7 / 16 * 16 < 256 := by omega
    clear huu hmm hkk htt a7 hm16
    generalize h.b7 / 16 * 16 = z16 at *
    generalize h.b7 = y7 at *
    generalize h.b8 = y8 at *
    generalize h.b9 = y9 at *
    have d0 := (bg.cell 0).trans (show _ = some (.int .i64 1) from rfl)
    have d1 := (bg.cell 1).trans (show _ = some (.int .i64 (y : Nat)) from rfl)
    have f1 := bg.free 1
    have c7 := (bH.cell 7).trans H789.out.1.1
    go_upto_region 7 with fail
    have K1 : Blk (W1.setCell ⟨g, 1, none⟩ (.int .i64 (mm : Nat))) g #[.int .i64 1, .int .i64 (mm : Nat), .int .i64 0, .bool vt, .bool fo, .bool ba, .int .i64 0, .int .i64 0, .int .i64 0, .int .i64 0, .int .i64 0, .int .i64 0, .int .i64 0, .int .i64 0, .int .i64 0, .slice none 0 0, .slice none 0 0, .slice none 0 0, .slice none 0 0] 25 := bg.set 1 (.int .i64 (mm : Nat))
    have t1 := Tk.set (m := g) W1 1 (.int .i64 (mm : Nat))
    have bH1 := t1.blk bH (by omega)
    clear bg d0 d1 f1 c7 bH
    generalize W1.setCell ⟨g, 1, none⟩ (.int .i64 (mm : Nat)) = W2 at *
    have c7 := (bH1.cell 7).trans H789.out.1.1
    have d6 := (K1.cell 6).trans (show _ = some (.int .i64 0) from rfl)
    have f6 := K1.free 6
    go_upto_region 8 with fail
    have K2 : Blk (W2.setCell ⟨g, 6, none⟩ (.int .i64 (kk : Nat))) g #[.int .i64 1, .int .i64 (mm : Nat), .int .i64 0, .bool vt, .bool fo, .bool ba, .int .i64 (kk : Nat), .int .i64 0, .int .i64 0, .int .i64 0, .int .i64 0, .int .i64 0, .int .i64 0, .int .i64 0, .int .i64 0, .slice none 0 0, .slice none 0 0, .slice none 0 0, .slice none 0 0] 25 := K1.set 6 (.int .i64 (kk : Nat))
    have t2 := t1.trans (Tk.set (m := g) W2 6 (.int .i64 (kk : Nat)))
    have bH2 := (Tk.set (m := g) W2 6 (.int .i64 (kk : Nat))).blk bH1 (by omega)
    clear K1 d6 f6 c7 bH1 t1
    generalize W2.setCell ⟨g, 6, none⟩ (.int .i64 (kk : Nat)) = W3 at *
    have c9 := (bH2.cell 9).trans H789.out.2
    have d8 := (K2.cell 8).trans (show _ = some (.int .i64 0) from rfl)
    have f8 := K2.free 8
    go_upto_region 9 with fail
    have K3 : Blk (W3.setCell ⟨g, 8, none⟩ (.int .i64 (tt : Nat))) g #[.int .i64 1, .int .i64 (mm : Nat), .int .i64 0, .bool vt, .bool fo, .bool ba, .int .i64 (kk : Nat), .int .i64 0, .int .i64 (tt : Nat), .int .i64 0, .int .i64 0, .int .i64 0, .int .i64 0, .int .i64 0, .int .i64 0, .slice none 0 0, .slice none 0 0, .slice none 0 0, .slice none 0 0] 25 := K2.set 8 (.int .i64 (tt : Nat))
    have t3 := t2.trans (Tk.set (m := g) W3 8 (.int .i64 (tt : Nat)))
    have bH3 := (Tk.set (m := g) W3 8 (.int .i64 (tt : Nat))).blk bH2 (by omega)
    clear K2 d8 f8 c9 bH2 t2
    generalize W3.setCell ⟨g, 8, none⟩ (.int .i64 (tt : Nat)) = W4 at *
    have c8 := (bH3.cell 8).trans H789.out.1.2
    have NC : Hid (Calls _ _ _ _ _) := setWork_g g uu 1 (mm : Nat) (kk : Nat) (tt : Nat) vt fo ba lu W4 K3
    rcases (show (y8 = 0 ∧ uu = 1) ∨ (1 ≤ y8 ∧ uu = y8) by omega) with ⟨h8, hu⟩ | ⟨h8, hu⟩
    · subst hu
      subst h8
      go_wp2_with fail
      refine NC.out.mono ?_
      rintro e W5 ⟨vv, rfl, bg2, tk5⟩
      have t5 := t3.trans tk5
      have bZ2 := t5.blk bZ (by omega)
      have hb2 : Below w.heap.size w W5 := hbw.trans (t5.bl.mono (by omega))
      clear NC bH3 bZ hbw K3 t3 tk5 t5 c8
      go_upto_region 12 with fail
      have HC : Hid ((#[.int .i64 1, .int .i64 (mm : Nat), .int .i64 0, .bool vt, .bool fo, .bool ba, .int .i64 (kk : Nat), .int .i64 0, .int .i64 (tt : Nat), .int .i64 0, .int .i64 0, .int .i64 ((if ba then 0 else 1 * 8192 : Nat) : Int), .int .i64 ((if ba then 1 * 8192 else 0 : Nat) : Int), .int .i64 0, .int .i64 0, .slice none 0 0, .slice none 0 0, .slice none 0 0, .slice none 0 0] : Array Value).size = 19 ∧ (#[.int .i64 1, .int .i64 (mm : Nat), .int .i64 0, .bool vt, .bool fo, .bool ba, .int .i64 (kk : Nat), .int .i64 0, .int .i64 (tt : Nat), .int .i64 0, .int .i64 0, .int .i64 ((if ba then 0 else 1 * 8192 : Nat) : Int), .int .i64 ((if ba then 1 * 8192 else 0 : Nat) : Int), .int .i64 0, .int .i64 0, .slice none 0 0, .slice none 0 0, .slice none 0 0, .slice none 0 0] : Array Value).all (·.oneCell') = true) := ⟨rfl, by simp [nA, Value.oneCell']⟩
      generalize hCC : (#[.int .i64 1, .int .i64 (mm : Nat), .int .i64 0, .bool vt, .bool fo, .bool ba, .int .i64 (kk : Nat), .int .i64 0, .int .i64 (tt : Nat), .int .i64 0, .int .i64 0, .int .i64 ((if ba then 0 else 1 * 8192 : Nat) : Int), .int .i64 ((if ba then 1 * 8192 else 0 : Nat) : Int), .int .i64 0, .int .i64 0, .slice none 0 0, .slice none 0 0, .slice none 0 0, .slice none 0 0] : Array Value) = CC at *
      have HCC : Hid (CC = cN (h.cf h.cr0 0 0 0 0)) := by first | exact HE | (unfold Hid; rw [← hCC]; exact HE.out)
      clear hCC HE
      go_wp2_with (first
        | refine wpList_load_mid rfl 25 _ rfl g 0 rfl CC.toList _ bg2.range Tryd.underlying25 rfl (by rw [Array.length_toList, HC.out.1]; exact Tryd.infoCart) ?_
        | refine wpList_store_mid rfl 25 _ _ rfl (w.heap.size + 1) 0 CC rfl rfl (by exact bZ2.there _ HC.out.1.symm) (by rw [HC.out.1]; exact Tryd.infoCart) HC.out.2 ?_)
      refine ret_agg1 (m := w.heap.size + 1) (L := CC) Tryd.results42 (by rfl) (bZ2.setAll (L := CC) (by rw [HC.out.1]; rfl)) Tryd.underlying25 rfl (by rw [HC.out.1]; exact Tryd.infoCart) ?_
      exact ⟨by rw [HCF.out, HCC.out], setCells_below (by omega) _ _ _ _ hb2⟩
    · subst hu
      have h8' : ¬ (uu : Int) < 1 := by omega
      have h8'' : (1 : Int) ≤ (uu : Int) := by omega
      clear hmax
      go_wp2_with fail
      refine NC.out.mono ?_
      rintro e W5 ⟨vv, rfl, bg2, tk5⟩
      have t5 := t3.trans tk5
      have bZ2 := t5.blk bZ (by omega)
      have hb2 : Below w.heap.size w W5 := hbw.trans (t5.bl.mono (by omega))
      clear NC bH3 bZ hbw K3 t3 tk5 t5 c8 h8' h8''
      go_upto_region 12 with fail
      have HC : Hid ((#[.int .i64 1, .int .i64 (mm : Nat), .int .i64 0, .bool vt, .bool fo, .bool ba, .int .i64 (kk : Nat), .int .i64 0, .int .i64 (tt : Nat), .int .i64 0, .int .i64 0, .int .i64 ((if ba then 0 else uu * 8192 : Nat) : Int), .int .i64 ((if ba then uu * 8192 else 0 : Nat) : Int), .int .i64 0, .int .i64 0, .slice none 0 0, .slice none 0 0, .slice none 0 0, .slice none 0 0] : Array Value).size = 19 ∧ (#[.int .i64 1, .int .i64 (mm : Nat), .int .i64 0, .bool vt, .bool fo, .bool ba, .int .i64 (kk : Nat), .int .i64 0, .int .i64 (tt : Nat), .int .i64 0, .int .i64 0, .int .i64 ((if ba then 0 else uu * 8192 : Nat) : Int), .int .i64 ((if ba then uu * 8192 else 0 : Nat) : Int), .int .i64 0, .int .i64 0, .slice none 0 0, .slice none 0 0, .slice none 0 0, .slice none 0 0] : Array Value).all (·.oneCell') = true) := ⟨rfl, by simp [nA, Value.oneCell']⟩
      generalize hCC : (#[.int .i64 1, .int .i64 (mm : Nat), .int .i64 0, .bool vt, .bool fo, .bool ba, .int .i64 (kk : Nat), .int .i64 0, .int .i64 (tt : Nat), .int .i64 0, .int .i64 0, .int .i64 ((if ba then 0 else uu * 8192 : Nat) : Int), .int .i64 ((if ba then uu * 8192 else 0 : Nat) : Int), .int .i64 0, .int .i64 0, .slice none 0 0, .slice none 0 0, .slice none 0 0, .slice none 0 0] : Array Value) = CC at *
      have HCC : Hid (CC = cN (h.cf h.cr0 0 0 0 0)) := by first | exact HE | (unfold Hid; rw [← hCC]; exact HE.out)
      clear hCC HE
      go_wp2_with (first
        | refine wpList_load_mid rfl 25 _ rfl g 0 rfl CC.toList _ bg2.range Tryd.underlying25 rfl (by rw [Array.length_toList, HC.out.1]; exact Tryd.infoCart) ?_
        | refine wpList_store_mid rfl 25 _ _ rfl (w.heap.size + 1) 0 CC rfl rfl (by exact bZ2.there _ HC.out.1.symm) (by rw [HC.out.1]; exact Tryd.infoCart) HC.out.2 ?_)
      refine ret_agg1 (m := w.heap.size + 1) (L := CC) Tryd.results42 (by rfl) (bZ2.setAll (L := CC) (by rw [HC.out.1]; rfl)) Tryd.underlying25 rfl (by rw [HC.out.1]; exact Tryd.infoCart) ?_
      exact ⟨by rw [HCF.out, HCC.out], setCells_below (by omega) _ _ _ _ hb2⟩
  · have HE : Hid (nA (nxOf h) vt fo ba = cN (h.cf h.cr0 0 0 0 0)) := by
      unfold Hid cN nA nxOf Hq.cf Hq.cr0 Hq.wu Hq.bat
      rw [HF.out, HVB.out.1.1, HVB.out.1.2, HVB.out.2]
      rfl
    have k7 := HB.out.k7
    have k6 := HB.out.k6
    have HYY : Hid ((nxOf h).m % 16 = y) := by
      unfold Hid; rw [← HY.out]; show (h.b6 / 16 + h.b7 / 16 * 16 + h.b8 % 16 * 256) % 16 = h.b6 / 16; omega
    have NC : Hid (Calls _ _ _ _ _) := nes2_g hs h (nxOf h) (nx_of h HB.out) HH.out vt fo ba W1 g y HYY.out bg
    have d0 := (bg.cell 0).trans (show _ = some (.int .i64 2) from rfl)
    clear k7 k6
    go_upto_region 11 with fail
    go_wp2_with (refine wpList_load_mid rfl 67 _ rfl w.heap.size 0 rfl hs.toList _ bH.range Tryd.underlying67 rfl (by rw [Array.length_toList, HSZ.out]; exact infoHdr) ?_; rw [Array.toArray_toList])
    refine NC.out.mono ?_
    rintro e W2 ⟨vv, rfl, bg2, tk2⟩
    have bZ2 := tk2.blk bZ (by omega)
    have hb2 : Below w.heap.size w W2 := hbw.trans (tk2.bl.mono (by omega))
    clear NC d0 bg bH bZ hbw
    go_upto_region 12 with fail
    have HC : Hid ((nA (nxOf h) vt fo ba : Array Value).size = 19 ∧ (nA (nxOf h) vt fo ba : Array Value).all (·.oneCell') = true) := ⟨rfl, by simp [nA, Value.oneCell']⟩
    generalize hCC : (nA (nxOf h) vt fo ba : Array Value) = CC at *
    have HCC : Hid (CC = cN (h.cf h.cr0 0 0 0 0)) := by first | exact HE | (unfold Hid; rw [← hCC]; exact HE.out)
    clear hCC HE
    go_wp2_with (first
      | refine wpList_load_mid rfl 25 _ rfl g 0 rfl CC.toList _ bg2.range Tryd.underlying25 rfl (by rw [Array.length_toList, HC.out.1]; exact Tryd.infoCart) ?_
      | refine wpList_store_mid rfl 25 _ _ rfl (w.heap.size + 1) 0 CC rfl rfl (by exact bZ2.there _ HC.out.1.symm) (by rw [HC.out.1]; exact Tryd.infoCart) HC.out.2 ?_)
    refine ret_agg1 (m := w.heap.size + 1) (L := CC) Tryd.results42 (by rfl) (bZ2.setAll (L := CC) (by rw [HC.out.1]; rfl)) Tryd.underlying25 rfl (by rw [HC.out.1]; exact Tryd.infoCart) ?_
    exact ⟨by rw [HCF.out, HCC.out], setCells_below (by omega) _ _ _ _ hb2⟩
end Go.Proofs.YtpdbndkckioamaaDoor
