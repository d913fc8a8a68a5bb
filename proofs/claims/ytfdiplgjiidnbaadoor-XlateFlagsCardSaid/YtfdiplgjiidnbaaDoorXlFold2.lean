/-
  fold of package xlate with each of its steps, in plain words.
-/
import Derived.Test.YtfdiplgjiidnbaaDoorXlMic
set_option linter.unusedSimpArgs false
set_option linter.unusedVariables false
namespace Go.Proofs.YtfdiplgjiidnbaaDoor
open Go.RowKit Classical
set_option maxRecDepth 100000 in
set_option maxHeartbeats 4000000 in
theorem fold_most (b o cap base n : Nat) (ps : List Pc) (v x0 : Value) (w : World) (J : Nat → Value → World → Prop) (hps : ps.length = n) (hn : n ≤ 64) (R0 : w.ownsRow base 56 11 v n (flat b o cap ps)) (h0 : J 0 x0 w)
    (hk : ∀ i x W W', J i x W → Below W.heap.size W W' → J i x W')
    (hJ : ∀ i p x W, ps[i]? = some p → J i x W → Below w.heap.size w W → Calls Tryd.prog 26 #[x, .agg (p.cells b o cap)] W fun e w' => ∃ x', e = .returned x' ∧ J (i + 1) x' w' ∧ Below w.heap.size W w') :
    Calls Tryd.prog 24 #[v, x0, .func (Fn.func 26) #[] #[]] w fun e w' => ∃ x, e = .returned x ∧ J n x w' ∧ Below w.heap.size w w' := by
  obtain ⟨a, c, rfl, ha⟩ := orow_form R0
  have HR : Hid (w.ownsRow base 56 11 (.slice a n c) n (flat b o cap ps)) := R0
  have HJ : Hid (∀ i p x W, ps[i]? = some p → J i x W → Below w.heap.size w W → Calls Tryd.prog 26 #[x, .agg (p.cells b o cap)] W fun e w' => ∃ x', e = .returned x' ∧ J (i + 1) x' w' ∧ Below w.heap.size W w') := hJ
  have HK : Hid (∀ i x W W', J i x W → Below W.heap.size W W' → J i x W') := hk
  have HH : Hid (J 0 x0 w) := h0
  clear hJ hk h0 R0
  go_enter Tryd.func24, Tryd.ntmps24
  go_upto_region 2 with fail
  go_loopw [1, 11] (fun x i wr => ∃ m : Nat, m ≤ n ∧ i = .int .i64 (m : Nat) ∧ Hid (J m x wr) ∧ Below w.heap.size w wr) (fun _ i _ => n - (intOf i).toNat)
  case atStart => exact ⟨0, Nat.zero_le _, rfl, HH, Below.refl _ _⟩
  case round =>
    clear HH
    obtain ⟨m, hm, rfl, hj, hb1⟩ := hrel
    by_cases hlt : m < n
    · obtain ⟨g, rfl⟩ := ha (by omega)
      have hml : m < ps.length := by omega
      obtain ⟨p, hp⟩ : ∃ p, ps[m]? = some p := ⟨_, List.getElem?_eq_getElem hml⟩
      have HP : Hid (ps[m]? = some p) := hp
      obtain ⟨PC, hPC⟩ : ∃ PC, p.cells b o cap = PC := ⟨_, rfl⟩
      have HS : Hid (PC.size = 11 ∧ PC.all (·.oneCell') = true) := by
        unfold Hid; rw [← hPC]; exact ⟨rfl, by kernel_rfl⟩
      have hgw := orow_base HR.out
      have RG : Hid (wr.rangeAt g (m * 11) PC.toList) := fun t u hu => by
        have ht : t < 11 := by have := (List.getElem?_eq_some_iff.1 hu).1; rw [Array.length_toList, HS.out.1] at this; exact this
        rw [hb1.cell (p := ⟨g, m * 11 + t, none⟩) hgw.2.1, orow_cell HR.out (m * 11 + t) (by omega), flat_at hp t ht, hPC, ← Array.getElem?_toList]
        exact hu
      have HPC : Hid (p.cells b o cap = PC) := hPC
      clear hPC hp hml
      have hlti : (m : Int) < (n : Int) := by omega
      go_upto_region 3 with fail
      go_cut [8] (fun z wx => ∃ q, z = .pointer (some ⟨q, 0, none⟩) ∧ Blk wx q PC 56 ∧ Hid (J m u1 wx) ∧ Below w.heap.size w wx)
      case first =>
        have hB : Below wr.heap.size wr ((wr.alloc (.cells #[.int .i64 0, .int .i64 0, .int .i64 0, .int .i64 0, .int .i64 0, .int .i64 0, .int .u16 0, .slice none 0 0, .int .i64 0, .int .i64 0, .int .u8 0] 56)).setCells wr.heap.size 0 PC.toList) := setCells_below' (Nat.le_refl _) _ _ _ _ ((Below.refl _ _).alloc (Nat.le_refl _) _)
        have b8 : Blk ((wr.alloc (.cells #[.int .i64 0, .int .i64 0, .int .i64 0, .int .i64 0, .int .i64 0, .int .i64 0, .int .u16 0, .slice none 0 0, .int .i64 0, .int .i64 0, .int .u8 0] 56)).setCells wr.heap.size 0 PC.toList) wr.heap.size PC 56 := (Blk.new wr #[.int .i64 0, .int .i64 0, .int .i64 0, .int .i64 0, .int .i64 0, .int .i64 0, .int .u16 0, .slice none 0 0, .int .i64 0, .int .i64 0, .int .u8 0] 56).setAll (L := PC) HS.out.1
        have j8 : Hid (J m u1 ((wr.alloc (.cells #[.int .i64 0, .int .i64 0, .int .i64 0, .int .i64 0, .int .i64 0, .int .i64 0, .int .u16 0, .slice none 0 0, .int .i64 0, .int .i64 0, .int .u8 0] 56)).setCells wr.heap.size 0 PC.toList)) := HK.out _ _ _ _ hj.out hB
        have hb8 := hb1.trans (hB.mono hb1.size)
        go_wp2_with (first
          | (refine wpList_load_mid rfl 56 _ rfl g (m * 11) rfl PC.toList _ RG.out Tryd.underlying56 rfl (by rw [Array.length_toList, HS.out.1]; kernel_rfl) ?_; rw [Array.toArray_toList])
          | (refine wpList_store_mid rfl 56 _ _ rfl wr.heap.size 0 PC rfl rfl ((Blk.new wr #[.int .i64 0, .int .i64 0, .int .i64 0, .int .i64 0, .int .i64 0, .int .i64 0, .int .u16 0, .slice none 0 0, .int .i64 0, .int .i64 0, .int .u8 0] 56).there' 11 rfl |> fun h => by rw [HS.out.1]; exact h) (by rw [HS.out.1]; kernel_rfl) HS.out.2 ?_))
        go_meet
        exact ⟨_, rfl, b8, j8, hb8⟩
      case rest =>
      clear RG hj hb1
      obtain ⟨q, rfl, b8, hj, hb1⟩ := hcut
      generalize wc = W1 at *
      have ST : Hid (Calls _ _ _ _ _) := HJ.out m p u1 W1 HP.out hj.out hb1
      rw [HPC.out] at ST
      go_upto_region 4 with fail
      go_wp2_with (first
        | (refine wpList_load_mid rfl 56 _ rfl q 0 rfl PC.toList _ b8.range' Tryd.underlying56 rfl (by rw [Array.length_toList, HS.out.1]; kernel_rfl) ?_; rw [Array.toArray_toList])
        | (go_at_call 26; go_must (refine ST.out.mono ?_; rintro e W2 ⟨x', rfl, hj2, hb2⟩; have HJ2 : Hid (J (m + 1) x' W2) := hj2; clear hj2; have hb2' := hb1.trans hb2)))
      go_roundw
      case rel => exact ⟨m + 1, by omega, by go_num, HJ2, hb2'⟩
      case measure => simp [intOf]; omega
    · obtain rfl : m = n := by omega
      go_wp2
      go_ret
      exact ⟨_, rfl, hj.out, hb1⟩
set_option maxRecDepth 100000 in
set_option maxHeartbeats 4000000 in
theorem fold_bytes (b o cap base n : Nat) (ps : List Pc) (v x0 : Value) (w : World) (J : Nat → Value → World → Prop) (hps : ps.length = n) (hn : n ≤ 64) (R0 : w.ownsRow base 56 11 v n (flat b o cap ps)) (h0 : J 0 x0 w)
    (hk : ∀ i x W W', J i x W → Below W.heap.size W W' → J i x W')
    (hJ : ∀ i p x W, ps[i]? = some p → J i x W → Below w.heap.size w W → Calls Tryd.prog 21 #[x, .agg (p.cells b o cap)] W fun e w' => ∃ x', e = .returned x' ∧ J (i + 1) x' w' ∧ Below w.heap.size W w') :
    Calls Tryd.prog 20 #[v, x0, .func (Fn.func 21) #[] #[]] w fun e w' => ∃ x, e = .returned x ∧ J n x w' ∧ Below w.heap.size w w' := by
  obtain ⟨a, c, rfl, ha⟩ := orow_form R0
  have HR : Hid (w.ownsRow base 56 11 (.slice a n c) n (flat b o cap ps)) := R0
  have HJ : Hid (∀ i p x W, ps[i]? = some p → J i x W → Below w.heap.size w W → Calls Tryd.prog 21 #[x, .agg (p.cells b o cap)] W fun e w' => ∃ x', e = .returned x' ∧ J (i + 1) x' w' ∧ Below w.heap.size W w') := hJ
  have HK : Hid (∀ i x W W', J i x W → Below W.heap.size W W' → J i x W') := hk
  have HH : Hid (J 0 x0 w) := h0
  clear hJ hk h0 R0
  go_enter Tryd.func20, Tryd.ntmps20
  go_upto_region 2 with fail
  go_loopw [1, 11] (fun x i wr => ∃ m : Nat, m ≤ n ∧ i = .int .i64 (m : Nat) ∧ Hid (J m x wr) ∧ Below w.heap.size w wr) (fun _ i _ => n - (intOf i).toNat)
  case atStart => exact ⟨0, Nat.zero_le _, rfl, HH, Below.refl _ _⟩
  case round =>
    clear HH
    obtain ⟨m, hm, rfl, hj, hb1⟩ := hrel
    by_cases hlt : m < n
    · obtain ⟨g, rfl⟩ := ha (by omega)
      have hml : m < ps.length := by omega
      obtain ⟨p, hp⟩ : ∃ p, ps[m]? = some p := ⟨_, List.getElem?_eq_getElem hml⟩
      have HP : Hid (ps[m]? = some p) := hp
      obtain ⟨PC, hPC⟩ : ∃ PC, p.cells b o cap = PC := ⟨_, rfl⟩
      have HS : Hid (PC.size = 11 ∧ PC.all (·.oneCell') = true) := by
        unfold Hid; rw [← hPC]; exact ⟨rfl, by kernel_rfl⟩
      have hgw := orow_base HR.out
      have RG : Hid (wr.rangeAt g (m * 11) PC.toList) := fun t u hu => by
        have ht : t < 11 := by have := (List.getElem?_eq_some_iff.1 hu).1; rw [Array.length_toList, HS.out.1] at this; exact this
        rw [hb1.cell (p := ⟨g, m * 11 + t, none⟩) hgw.2.1, orow_cell HR.out (m * 11 + t) (by omega), flat_at hp t ht, hPC, ← Array.getElem?_toList]
        exact hu
      have HPC : Hid (p.cells b o cap = PC) := hPC
      clear hPC hp hml
      have hlti : (m : Int) < (n : Int) := by omega
      go_upto_region 3 with fail
      go_cut [8] (fun z wx => ∃ q, z = .pointer (some ⟨q, 0, none⟩) ∧ Blk wx q PC 56 ∧ Hid (J m u1 wx) ∧ Below w.heap.size w wx)
      case first =>
        have hB : Below wr.heap.size wr ((wr.alloc (.cells #[.int .i64 0, .int .i64 0, .int .i64 0, .int .i64 0, .int .i64 0, .int .i64 0, .int .u16 0, .slice none 0 0, .int .i64 0, .int .i64 0, .int .u8 0] 56)).setCells wr.heap.size 0 PC.toList) := setCells_below' (Nat.le_refl _) _ _ _ _ ((Below.refl _ _).alloc (Nat.le_refl _) _)
        have b8 : Blk ((wr.alloc (.cells #[.int .i64 0, .int .i64 0, .int .i64 0, .int .i64 0, .int .i64 0, .int .i64 0, .int .u16 0, .slice none 0 0, .int .i64 0, .int .i64 0, .int .u8 0] 56)).setCells wr.heap.size 0 PC.toList) wr.heap.size PC 56 := (Blk.new wr #[.int .i64 0, .int .i64 0, .int .i64 0, .int .i64 0, .int .i64 0, .int .i64 0, .int .u16 0, .slice none 0 0, .int .i64 0, .int .i64 0, .int .u8 0] 56).setAll (L := PC) HS.out.1
        have j8 : Hid (J m u1 ((wr.alloc (.cells #[.int .i64 0, .int .i64 0, .int .i64 0, .int .i64 0, .int .i64 0, .int .i64 0, .int .u16 0, .slice none 0 0, .int .i64 0, .int .i64 0, .int .u8 0] 56)).setCells wr.heap.size 0 PC.toList)) := HK.out _ _ _ _ hj.out hB
        have hb8 := hb1.trans (hB.mono hb1.size)
        go_wp2_with (first
          | (refine wpList_load_mid rfl 56 _ rfl g (m * 11) rfl PC.toList _ RG.out Tryd.underlying56 rfl (by rw [Array.length_toList, HS.out.1]; kernel_rfl) ?_; rw [Array.toArray_toList])
          | (refine wpList_store_mid rfl 56 _ _ rfl wr.heap.size 0 PC rfl rfl ((Blk.new wr #[.int .i64 0, .int .i64 0, .int .i64 0, .int .i64 0, .int .i64 0, .int .i64 0, .int .u16 0, .slice none 0 0, .int .i64 0, .int .i64 0, .int .u8 0] 56).there' 11 rfl |> fun h => by rw [HS.out.1]; exact h) (by rw [HS.out.1]; kernel_rfl) HS.out.2 ?_))
        go_meet
        exact ⟨_, rfl, b8, j8, hb8⟩
      case rest =>
      clear RG hj hb1
      obtain ⟨q, rfl, b8, hj, hb1⟩ := hcut
      generalize wc = W1 at *
      have ST : Hid (Calls _ _ _ _ _) := HJ.out m p u1 W1 HP.out hj.out hb1
      rw [HPC.out] at ST
      go_upto_region 4 with fail
      go_wp2_with (first
        | (refine wpList_load_mid rfl 56 _ rfl q 0 rfl PC.toList _ b8.range' Tryd.underlying56 rfl (by rw [Array.length_toList, HS.out.1]; kernel_rfl) ?_; rw [Array.toArray_toList])
        | (go_at_call 21; go_must (refine ST.out.mono ?_; rintro e W2 ⟨x', rfl, hj2, hb2⟩; have HJ2 : Hid (J (m + 1) x' W2) := hj2; clear hj2; have hb2' := hb1.trans hb2)))
      go_roundw
      case rel => exact ⟨m + 1, by omega, by go_num, HJ2, hb2'⟩
      case measure => simp [intOf]; omega
    · obtain rfl : m = n := by omega
      go_wp2
      go_ret
      exact ⟨_, rfl, hj.out, hb1⟩
set_option maxRecDepth 100000 in
set_option maxHeartbeats 4000000 in
theorem fold_micros (b o cap base n : Nat) (ps : List Pc) (v x0 : Value) (w : World) (J : Nat → Value → World → Prop) (hps : ps.length = n) (hn : n ≤ 64) (R0 : w.ownsRow base 56 11 v n (flat b o cap ps)) (h0 : J 0 x0 w)
    (hk : ∀ i x W W', J i x W → Below W.heap.size W W' → J i x W')
    (hJ : ∀ i p x W, ps[i]? = some p → J i x W → Below w.heap.size w W → Calls Tryd.prog 23 #[x, .agg (p.cells b o cap)] W fun e w' => ∃ x', e = .returned x' ∧ J (i + 1) x' w' ∧ Below w.heap.size W w') :
    Calls Tryd.prog 22 #[v, x0, .func (Fn.func 23) #[] #[]] w fun e w' => ∃ x, e = .returned x ∧ J n x w' ∧ Below w.heap.size w w' := by
  obtain ⟨a, c, rfl, ha⟩ := orow_form R0
  have HR : Hid (w.ownsRow base 56 11 (.slice a n c) n (flat b o cap ps)) := R0
  have HJ : Hid (∀ i p x W, ps[i]? = some p → J i x W → Below w.heap.size w W → Calls Tryd.prog 23 #[x, .agg (p.cells b o cap)] W fun e w' => ∃ x', e = .returned x' ∧ J (i + 1) x' w' ∧ Below w.heap.size W w') := hJ
  have HK : Hid (∀ i x W W', J i x W → Below W.heap.size W W' → J i x W') := hk
  have HH : Hid (J 0 x0 w) := h0
  clear hJ hk h0 R0
  go_enter Tryd.func22, Tryd.ntmps22
  go_upto_region 2 with fail
  go_loopw [1, 11] (fun x i wr => ∃ m : Nat, m ≤ n ∧ i = .int .i64 (m : Nat) ∧ Hid (J m x wr) ∧ Below w.heap.size w wr) (fun _ i _ => n - (intOf i).toNat)
  case atStart => exact ⟨0, Nat.zero_le _, rfl, HH, Below.refl _ _⟩
  case round =>
    clear HH
    obtain ⟨m, hm, rfl, hj, hb1⟩ := hrel
    by_cases hlt : m < n
    · obtain ⟨g, rfl⟩ := ha (by omega)
      have hml : m < ps.length := by omega
      obtain ⟨p, hp⟩ : ∃ p, ps[m]? = some p := ⟨_, List.getElem?_eq_getElem hml⟩
      have HP : Hid (ps[m]? = some p) := hp
      obtain ⟨PC, hPC⟩ : ∃ PC, p.cells b o cap = PC := ⟨_, rfl⟩
      have HS : Hid (PC.size = 11 ∧ PC.all (·.oneCell') = true) := by
        unfold Hid; rw [← hPC]; exact ⟨rfl, by kernel_rfl⟩
      have hgw := orow_base HR.out
      have RG : Hid (wr.rangeAt g (m * 11) PC.toList) := fun t u hu => by
        have ht : t < 11 := by have := (List.getElem?_eq_some_iff.1 hu).1; rw [Array.length_toList, HS.out.1] at this; exact this
        rw [hb1.cell (p := ⟨g, m * 11 + t, none⟩) hgw.2.1, orow_cell HR.out (m * 11 + t) (by omega), flat_at hp t ht, hPC, ← Array.getElem?_toList]
        exact hu
      have HPC : Hid (p.cells b o cap = PC) := hPC
      clear hPC hp hml
      have hlti : (m : Int) < (n : Int) := by omega
      go_upto_region 3 with fail
      go_cut [8] (fun z wx => ∃ q, z = .pointer (some ⟨q, 0, none⟩) ∧ Blk wx q PC 56 ∧ Hid (J m u1 wx) ∧ Below w.heap.size w wx)
      case first =>
        have hB : Below wr.heap.size wr ((wr.alloc (.cells #[.int .i64 0, .int .i64 0, .int .i64 0, .int .i64 0, .int .i64 0, .int .i64 0, .int .u16 0, .slice none 0 0, .int .i64 0, .int .i64 0, .int .u8 0] 56)).setCells wr.heap.size 0 PC.toList) := setCells_below' (Nat.le_refl _) _ _ _ _ ((Below.refl _ _).alloc (Nat.le_refl _) _)
        have b8 : Blk ((wr.alloc (.cells #[.int .i64 0, .int .i64 0, .int .i64 0, .int .i64 0, .int .i64 0, .int .i64 0, .int .u16 0, .slice none 0 0, .int .i64 0, .int .i64 0, .int .u8 0] 56)).setCells wr.heap.size 0 PC.toList) wr.heap.size PC 56 := (Blk.new wr #[.int .i64 0, .int .i64 0, .int .i64 0, .int .i64 0, .int .i64 0, .int .i64 0, .int .u16 0, .slice none 0 0, .int .i64 0, .int .i64 0, .int .u8 0] 56).setAll (L := PC) HS.out.1
        have j8 : Hid (J m u1 ((wr.alloc (.cells #[.int .i64 0, .int .i64 0, .int .i64 0, .int .i64 0, .int .i64 0, .int .i64 0, .int .u16 0, .slice none 0 0, .int .i64 0, .int .i64 0, .int .u8 0] 56)).setCells wr.heap.size 0 PC.toList)) := HK.out _ _ _ _ hj.out hB
        have hb8 := hb1.trans (hB.mono hb1.size)
        go_wp2_with (first
          | (refine wpList_load_mid rfl 56 _ rfl g (m * 11) rfl PC.toList _ RG.out Tryd.underlying56 rfl (by rw [Array.length_toList, HS.out.1]; kernel_rfl) ?_; rw [Array.toArray_toList])
          | (refine wpList_store_mid rfl 56 _ _ rfl wr.heap.size 0 PC rfl rfl ((Blk.new wr #[.int .i64 0, .int .i64 0, .int .i64 0, .int .i64 0, .int .i64 0, .int .i64 0, .int .u16 0, .slice none 0 0, .int .i64 0, .int .i64 0, .int .u8 0] 56).there' 11 rfl |> fun h => by rw [HS.out.1]; exact h) (by rw [HS.out.1]; kernel_rfl) HS.out.2 ?_))
        go_meet
        exact ⟨_, rfl, b8, j8, hb8⟩
      case rest =>
      clear RG hj hb1
      obtain ⟨q, rfl, b8, hj, hb1⟩ := hcut
      generalize wc = W1 at *
      have ST : Hid (Calls _ _ _ _ _) := HJ.out m p u1 W1 HP.out hj.out hb1
      rw [HPC.out] at ST
      go_upto_region 4 with fail
      go_wp2_with (first
        | (refine wpList_load_mid rfl 56 _ rfl q 0 rfl PC.toList _ b8.range' Tryd.underlying56 rfl (by rw [Array.length_toList, HS.out.1]; kernel_rfl) ?_; rw [Array.toArray_toList])
        | (go_at_call 23; go_must (refine ST.out.mono ?_; rintro e W2 ⟨x', rfl, hj2, hb2⟩; have HJ2 : Hid (J (m + 1) x' W2) := hj2; clear hj2; have hb2' := hb1.trans hb2)))
      go_roundw
      case rel => exact ⟨m + 1, by omega, by go_num, HJ2, hb2'⟩
      case measure => simp [intOf]; omega
    · obtain rfl : m = n := by omega
      go_wp2
      go_ret
      exact ⟨_, rfl, hj.out, hb1⟩
theorem take_snoc {ps : List Pc} {i : Nat} {p : Pc} (h : ps[i]? = some p) : ps.take (i + 1) = ps.take i ++ [p] := by
  obtain ⟨hi, rfl⟩ := List.getElem?_eq_some_iff.1 h
  rw [← List.take_concat_get hi, List.concat_eq_append]
/-- The bytes of a block, its micro-ops, its cycles. -/
def bts (L : List Nat) (ps : List Pc) : List Nat := ps.flatMap (·.bytes L)
def mcs (L : List Nat) (ps : List Pc) : List Mic := ps.flatMap (·.mics L)
def lst : List Pc → Nat
  | [] => 0
  | p :: ps => cyN p.k + lst ps
def mst (L : List Nat) : List Pc → Int
  | [] => 0
  | p :: ps => ((cyN p.k : Nat) : Int) + p.pen L + mst L ps
theorem bts_snoc (L : List Nat) (ps : List Pc) (p : Pc) : bts L (ps ++ [p]) = bts L ps ++ p.bytes L := by simp [bts]
theorem mcs_snoc (L : List Nat) (ps : List Pc) (p : Pc) : mcs L (ps ++ [p]) = mcs L ps ++ p.mics L := by simp [mcs]
theorem lst_snoc : ∀ (ps : List Pc) (p : Pc), lst (ps ++ [p]) = lst ps + cyN p.k
  | [], p => by simp [lst]
  | q :: ps, p => by rw [List.cons_append, lst, lst, lst_snoc ps p]; omega
theorem mst_snoc (L : List Nat) : ∀ (ps : List Pc) (p : Pc), mst L (ps ++ [p]) = mst L ps + ((cyN p.k : Nat) : Int) + p.pen L
  | [], p => by simp [mst]
  | q :: ps, p => by rw [List.cons_append, mst, mst, mst_snoc L ps p]; omega
theorem bts_len {L : List Nat} : ∀ ps : List Pc, (∀ p ∈ ps, Pok L p) → (bts L ps).length ≤ ps.length * 3
  | [], _ => by simp [bts]
  | p :: ps, h => by
    have e : bts L (p :: ps) = p.bytes L ++ bts L ps := by simp [bts]
    have h1 := bts_len ps (fun q hq => h q (List.mem_cons_of_mem _ hq))
    have h2 := (h p (List.mem_cons_self ..)).blen
    have h3 := (ln_bd _ (h p (List.mem_cons_self ..)).k8).2
    rw [e, List.length_append, List.length_cons]; omega
theorem mics_len (L : List Nat) (p : Pc) : (p.mics L).length ≤ 4 := by
  unfold Pc.mics Pc.kinds
  rw [List.length_map]
  exact (List.takeWhile_prefix (· ≠ 0)).length_le
theorem mcs_len (L : List Nat) : ∀ ps : List Pc, (mcs L ps).length ≤ ps.length * 4
  | [] => by simp [mcs]
  | p :: ps => by
    have e : mcs L (p :: ps) = p.mics L ++ mcs L ps := by simp [mcs]
    have h1 := mcs_len L ps
    have h2 := mics_len L p
    rw [e, List.length_append, List.length_cons]; omega
theorem lst_bd {L : List Nat} : ∀ ps : List Pc, (∀ p ∈ ps, Pok L p) → lst ps ≤ ps.length * 8
  | [], _ => by simp [lst]
  | p :: ps, h => by
    have h1 := lst_bd ps (fun q hq => h q (List.mem_cons_of_mem _ hq))
    have h2 := (cy_bd _ (h p (List.mem_cons_self ..)).k8).2
    rw [lst, List.length_cons]; omega
theorem mst_bd {L : List Nat} : ∀ ps : List Pc, (∀ p ∈ ps, Pok L p) → 0 ≤ mst L ps ∧ mst L ps ≤ ((ps.length * 10 : Nat) : Int)
  | [], _ => by simp [mst]
  | p :: ps, h => by
    have h1 := mst_bd ps (fun q hq => h q (List.mem_cons_of_mem _ hq))
    have h2 := (cy_bd _ (h p (List.mem_cons_self ..)).k8).2
    have h3 := pen_bd L p
    rw [mst, List.length_cons]; omega
theorem mem_take_of {ps : List Pc} {L : List Nat} (h : ∀ p ∈ ps, Pok L p) (i : Nat) : ∀ p ∈ ps.take i, Pok L p := fun p hp => h p (List.mem_of_mem_take hp)
theorem mem_of_at {ps : List Pc} {i : Nat} {p : Pc} (h : ps[i]? = some p) : p ∈ ps := List.mem_of_getElem? h
theorem fleast_any (L : List Nat) (b o cap base n : Nat) (ps : List Pc) (v : Value) (w : World) (hps : ps.length = n) (hn : n ≤ 64) (hok : ∀ p ∈ ps, Pok L p) (R0 : w.ownsRow base 56 11 v n (flat b o cap ps)) :
    Calls Tryd.prog 24 #[v, .int .i64 0, .func (Fn.func 25) #[] #[]] w fun e w' => e = .returned (.int .i64 ((lst ps : Nat) : Int)) ∧ Below w.heap.size w w' := by
  refine (fold_least b o cap base n ps v (.int .i64 0) w (fun i x _ => x = .int .i64 ((lst (ps.take i) : Nat) : Int)) hps hn R0 rfl (fun _ _ _ _ h _ => h) ?_).mono ?_
  · intro i p x W hp hx hb
    have hbd := lst_bd (ps.take i) (mem_take_of hok i)
    have hl : (ps.take i).length ≤ 64 := by rw [List.length_take]; omega
    rw [hx]
    refine (wleast_any L b o cap p (lst (ps.take i)) W (hok p (mem_of_at hp)) (by omega)).mono ?_
    rintro e w' ⟨rfl, h⟩
    exact ⟨_, rfl, by rw [take_snoc hp, lst_snoc], h.mono hb.size⟩
  · rintro e w' ⟨x, rfl, hx, hb⟩
    rw [hx, List.take_of_length_le (by omega)]
    exact ⟨rfl, hb⟩
theorem fmost_any (L : List Nat) (b o cap base n : Nat) (ps : List Pc) (v : Value) (w : World) (hps : ps.length = n) (hn : n ≤ 64) (hok : ∀ p ∈ ps, Pok L p) (hB : Byts L) (hC : Code w b o L) (R0 : w.ownsRow base 56 11 v n (flat b o cap ps)) :
    Calls Tryd.prog 24 #[v, .int .i64 0, .func (Fn.func 26) #[] #[]] w fun e w' => e = .returned (.int .i64 (mst L ps)) ∧ Below w.heap.size w w' := by
  refine (fold_most b o cap base n ps v (.int .i64 0) w (fun i x _ => x = .int .i64 (mst L (ps.take i))) hps hn R0 rfl (fun _ _ _ _ h _ => h) ?_).mono ?_
  · intro i p x W hp hx hb
    have hbd := mst_bd (ps.take i) (mem_take_of hok i)
    have hl : (ps.take i).length ≤ 64 := by rw [List.length_take]; omega
    rw [hx]
    refine (wmost_any L b o cap p (mst L (ps.take i)) W (hok p (mem_of_at hp)) hB (hC.at hb) hbd.1 (by omega)).mono ?_
    rintro e w' ⟨rfl, h⟩
    exact ⟨_, rfl, by rw [take_snoc hp, mst_snoc], h.mono hb.size⟩
  · rintro e w' ⟨x, rfl, hx, hb⟩
    rw [hx, List.take_of_length_le (by omega)]
    exact ⟨rfl, hb⟩
theorem fbytes_any (L : List Nat) (b o cap base n : Nat) (ps : List Pc) (v : Value) (w : World) (hps : ps.length = n) (hn : n ≤ 64) (hok : ∀ p ∈ ps, Pok L p) (hC : Code w b o L) (R0 : w.ownsRow base 56 11 v n (flat b o cap ps)) :
    Calls Tryd.prog 20 #[v, .slice none 0 0, .func (Fn.func 21) #[] #[]] w fun e w' => ∃ x, e = .returned x ∧ w'.ownsRow w.heap.size 5 1 x (bts L ps).length (vals (bts L ps)) ∧ Below w.heap.size w w' := by
  refine (fold_bytes b o cap base n ps v (.slice none 0 0) w (fun i x W => W.ownsRow w.heap.size 5 1 x (bts L (ps.take i)).length (vals (bts L (ps.take i)))) hps hn R0 (World.ownsRow_nil _ _ _ _) (fun _ _ _ _ h hb => orow_keep h hb) ?_).mono ?_
  · intro i p x W hp hx hb
    have hbd := bts_len (ps.take i) (mem_take_of hok i)
    have hl : (ps.take i).length ≤ 64 := by rw [List.length_take]; omega
    refine (wbytes_any L b o cap w.heap.size p (bts L (ps.take i)) x W (hok p (mem_of_at hp)) (by omega) (hC.at hb) hb.size hx).mono ?_
    rintro e w' ⟨v', rfl, h1, h2⟩
    exact ⟨v', rfl, by rw [take_snoc hp, bts_snoc]; exact h1, h2⟩
  · rintro e w' ⟨x, rfl, hx, hb⟩
    rw [List.take_of_length_le (by omega)] at hx
    exact ⟨x, rfl, hx, hb⟩
theorem fmicros_any (L : List Nat) (b o cap base n : Nat) (ps : List Pc) (v : Value) (w : World) (hps : ps.length = n) (hn : n ≤ 64) (hok : ∀ p ∈ ps, Pok L p) (hB : Byts L) (hC : Code w b o L) (hR : Rtab w) (R0 : w.ownsRow base 56 11 v n (flat b o cap ps)) :
    Calls Tryd.prog 22 #[v, .slice none 0 0, .func (Fn.func 23) #[] #[]] w fun e w' => ∃ x, e = .returned x ∧ w'.ownsRow w.heap.size 35 7 x (mcs L ps).length (mflat (mcs L ps)) ∧ Below w.heap.size w w' := by
  refine (fold_micros b o cap base n ps v (.slice none 0 0) w (fun i x W => W.ownsRow w.heap.size 35 7 x (mcs L (ps.take i)).length (mflat (mcs L (ps.take i)))) hps hn R0 (World.ownsRow_nil _ _ _ _) (fun _ _ _ _ h hb => orow_keep h hb) ?_).mono ?_
  · intro i p x W hp hx hb
    have hbd := mcs_len L (ps.take i)
    have hl : (ps.take i).length ≤ 64 := by rw [List.length_take]; omega
    have hpk := hok p (mem_of_at hp)
    have hbw : b < w.heap.size := cell_lt (hC 0 (by have := hpk.len; omega))
    refine (wmicros_any L b o cap w.heap.size p (mcs L (ps.take i)) x W hpk (by omega) hB (hC.at hb) hbw (hR.on hb) hb.size hx).mono ?_
    rintro e w' ⟨v', rfl, h1, h2⟩
    exact ⟨v', rfl, by rw [take_snoc hp, mcs_snoc]; exact h1, h2⟩
  · rintro e w' ⟨x, rfl, hx, hb⟩
    rw [List.take_of_length_le (by omega)] at hx
    exact ⟨x, rfl, hx, hb⟩
end Go.Proofs.YtfdiplgjiidnbaaDoor
