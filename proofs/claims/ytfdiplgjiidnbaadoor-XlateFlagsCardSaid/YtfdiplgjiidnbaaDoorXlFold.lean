/-
  fold of package xlate with each of its steps.
-/
import Derived.Test.YtfdiplgjiidnbaaDoorXlLive
set_option linter.unusedSimpArgs false
set_option linter.unusedVariables false
namespace Go.Proofs.YtfdiplgjiidnbaaDoor
open Go.RowKit Classical
theorem orow_form {w : World} {base s n : Nat} {T : TypeId} {v : Value} {cells : List Value} (h : w.ownsRow base T s v n cells) : ∃ a c, v = .slice a n c ∧ (0 < n → ∃ g, a = some ⟨g, 0, none⟩) := by
  rcases h.2 with ⟨e, h0⟩ | ⟨g', cap', cur, e, _⟩
  · subst h0; exact ⟨none, 0, e, fun h => absurd h (by omega)⟩
  · exact ⟨_, _, e, fun _ => ⟨_, rfl⟩⟩
set_option maxRecDepth 100000 in
set_option maxHeartbeats 4000000 in
theorem fold_least (b o cap base n : Nat) (ps : List Pc) (v x0 : Value) (w : World) (J : Nat → Value → World → Prop) (hps : ps.length = n) (hn : n ≤ 64) (R0 : w.ownsRow base 56 11 v n (flat b o cap ps)) (h0 : J 0 x0 w)
    (hk : ∀ i x W W', J i x W → Below W.heap.size W W' → J i x W')
    (hJ : ∀ i p x W, ps[i]? = some p → J i x W → Below w.heap.size w W → Calls Tryd.prog 25 #[x, .agg (p.cells b o cap)] W fun e w' => ∃ x', e = .returned x' ∧ J (i + 1) x' w' ∧ Below w.heap.size W w') :
    Calls Tryd.prog 24 #[v, x0, .func (Fn.func 25) #[] #[]] w fun e w' => ∃ x, e = .returned x ∧ J n x w' ∧ Below w.heap.size w w' := by
  obtain ⟨a, c, rfl, ha⟩ := orow_form R0
  have HR : Hid (w.ownsRow base 56 11 (.slice a n c) n (flat b o cap ps)) := R0
  have HJ : Hid (∀ i p x W, ps[i]? = some p → J i x W → Below w.heap.size w W → Calls Tryd.prog 25 #[x, .agg (p.cells b o cap)] W fun e w' => ∃ x', e = .returned x' ∧ J (i + 1) x' w' ∧ Below w.heap.size W w') := hJ
  have HK : Hid (∀ i x W W', J i x W → Below W.heap.size W W' → J i x W') := hk
  have HH : Hid (J 0 x0 w) := h0
  clear hJ hk h0 R0
  go_enter Tryd.func24, Tryd.ntmps24
  go_upto_region 2 with fail
  go_loopw [1, 11] (fun x i wr => ∃ m : Nat, m ≤ n ∧ i = .int .i64 (m : Nat) ∧ Hid (J m x wr) ∧ Below w.heap.size w wr) (fun _ i _ => n - (intOf i).toNat)
  case atStart => exact ⟨0, Nat.zero_le _, rfl, HH, Below.refl _ _⟩
  case round =>
    clear HH
    obtain ⟨m, hm, rfl, hj, hb1⟩ := hrel
    by_cases hlt : m < n
    · obtain ⟨g, rfl⟩ := ha (by omega)
      have hml : m < ps.length := by omega
      obtain ⟨p, hp⟩ : ∃ p, ps[m]? = some p := ⟨_, List.getElem?_eq_getElem hml⟩
      have HP : Hid (ps[m]? = some p) := hp
      obtain ⟨PC, hPC⟩ : ∃ PC, p.cells b o cap = PC := ⟨_, rfl⟩
      have HS : Hid (PC.size = 11 ∧ PC.all (·.oneCell') = true) := by
        unfold Hid; rw [← hPC]; exact ⟨rfl, by kernel_rfl⟩
      have hgw := orow_base HR.out
      have RG : Hid (wr.rangeAt g (m * 11) PC.toList) := fun t u hu => by
        have ht : t < 11 := by have := (List.getElem?_eq_some_iff.1 hu).1; rw [Array.length_toList, HS.out.1] at this; exact this
        rw [hb1.cell (p := ⟨g, m * 11 + t, none⟩) hgw.2.1, orow_cell HR.out (m * 11 + t) (by omega), flat_at hp t ht, hPC, ← Array.getElem?_toList]
        exact hu
      have HPC : Hid (p.cells b o cap = PC) := hPC
      clear hPC hp hml
      have hlti : (m : Int) < (n : Int) := by omega
      go_upto_region 3 with fail
      go_cut [8] (fun z wx => ∃ q, z = .pointer (some ⟨q, 0, none⟩) ∧ Blk wx q PC 56 ∧ Hid (J m u1 wx) ∧ Below w.heap.size w wx)
      case first =>
        have hB : Below wr.heap.size wr ((wr.alloc (.cells #[.int .i64 0, .int .i64 0, .int .i64 0, .int .i64 0, .int .i64 0, .int .i64 0, .int .u16 0, .slice none 0 0, .int .i64 0, .int .i64 0, .int .u8 0] 56)).setCells wr.heap.size 0 PC.toList) := setCells_below' (Nat.le_refl _) _ _ _ _ ((Below.refl _ _).alloc (Nat.le_refl _) _)
        have b8 : Blk ((wr.alloc (.cells #[.int .i64 0, .int .i64 0, .int .i64 0, .int .i64 0, .int .i64 0, .int .i64 0, .int .u16 0, .slice none 0 0, .int .i64 0, .int .i64 0, .int .u8 0] 56)).setCells wr.heap.size 0 PC.toList) wr.heap.size PC 56 := (Blk.new wr #[.int .i64 0, .int .i64 0, .int .i64 0, .int .i64 0, .int .i64 0, .int .i64 0, .int .u16 0, .slice none 0 0, .int .i64 0, .int .i64 0, .int .u8 0] 56).setAll (L := PC) HS.out.1
        have j8 : Hid (J m u1 ((wr.alloc (.cells #[.int .i64 0, .int .i64 0, .int .i64 0, .int .i64 0, .int .i64 0, .int .i64 0, .int .u16 0, .slice none 0 0, .int .i64 0, .int .i64 0, .int .u8 0] 56)).setCells wr.heap.size 0 PC.toList)) := HK.out _ _ _ _ hj.out hB
        have hb8 := hb1.trans (hB.mono hb1.size)
        go_wp2_with (first
          | (refine wpList_load_mid rfl 56 _ rfl g (m * 11) rfl PC.toList _ RG.out Tryd.underlying56 rfl (by rw [Array.length_toList, HS.out.1]; kernel_rfl) ?_; rw [Array.toArray_toList])
          | (refine wpList_store_mid rfl 56 _ _ rfl wr.heap.size 0 PC rfl rfl ((Blk.new wr #[.int .i64 0, .int .i64 0, .int .i64 0, .int .i64 0, .int .i64 0, .int .i64 0, .int .u16 0, .slice none 0 0, .int .i64 0, .int .i64 0, .int .u8 0] 56).there' 11 rfl |> fun h => by rw [HS.out.1]; exact h) (by rw [HS.out.1]; kernel_rfl) HS.out.2 ?_))
        go_meet
        exact ⟨_, rfl, b8, j8, hb8⟩
      case rest =>
      clear RG hj hb1
      obtain ⟨q, rfl, b8, hj, hb1⟩ := hcut
      generalize wc = W1 at *
      have ST : Hid (Calls _ _ _ _ _) := HJ.out m p u1 W1 HP.out hj.out hb1
      rw [HPC.out] at ST
      go_upto_region 4 with fail
      go_wp2_with (first
        | (refine wpList_load_mid rfl 56 _ rfl q 0 rfl PC.toList _ b8.range' Tryd.underlying56 rfl (by rw [Array.length_toList, HS.out.1]; kernel_rfl) ?_; rw [Array.toArray_toList])
        | (go_at_call 25; go_must (refine ST.out.mono ?_; rintro e W2 ⟨x', rfl, hj2, hb2⟩; have HJ2 : Hid (J (m + 1) x' W2) := hj2; clear hj2; have hb2' := hb1.trans hb2)))
      go_roundw
      case rel => exact ⟨m + 1, by omega, by go_num, HJ2, hb2'⟩
      case measure => simp [intOf]; omega
    · obtain rfl : m = n := by omega
      go_wp2
      go_ret
      exact ⟨_, rfl, hj.out, hb1⟩
end Go.Proofs.YtfdiplgjiidnbaaDoor
