/-
  turn: a push or a Back, on a tape and on a list.
-/
import Derived.Test.YtlckjbangdnejaaDoorXtHand
set_option linter.unusedSimpArgs false
set_option linter.unusedVariables false
namespace Go.Proofs.YtlckjbangdnejaaDoor
open Go.RowKit Classical
/-- What turn leaves. -/
def TnOk (FP : Nat → Prop) (t K : Nat) (E : Nat → Option Addr) (C : Nat → Nat) (L : Nat → List Nat) (v : Value) (ks : List Nat) (w : World) (e : Ending) (w' : World) : Prop :=
  ∃ v' FQ, e = .returned v' ∧ Rl w' E C L v' ks ∧ Tp FQ t K ((ks.map L).reverse) w' ∧ Kp FP w w' ∧ (∀ k, FQ k → (FP k ∨ w.heap.size ≤ k) ∧ k < w'.heap.size) ∧ (∀ k, v'.ownBlock = some k → (v.ownBlock = some k ∨ w.heap.size ≤ k) ∧ k < w'.heap.size ∧ ¬ FQ k)
set_option maxRecDepth 100000 in
set_option maxHeartbeats 3200000 in
theorem turn_take (FP : Nat → Prop) (t K : Nat) (E : Nat → Option Addr) (C : Nat → Nat) (L : Nat → List Nat) (v : Value) (ks : List Nat) (z nn : Int) (d : Value) (w : World) (hz : z.tmod 3 = 0) (hT : Tp FP t K ((ks.map L).reverse) w) (hR : Rl w E C L v ks) (hF : ∀ k, FP k → k < w.heap.size) (hv : ∀ k, v.ownBlock = some k → k < w.heap.size ∧ ¬ FP k) (hd : d.oneCell' = true) (lim : Int) (hl : ks.length ≤ 100) :
    Calls Tryd.prog 16 #[.pointer (some ⟨t, 0, none⟩), v, .int .i64 lim, .agg #[.int .i64 z, .int .i64 nn, d]] w (TnOk FP t K E C L v ks.dropLast w) := by
  have HF : Hid (∀ k, FP k → k < w.heap.size) := hF
  have HV : Hid (∀ k, v.ownBlock = some k → k < w.heap.size ∧ ¬ FP k) := hv
  have HB1 : Hid (Below w.heap.size w (w.alloc (.cells #[.int .i64 z, .int .i64 nn, d] 38))) := (Below.refl _ _).alloc (Nat.le_refl _) _
  have HT1 : Hid (Tp FP t K ((ks.map L).reverse) (w.alloc (.cells #[.int .i64 z, .int .i64 nn, d] 38))) := hT.below hF HB1.out
  have HR1 : Hid (Rl w E C L v ks) := hR
  clear hF hv hT hR
  go_enter Tryd.func16, Tryd.ntmps16
  by_cases h0 : ks.length = 0
  · obtain rfl : ks = [] := List.eq_nil_of_length_eq_zero h0
    obtain ⟨a, c, rfl, hc, hx⟩ := HR1.out
    have HT2 : Hid (Tp FP t K [] (w.alloc (.cells #[.int .i64 z, .int .i64 nn, d] 38))) := HT1
    clear h0 HT1 hx hc
    go_wp2_with fail
    refine (back_empty FP t K _ HT2.out).mono ?_
    rintro e w2 ⟨rfl, rfl⟩
    go_wp2
    go_ret
    refine ⟨_, FP, rfl, ⟨a, c, rfl, Nat.zero_le _, fun i hi => absurd hi (by simp)⟩, HT2.out, Kp.of_below HB1.out, fun k hk => ⟨.inl hk, Nat.lt_of_lt_of_le (HF.out k hk) HB1.out.size⟩, fun k hk => ⟨.inl hk, Nat.lt_of_lt_of_le (HV.out k hk).1 HB1.out.size, (HV.out k hk).2⟩⟩
  · obtain ⟨g, o, c, hve, hc, -⟩ := HR1.out.opened (by omega)
    obtain ⟨n, hn⟩ : ∃ n, n = ks.length := ⟨_, rfl⟩
    rw [← hn] at hve hc h0 hl
    have HR2 : Hid (Rl w E C L (.slice (some ⟨g, o, none⟩) n c) ks) := by rw [← hve]; exact HR1.out
    subst hve
    have HN : Hid (n = ks.length) := hn
    have HT2 : Hid (Tp FP t K (L (ks.getD (ks.length - 1) 0) :: (ks.dropLast.map L).reverse) (w.alloc (.cells #[.int .i64 z, .int .i64 nn, d] 38))) := by rw [← rev_last L ks (by omega)]; exact HT1.out
    have i1 : (0 : Int) < (n : Int) := by omega
    clear HT1 HR1 hn
    obtain ⟨n1, hn1⟩ : ∃ n1 : Nat, (n : Int) - 1 = (n1 : Int) := ⟨n - 1, by omega⟩
    have i2 : n1 ≤ c := by omega
    have i3 : n1 ≤ 100 := by omega
    go_wp2_with fail
    refine (back_some FP t K _ _ _ HT2.out).mono ?_
    rintro e w2 ⟨g2, rfl, O2, hg2, T2, K2⟩
    have HT3 : Hid (Tp (fun k => (FP k ∧ k ≠ g2) ∨ ((w.alloc (.cells #[.int .i64 z, .int .i64 nn, d] 38)).heap.size ≤ k ∧ k < w2.heap.size)) t K ((ks.dropLast.map L).reverse) w2) := T2
    have HK2 : Hid (Kp FP (w.alloc (.cells #[.int .i64 z, .int .i64 nn, d] 38)) w2) := K2
    have HN1 : Hid (n1 = n - 1) := by unfold Hid; omega
    clear T2 K2 O2 hg2 HT2
    go_wp2
    go_ret
    have hs := HB1.out.size
    have hs2 := HK2.out.size
    have hR3 : Rl w2 E C L (.slice (some ⟨g, o, none⟩) n1 c) ks.dropLast := by
      rw [HN1.out]
      refine (HR2.out.short (by rw [List.length_dropLast, HN.out])).on fun k hk => ?_
      have := HV.out k hk
      exact (HK2.out.block k (by omega) this.2).trans (HB1.out.block k this.1)
    refine ⟨_, _, rfl, hR3, HT3.out, (Kp.of_below HB1.out).trans HK2.out, fun k hk => ?_, fun k hk => ?_⟩
    · rcases hk with h | h
      · exact ⟨.inl h.1, by have := HF.out k h.1; omega⟩
      · exact ⟨.inr (by omega), h.2⟩
    · have := HV.out k hk
      exact ⟨.inl hk, by omega, fun h => by
        rcases h with h | h
        · exact this.2 h.1
        · simp at h; omega⟩
end Go.Proofs.YtlckjbangdnejaaDoor
