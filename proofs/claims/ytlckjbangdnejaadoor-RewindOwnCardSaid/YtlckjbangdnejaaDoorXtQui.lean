/-
  same and untouched only read: what they answer where all is well, and that they only draw.
-/
import Derived.Test.YtlckjbangdnejaaDoorXtRm
set_option linter.unusedSimpArgs false
set_option linter.unusedVariables false
namespace Go.Proofs.YtlckjbangdnejaaDoor
open Go.RowKit Classical
set_option maxRecDepth 100000 in
set_option maxHeartbeats 1600000 in
theorem same_q (A : List Nat) (n : Nat) (hA : Bytes A) (hn : A.length = n) (hlen : n ≤ 140737488351232) (a b : Option Addr) (ka kb : Nat) (w : World) (RA : Row w a A) (RB : Row w b A) :
    Calls Tryd.prog 14 #[.slice a n ka, .slice b n kb] w fun e w' => e = .returned (.bool true) ∧ ∃ m, w' = w.drewN m := by
  have HN : Hid (A.length = n) := hn
  have HB : Hid (Bytes A) := hA
  have HR : Hid (Row w a A ∧ Row w b A) := ⟨RA, RB⟩
  have HB0 : Hid (∃ m, w = w.drewN m) := ⟨0, rfl⟩
  clear hA hn RA RB
  go_enter Tryd.func14, Tryd.ntmps14
  go_upto_region 4 with fail
  go_loopw [5] (fun i wr => ∃ k : Nat, k ≤ n ∧ i = .int .i64 k ∧ Hid (∃ m, wr = w.drewN m)) (fun i _ => n - (intOf i).toNat)
  case atStart => exact ⟨0, by omega, rfl, HB0⟩
  case round =>
    obtain ⟨k, hk, rfl, hB⟩ := hrel
    obtain ⟨wq, rfl⟩ : ∃ x, x = wr := ⟨_, rfl⟩
    have hBb : Below w.heap.size w wq := by
      obtain ⟨m, hm⟩ := hB.out
      rw [hm]
      exact below_drawsX (Below.refl _ _) m
    by_cases h : k < n
    · have ka' : k < A.length := by rw [HN.out]; exact h
      have rA := HR.out.1.below hBb
      have rB := HR.out.2.below hBb
      rcases rA with e | ⟨ba, oa, rfl, ca⟩
      · rw [e] at ka'; exact absurd ka' (Nat.not_lt_zero _)
      rcases rB with e | ⟨bb, ob, rfl, cb⟩
      · rw [e] at ka'; exact absurd ka' (Nat.not_lt_zero _)
      have c1 := ca k ka'
      have c2 := cb k ka'
      have b1 := bytes_at HB.out k
      have i1 : (k : Int) < (n : Int) := by omega
      clear ca cb ka' hBb
      generalize A.getD k 0 = p at *
      go_upto_region 6 with fail
      go_quiet (skip)
      have HB2 : Hid (∃ m, (wq.drewN nq) = w.drewN m) := by
        obtain ⟨m, hm⟩ := hB.out
        exact ⟨m + nq, by rw [hm, drewN_two]⟩
      clear c1 c2 hB
      generalize wq.drewN nq = w6 at *
      go_wp2
      go_roundw
      case rel => exact ⟨k + 1, by omega, by go_num, HB2⟩
      case measure => simp [intOf]; omega
    · obtain rfl : k = n := by omega
      have i1 : ¬ (k : Int) < (k : Int) := by omega
      go_wp2
      go_ret
      exact ⟨rfl, hB.out⟩
set_option maxRecDepth 100000 in
set_option maxHeartbeats 3200000 in
theorem untouched_q (L : List Nat) (n : Nat) (hL : Bytes L) (hn : L.length = n) (hle : n ≤ 100000) (a b : Option Addr) (ka kb : Nat) (w : World) (RA : Row w a (padL L)) (RB : Row w b L) :
    Calls Tryd.prog 21 #[.slice a (n + 8) ka, .slice b n kb] w fun e w' => e = .returned (.bool true) ∧ ∃ m, w' = w.drewN m := by
  have HN : Hid (L.length = n) := hn
  have HBy : Hid (Bytes L) := hL
  have HRA : Hid (∀ V, Below w.heap.size w V → Row V a (padL L) ∧ Row V b L) := fun V h => ⟨RA.below h, RB.below h⟩
  have HB0 : Hid (∃ m, w = w.drewN m) := ⟨0, rfl⟩
  clear hn hL RA RB
  go_enter Tryd.func21, Tryd.ntmps21
  go_upto_region 2 with fail
  go_loopw [5] (fun x wr => ∃ (i : Nat), i ≤ n + 8 ∧ x = .int .i64 i ∧ Hid (∃ m, wr = w.drewN m)) (fun x _ => n + 8 - (intOf x).toNat)
  case atStart => exact ⟨0, by omega, rfl, HB0⟩
  case round =>
    obtain ⟨i, hi, rfl, hB⟩ := hrel
    obtain ⟨wq, rfl⟩ : ∃ x, x = wr := ⟨_, rfl⟩
    have hBb : Below w.heap.size w wq := by
      obtain ⟨m, hm⟩ := hB.out
      rw [hm]
      exact below_drawsX (Below.refl _ _) m
    by_cases hi8 : i < n + 8
    · have i1 : (i : Int) < ((n + 8 : Nat) : Int) := by omega
      obtain ⟨RA, RB⟩ := HRA.out wq hBb
      have ha : ∃ g o, a = some ⟨g, o, none⟩ ∧ wq.cell? ⟨g, o + i, none⟩ = some (.int .u8 ((padL L).getD i 0 : Nat)) := by
        rcases RA with h | ⟨g, o, e, hc⟩
        · have := congrArg List.length h; rw [padL_len] at this; simp at this
        · exact ⟨g, o, e, hc i (by rw [padL_len, HN.out]; exact hi8)⟩
      obtain ⟨g, o, rfl, d1⟩ := ha
      by_cases hin : i < n
      · have i2 : (i : Int) < (n : Int) := by omega
        have hb : ∃ g2 o2, b = some ⟨g2, o2, none⟩ ∧ wq.cell? ⟨g2, o2 + i, none⟩ = some (.int .u8 (L.getD i 0 : Nat)) := by
          rcases RB with h | ⟨g2, o2, e, hc⟩
          · have := HN.out; rw [h] at this; simp at this; omega
          · exact ⟨g2, o2, e, hc i (by rw [HN.out]; exact hin)⟩
        obtain ⟨g2, o2, rfl, d2⟩ := hb
        rw [padL_at L i (by rw [HN.out]; exact hin)] at d1
        have by1 := bytes_at HBy.out i
        obtain ⟨y, hy⟩ : ∃ y, L.getD i 0 = y := ⟨_, rfl⟩
        rw [hy] at d1 d2 by1
        have i3 : ¬ (n : Int) ≤ (i : Int) := by omega
        clear hy RA
        go_upto_region 4 with fail
        go_quiet (fail)
        have HB2 : Hid (∃ m, (wq.drewN nq) = w.drewN m) := by
          obtain ⟨m, hm⟩ := hB.out
          exact ⟨m + nq, by rw [hm, drewN_two]⟩
        clear d1 d2 hB hBb
        generalize wq.drewN nq = w6 at *
        go_wp2
        go_roundw
        case rel => exact ⟨i + 1, by omega, by go_num, HB2⟩
        case measure => simp [intOf]; omega
      · have i2 : ¬ (i : Int) < (n : Int) := by omega
        have i3 : (n : Int) ≤ (i : Int) := by omega
        rw [padL_pad L i (by rw [HN.out]; omega) (by rw [HN.out]; exact hi8)] at d1
        have d1' : wq.cell? ⟨g, o + i, none⟩ = some (.int .u8 199) := d1
        clear d1 RA RB
        go_upto_region 4 with fail
        go_quiet (fail)
        have HB2 : Hid (∃ m, (wq.drewN nq) = w.drewN m) := by
          obtain ⟨m, hm⟩ := hB.out
          exact ⟨m + nq, by rw [hm, drewN_two]⟩
        clear d1' hB hBb
        generalize wq.drewN nq = w6 at *
        go_wp2
        go_roundw
        case rel => exact ⟨i + 1, by omega, by go_num, HB2⟩
        case measure => simp [intOf]; omega
    · obtain rfl : i = n + 8 := by omega
      go_wp2
      go_ret
      exact ⟨rfl, hB.out⟩
end Go.Proofs.YtlckjbangdnejaaDoor
