/-
  room and untouched: a copy with eight more bytes in its spare room.
-/
import Derived.Test.YtlckjbangdnejaaDoorXtHand
set_option linter.unusedSimpArgs false
set_option linter.unusedVariables false
namespace Go.Proofs.YtlckjbangdnejaaDoor
open Go.RowKit Classical
/-- What room makes of a list. -/
def padL (L : List Nat) : List Nat := L ++ List.replicate 8 199
theorem padL_len (L : List Nat) : (padL L).length = L.length + 8 := by simp [padL]
theorem padL_at (L : List Nat) (i : Nat) (h : i < L.length) : (padL L).getD i 0 = L.getD i 0 := by simp [padL, List.getD, List.getElem?_append_left h]
theorem padL_pad (L : List Nat) (i : Nat) (h : L.length ≤ i) (h2 : i < L.length + 8) : (padL L).getD i 0 = 199 := by
  unfold padL
  rw [List.getD, List.getElem?_append_right h, List.getElem?_replicate, if_pos (by omega)]
  rfl
theorem Row.pre {W : World} {a : Option Addr} {l m : List Nat} (h : Row W a (l ++ m)) : Row W a l := by
  rcases h with h | ⟨b, o, e, hc⟩
  · exact .inl (List.append_eq_nil_iff.1 h).1
  · refine .inr ⟨b, o, e, fun i hi => ?_⟩
    have := hc i (by rw [List.length_append]; omega)
    rw [this]
    simp [List.getD, List.getElem?_append_left hi]
set_option maxRecDepth 100000 in
set_option maxHeartbeats 3200000 in
theorem room_any (L : List Nat) (a : Option Addr) (n k : Nat) (hn : L.length = n) (hle : n ≤ 100000) (w : World) (RL : Row w a L) :
    Calls Tryd.prog 19 #[.slice a n k] w fun e w' => ∃ g c, e = .returned (.tuple #[.slice (some ⟨g, 0, none⟩) n c, .slice (some ⟨g, 0, none⟩) (n + 8) c]) ∧ Tx w' w.heap.size (.slice (some ⟨g, 0, none⟩) (n + 8) c) (padL L) ∧ Below w.heap.size w w' := by
  have HN : Hid (L.length = n) := hn
  have HT1 : Hid (Tx (w.alloc (.cells #[] 5)) w.heap.size (.slice (some ⟨w.heap.size, 0, none⟩) 0 0) []) := ⟨rfl, .inr ⟨_, 0, _, rfl, Nat.le_refl _, heap_alloc_new w _, Nat.le_refl _, by decide, rfl, rfl⟩⟩
  have HB1 : Hid (Below w.heap.size w (w.alloc (.cells #[] 5))) := (Below.refl _ _).alloc (Nat.le_refl _) _
  have HL1 : Hid (([] : List Nat).length + L.length ≤ 140737488500000) := by unfold Hid; rw [hn]; simp; omega
  have HR1 : Hid (Row (w.alloc (.cells #[] 5)) a L) := RL.below HB1.out
  clear hn RL
  go_enter Tryd.func19, Tryd.ntmps19
  go_upto_region 1 with fail
  go_upto_region 2 with (refine wpList_apW rfl _ _ rfl HT1.out HB1.out HB1.out.size rfl rfl HN.out HR1.out HL1.out ?_; intro v9 w5 T5 B5 hs5)
  rw [List.nil_append] at T5
  have HT5 : Hid (Tx w5 w.heap.size v9 (L ++ List.replicate 0 199)) := by unfold Hid; simpa using T5
  have HB5 : Hid (Below w.heap.size w w5) := B5
  clear T5 B5 hs5 HT1 HB1 HL1 HR1
  go_upto_region 3 with fail
  go_loopw [4, 5] (fun v x wr => ∃ (i : Nat), i ≤ 8 ∧ x = .int .i64 i ∧ Hid (Tx wr w.heap.size v (L ++ List.replicate i 199)) ∧ Hid (Below w.heap.size w wr)) (fun _ x _ => 8 - (intOf x).toNat)
  case atStart => exact ⟨0, by omega, rfl, HT5, HB5⟩
  case round =>
    obtain ⟨i, hi, rfl, hT, hB⟩ := hrel
    obtain ⟨wq, rfl⟩ : ∃ x, x = wr := ⟨_, rfl⟩
    by_cases hi8 : i < 8
    · have i1 : (i : Int) < 8 := by omega
      have HT2 : Hid (Tx (wq.alloc (.cells #[.int .u8 199] 5)) w.heap.size u4 (L ++ List.replicate i 199)) := Tx.on hT.out ((Below.refl _ _).alloc (Nat.le_refl _) _)
      have HB2 : Hid (Below w.heap.size w (wq.alloc (.cells #[.int .u8 199] 5))) := hB.out.alloc hB.out.size _
      have HR2 : Hid (Row (wq.alloc (.cells #[.int .u8 199] 5)) (some ⟨wq.heap.size, 0, none⟩) [199]) := .inr ⟨_, 0, rfl, fun j hj => by
        obtain rfl : j = 0 := by simpa using hj
        exact (Blk.new wq #[.int .u8 199] 5).cell 0⟩
      have HL2 : Hid ((L ++ List.replicate i 199).length + [199].length ≤ 140737488500000) := by unfold Hid; rw [List.length_append, HN.out]; simp; omega
      clear hT hB
      go_upto_region 5 with fail
      go_upto_region 4 with (refine wpList_apW rfl _ _ rfl HT2.out HB2.out HB2.out.size rfl rfl (r := [199]) rfl HR2.out HL2.out ?_; intro v9 w6 T6 B6 hs6)
      have HT6 : Hid (Tx w6 w.heap.size v9 (L ++ List.replicate (i + 1) 199)) := by
        unfold Hid
        rw [List.replicate_succ', ← List.append_assoc]
        exact T6
      have HB6 : Hid (Below w.heap.size w w6) := B6
      clear T6 B6 hs6 HT2 HB2 HR2 HL2
      go_wp2
      go_roundw
      case rel => exact ⟨i + 1, by omega, by go_num, HT6, HB6⟩
      case measure => simp [intOf]; omega
    · obtain rfl : i = 8 := by omega
      have HT8 : Hid (Tx wq w.heap.size u4 (padL L)) := hT
      obtain ⟨g, c, hv⟩ := orow_some HT8.out (by rw [padL_len]; omega)
      obtain ⟨a2, k2, e2, hk2, -, -⟩ := HT8.out.full
      rw [hv] at e2
      cases e2
      rw [padL_len, HN.out] at hv hk2
      subst hv
      have i2 : n ≤ c := by omega
      clear hT
      go_wp2
      go_ret2
      exact ⟨g, c, rfl, HT8.out, hB.out⟩
set_option maxRecDepth 100000 in
set_option maxHeartbeats 3200000 in
theorem untouched_any (L : List Nat) (n : Nat) (hL : Bytes L) (hn : L.length = n) (hle : n ≤ 100000) (a b : Option Addr) (ka kb : Nat) (w : World) (RA : Row w a (padL L)) (RB : Row w b L) :
    Calls Tryd.prog 21 #[.slice a (n + 8) ka, .slice b n kb] w fun e w' => e = .returned (.bool true) ∧ Below w.heap.size w w' := by
  have HN : Hid (L.length = n) := hn
  have HBy : Hid (Bytes L) := hL
  have HRA : Hid (∀ V, Below w.heap.size w V → Row V a (padL L) ∧ Row V b L) := fun V h => ⟨RA.below h, RB.below h⟩
  have HB0 : Hid (Below w.heap.size w w) := Below.refl _ _
  clear hn hL RA RB
  go_enter Tryd.func21, Tryd.ntmps21
  go_upto_region 2 with fail
  go_loopw [5] (fun x wr => ∃ (i : Nat), i ≤ n + 8 ∧ x = .int .i64 i ∧ Hid (Below w.heap.size w wr)) (fun x _ => n + 8 - (intOf x).toNat)
  case atStart => exact ⟨0, by omega, rfl, HB0⟩
  case round =>
    obtain ⟨i, hi, rfl, hB⟩ := hrel
    obtain ⟨wq, rfl⟩ : ∃ x, x = wr := ⟨_, rfl⟩
    by_cases hi8 : i < n + 8
    · have i1 : (i : Int) < ((n + 8 : Nat) : Int) := by omega
      obtain ⟨RA, RB⟩ := HRA.out wq hB.out
      have ha : ∃ g o, a = some ⟨g, o, none⟩ ∧ wq.cell? ⟨g, o + i, none⟩ = some (.int .u8 ((padL L).getD i 0 : Nat)) := by
        rcases RA with h | ⟨g, o, e, hc⟩
        · have := congrArg List.length h; rw [padL_len] at this; simp at this
        · exact ⟨g, o, e, hc i (by rw [padL_len, HN.out]; exact hi8)⟩
      obtain ⟨g, o, rfl, d1⟩ := ha
      by_cases hin : i < n
      · have i2 : (i : Int) < (n : Int) := by omega
        have hb : ∃ g2 o2, b = some ⟨g2, o2, none⟩ ∧ wq.cell? ⟨g2, o2 + i, none⟩ = some (.int .u8 (L.getD i 0 : Nat)) := by
          rcases RB with h | ⟨g2, o2, e, hc⟩
          · have := HN.out; rw [h] at this; simp at this; omega
          · exact ⟨g2, o2, e, hc i (by rw [HN.out]; exact hin)⟩
        obtain ⟨g2, o2, rfl, d2⟩ := hb
        rw [padL_at L i (by rw [HN.out]; exact hin)] at d1
        have by1 := bytes_at HBy.out i
        obtain ⟨y, hy⟩ : ∃ y, L.getD i 0 = y := ⟨_, rfl⟩
        rw [hy] at d1 d2 by1
        have i3 : ¬ (n : Int) ≤ (i : Int) := by omega
        clear hy RA
        go_upto_region 4 with fail
        go_quiet (fail)
        have HB2 : Hid (Below w.heap.size w (wq.drewN nq)) := below_drawsX hB.out nq
        clear d1 d2 hB
        generalize wq.drewN nq = w6 at *
        go_wp2
        go_roundw
        case rel => exact ⟨i + 1, by omega, by go_num, HB2⟩
        case measure => simp [intOf]; omega
      · have i2 : ¬ (i : Int) < (n : Int) := by omega
        have i3 : (n : Int) ≤ (i : Int) := by omega
        rw [padL_pad L i (by rw [HN.out]; omega) (by rw [HN.out]; exact hi8)] at d1
        have d1' : wq.cell? ⟨g, o + i, none⟩ = some (.int .u8 199) := d1
        clear d1 RA RB
        go_upto_region 4 with fail
        go_quiet (fail)
        have HB2 : Hid (Below w.heap.size w (wq.drewN nq)) := below_drawsX hB.out nq
        clear d1' hB
        generalize wq.drewN nq = w6 at *
        go_wp2
        go_roundw
        case rel => exact ⟨i + 1, by omega, by go_num, HB2⟩
        case measure => simp [intOf]; omega
    · obtain rfl : i = n + 8 := by omega
      go_wp2
      go_ret
      exact ⟨rfl, hB.out⟩
end Go.Proofs.YtlckjbangdnejaaDoor
