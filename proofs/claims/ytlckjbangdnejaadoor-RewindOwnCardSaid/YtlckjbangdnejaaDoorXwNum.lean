/-
  Numbers and the sum, laid down behind a patch's bytes.
-/
import Derived.Test.YtlckjbangdnejaaDoorXwApp
import Derived.Test.YtlckjbangdnejaaDoorXwM
set_option linter.unusedSimpArgs false
set_option linter.unusedVariables false
namespace Go.Proofs.YtlckjbangdnejaaDoor
open Go.RowKit Classical
theorem or128 (z : Nat) (hz : z < 2097152) : bits .or .u8 ((z : Int) % 256) 128 = ((z % 128 + 128 : Nat) : Int) := by
  have h : ∀ k : Nat, k < 256 → bits .or .u8 (k : Int) 128 = ((k % 128 + 128 : Nat) : Int) := by decide +kernel
  have := h (z % 256) (by omega)
  rw [show z % 256 % 128 = z % 128 by omega] at this
  rw [← this]
  congr 1
/-- The bytes of the first of two numbers, or of both. -/
def nm (m n : Nat) : Nat → List Nat
  | 0 => []
  | 1 => RwM.num m
  | _ => RwM.num m ++ RwM.num n
theorem nm_len (m n k : Nat) (hm : m < 2097152) (hn : n < 2097152) : (nm m n k).length ≤ 6 := by
  have a := (RwM.num_len m hm).2.1
  have b := (RwM.num_len n hn).2.1
  unfold nm
  split <;> simp <;> omega
theorem nm_step (m n k : Nat) (hk : k < 2) : ∃ y, y = (if k = 0 then m else n) ∧ nm m n (k + 1) = nm m n k ++ RwM.num y ∧ (#[Value.int .i64 (m : Nat), .int .i64 (n : Nat)] : Array Value)[k]? = some (.int .i64 (y : Nat)) := by
  refine ⟨_, rfl, ?_⟩
  match k, hk with
  | 0, _ => exact ⟨rfl, rfl⟩
  | 1, _ => exact ⟨rfl, rfl⟩
set_option maxRecDepth 100000 in
set_option maxHeartbeats 1600000 in
theorem numbers_any (m n : Nat) (hm : m < 2097152) (hn : n < 2097152) (l : List Nat) (hl : l.length ≤ 1000000) (v : Value) (b base : Nat) (w : World) (T : Ty w base v l) (hbase : base ≤ w.heap.size) (B : Blk w b #[.int .i64 (m : Nat), .int .i64 (n : Nat)] 3) :
    Calls Tryd.prog 33 #[v, .slice (some ⟨b, 0, none⟩) 2 2] w (LsOk base w v (l ++ (RwM.num m ++ RwM.num n))) := by
  have HT : Hid (Ty w base v l) := T
  have HB : Hid (Blk w b #[.int .i64 (m : Nat), .int .i64 (n : Nat)] 3) := B
  have HV : Hid (v.ownBlock ≠ some b) := T.notBlk B (by decide)
  have HM : Hid (m < 2097152 ∧ n < 2097152 ∧ l.length ≤ 1000000) := ⟨hm, hn, hl⟩
  clear T B hm hn hl
  go_enter Tryd.func33, Tryd.ntmps33
  go_upto_region 2 with fail
  go_loopw [0, 9] (fun p i wr => ∃ k : Nat, k ≤ 2 ∧ i = .int .i64 k ∧ Hid (Ty wr base p (l ++ nm m n k) ∧ (k ≠ 0 → Tx wr base p (l ++ nm m n k))) ∧ Hid (Gr w v wr p) ∧ base ≤ wr.heap.size) (fun _ i _ => 2 - (intOf i).toNat)
  case atStart => exact ⟨0, by omega, rfl, ⟨by rw [show nm m n 0 = [] from rfl, List.append_nil]; exact HT.out, fun h => absurd rfl h⟩, Gr.refl _ _, hbase⟩
  case round =>
    obtain ⟨k, hk, rfl, hT, hG, hsz⟩ := hrel
    by_cases h : k < 2
    · obtain ⟨y, hy, hnm, hc⟩ := nm_step m n k h
      have hcell := ((hG.out.blk HB.out HV.out).cell k).trans hc
      have HY : Hid (y < 2097152) := by have := HM.out; unfold Hid; rw [hy]; split <;> omega
      have HN : Hid (nm m n (k + 1) = nm m n k ++ RwM.num y) := hnm
      clear hnm hc hy
      go_upto_region 4 with fail
      rw [show decide ((k : Int) < 2) = true by simp; omega]
      go_loopw [0, 6] (fun p q wr => ∃ (z : Nat) (pre : List Nat), q = .int .i64 z ∧ z < 2097152 ∧ Hid (pre ++ RwM.num z = l ++ nm m n (k + 1)) ∧ Hid (Ty wr base p pre) ∧ Hid (Gr w v wr p) ∧ base ≤ wr.heap.size) (fun _ q _ => (intOf q).toNat)
      case atStart => exact ⟨y, _, rfl, HY.out, by unfold Hid; rw [HN.out, List.append_assoc], hT.out.1, hG, hsz⟩
      case round =>
        obtain ⟨z, pre, rfl, hz, hE, hT, hG, hsz⟩ := hrel
        have HL : Hid (pre.length ≤ 17592186044416) := by
          have a := congrArg List.length hE.out
          have b := nm_len m n (k + 1) HM.out.1 HM.out.2.1
          have c := HM.out.2.2
          simp only [List.length_append] at a
          unfold Hid; omega
        by_cases hz2 : z < 128
        · have HZ : Hid (RwM.num z = [z]) := RwM.num_lt hz2
          go_wp2_with (refine wpList_ay1 rfl _ _ rfl z hT.out hG.out hsz rfl rfl rfl HL.out ?_; intro v' w' hT' hG' hs')
          go_roundw
          case rel => exact ⟨k + 1, by omega, by go_num, by rw [← hE.out, HZ.out]; exact ⟨.inl hT', fun _ => hT'⟩, hG', hs'⟩
          case measure => simp [intOf]; omega
        · have HZ : Hid (RwM.num z = (z % 128 + 128) :: RwM.num (z / 128)) := RwM.num_ge hz2
          have e1 := or128 z hz
          go_wp2_with (refine wpList_ay1 rfl _ _ rfl (z % 128 + 128) hT.out hG.out hsz rfl rfl rfl HL.out ?_; intro v' w' hT' hG' hs')
          go_roundw
          case rel => exact ⟨z / 128, _, by go_num, by omega, by unfold Hid; rw [← hE.out, HZ.out, List.append_assoc]; rfl, Or.inl hT', hG', hs'⟩
          case measure => simp [intOf]; omega
    · obtain rfl : k = 2 := by omega
      go_wp2
      go_ret
      exact ⟨_, rfl, hT.out.2 (by decide), hG.out, hsz⟩
/-- The four bytes of a sum. -/
def sum4 (c : Nat) : List Nat := [c % 256, c / 256 % 256, c / 65536 % 256, c / 16777216 % 256]
set_option maxRecDepth 100000 in
set_option maxHeartbeats 1600000 in
theorem sum_any (c : Nat) (hc : c < 4294967296) (l : List Nat) (hl : l.length ≤ 1000000) (v : Value) (base : Nat) (w : World) (T : Tx w base v l) (hbase : base ≤ w.heap.size) :
    Calls Tryd.prog 36 #[v, .int .u32 (c : Nat)] w (LsOk base w v (l ++ sum4 c)) := by
  have HL : ∀ k : Nat, Hid ((l ++ (sum4 c).take k).length ≤ 17592186044416) := fun k => by unfold Hid sum4; simp; omega
  have HT : Hid (Tx w base v l) := T
  clear T
  go_enter Tryd.func36, Tryd.ntmps36
  go_upto_region 2 with fail
  go_loopw [0, 5] (fun p i wr => ∃ k : Nat, k ≤ 4 ∧ i = .int .i64 ((8 * k : Nat) : Int) ∧ Hid (Tx wr base p (l ++ (sum4 c).take k)) ∧ Hid (Gr w v wr p) ∧ base ≤ wr.heap.size) (fun _ i _ => 40 - (intOf i).toNat)
  case atStart => exact ⟨0, by omega, rfl, by show Tx _ _ _ _; rw [List.take_zero, List.append_nil]; exact HT.out, Gr.refl _ _, hbase⟩
  case round =>
    obtain ⟨k, hk, rfl, hT, hG, hsz⟩ := hrel
    have hlk := HL k
    match k, hk with
    | 0, _ =>
      go_wp2_with (refine wpList_ap1 rfl _ _ rfl (c % 256) hT.out hG.out hsz rfl rfl (by go_num) hlk.out ?_; intro v' w' hT' hG' hs')
      go_roundw
      case rel => exact ⟨1, by omega, by go_num, by show Tx _ _ _ _; rw [List.append_assoc] at hT'; exact hT', hG', hs'⟩
      case measure => simp [intOf]
    | 1, _ =>
      go_wp2_with (refine wpList_ap1 rfl _ _ rfl (c / 256 % 256) hT.out hG.out hsz rfl rfl (by go_num) hlk.out ?_; intro v' w' hT' hG' hs')
      go_roundw
      case rel => exact ⟨2, by omega, by go_num, by show Tx _ _ _ _; rw [List.append_assoc] at hT'; exact hT', hG', hs'⟩
      case measure => simp [intOf]
    | 2, _ =>
      go_wp2_with (refine wpList_ap1 rfl _ _ rfl (c / 65536 % 256) hT.out hG.out hsz rfl rfl (by go_num) hlk.out ?_; intro v' w' hT' hG' hs')
      go_roundw
      case rel => exact ⟨3, by omega, by go_num, by show Tx _ _ _ _; rw [List.append_assoc] at hT'; exact hT', hG', hs'⟩
      case measure => simp [intOf]
    | 3, _ =>
      go_wp2_with (refine wpList_ap1 rfl _ _ rfl (c / 16777216 % 256) hT.out hG.out hsz rfl rfl (by go_num) hlk.out ?_; intro v' w' hT' hG' hs')
      go_roundw
      case rel => exact ⟨4, by omega, by go_num, by show Tx _ _ _ _; rw [List.append_assoc] at hT'; exact hT', hG', hs'⟩
      case measure => simp [intOf]
    | 4, _ =>
      go_wp2
      go_ret
      exact ⟨_, rfl, hT.out, hG.out, hsz⟩
end Go.Proofs.YtlckjbangdnejaaDoor
