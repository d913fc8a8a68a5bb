/-
  Slot of package cache.
-/
import Derived.Test.YtpnalcbpdejpjaaRows
import Derived.WalkKit
import Derived.WalkSpells
import Derived.WalkLawsBesides
import Derived.Deep.RegionHeld3
import Derived.Deep.DeepCutAuto
import Derived.Deep.CutBlock
set_option linter.unusedSimpArgs false
set_option linter.unusedVariables false
namespace Go.Proofs.Ytpnalcbpdejpjaa
open Go.RowKit Classical
/-- The slot of a key. -/
def slotV (pc tag size : Int) : Int := if size < 1 then -1 else (pc + 40503 * (tag % 65536)) % size
theorem cell_ltc {w : World} {p : Addr} {v : Value} (h : w.cell? p = some v) : p.block < w.heap.size := by
  by_cases hp : p.block < w.heap.size
  · exact hp
  · exfalso
    have e : w.heap[p.block]? = none := Array.getElem?_eq_none (by omega)
    unfold World.cell? at h
    simp [e] at h
theorem tag_mod (tag : Int) : 0 ≤ tag % 65536 ∧ tag % 65536 < 65536 := by omega
set_option maxRecDepth 100000 in
set_option maxHeartbeats 2000000 in
theorem slot_any (pc tag size : Int) (w : World) (p0 : 0 ≤ pc) (p1 : pc ≤ 65535) (s0 : -9223372036854775808 ≤ size) (s1 : size ≤ 9223372036854775807) :
    Calls Try.prog 9 #[.agg #[.int .u16 pc, .int .i64 tag], .int .i64 size] w fun e w' => e = .returned (.int .i64 (slotV pc tag size)) ∧ Below w.heap.size w w' := by
  have ht := tag_mod tag
  obtain ⟨t, hT⟩ : ∃ t, tag % 65536 = t := ⟨_, rfl⟩
  rw [hT] at ht
  have H16 : IntKind.u16.wrap tag = t := by rw [← hT]; rfl
  have HV : Hid (slotV pc tag size = if size < 1 then -1 else (pc + 40503 * t) % size) := by unfold Hid slotV; rw [hT]
  clear hT
  by_cases h : size < 1
  · have HV2 : Hid (slotV pc tag size = -1) := by unfold Hid; rw [HV.out, if_pos h]
    clear HV
    go_enter Try.func9, Try.ntmps9
    go_wp2
    go_ret
    exact ⟨by rw [HV2.out]; rfl, (Below.refl _ _).alloc (Nat.le_refl _) _⟩
  · have HV2 : Hid (slotV pc tag size = (pc + 40503 * t) % size) := by unfold Hid; rw [HV.out, if_neg h]
    clear HV
    have hz : ¬ size = 0 := by omega
    go_enter Try.func9, Try.ntmps9
    go_wp2
    go_ret
    exact ⟨by rw [HV2.out]; rfl, (Below.refl _ _).alloc (Nat.le_refl _) _⟩
set_option maxRecDepth 100000 in
set_option maxHeartbeats 2000000 in
theorem rslot_any (pc tag size : Int) (w : World) (p0 : 0 ≤ pc) (p1 : pc ≤ 65535) (s0 : -9223372036854775808 ≤ size) (s1 : size ≤ 9223372036854775807) (t0 : -9223372036854775808 ≤ tag) (t1 : tag ≤ 9223372036854775807) :
    Calls Try.prog 10 #[.agg #[.int .u16 pc, .int .i64 tag], .int .i64 size] w fun e w' => e = .returned (.int .i64 (slotV pc tag size)) ∧ Below w.heap.size w w' := by
  have ht := tag_mod tag
  have HV : Hid (slotV pc tag size = if size < 1 then -1 else (pc + 40503 * (tag % 65536)) % size) := rfl
  by_cases h : size < 1
  · have HV2 : Hid (slotV pc tag size = -1) := by unfold Hid; rw [HV.out, if_pos h]
    clear HV
    go_enter Try.func10, Try.ntmps10
    go_wp2
    go_ret
    exact ⟨by rw [HV2.out]; rfl, (Below.refl _ _).alloc (Nat.le_refl _) _⟩
  · have hz : ¬ size = 0 := by omega
    have hm : tag.tmod 65536 = if 0 ≤ tag then tag % 65536 else -((-tag) % 65536) := by
      split
      · next g => exact Int.tmod_eq_emod_of_nonneg g
      · next g => rw [← Int.tmod_eq_emod_of_nonneg (by omega), Int.neg_tmod, Int.neg_neg]
    obtain ⟨m, hM⟩ : ∃ m, tag.tmod 65536 = m := ⟨_, rfl⟩
    rw [hM] at hm
    by_cases g : m < 0
    · have e : m + 65536 = tag % 65536 := by split at hm <;> omega
      have HV2 : Hid (slotV pc tag size = (pc + 40503 * (m + 65536)) % size) := by unfold Hid; rw [HV.out, if_neg h, e]
      have g2 : -65536 < m := by omega
      clear HV hm e ht
      go_enter Try.func10, Try.ntmps10
      go_wp2
      go_ret
      exact ⟨by rw [HV2.out]; rfl, (Below.refl _ _).alloc (Nat.le_refl _) _⟩
    · have e : m = tag % 65536 := by split at hm <;> omega
      have HV2 : Hid (slotV pc tag size = (pc + 40503 * m) % size) := by unfold Hid; rw [HV.out, if_neg h, e]
      have g2 : m < 65536 := by omega
      clear HV hm e ht
      go_enter Try.func10, Try.ntmps10
      go_wp2
      go_ret
      exact ⟨by rw [HV2.out]; rfl, (Below.refl _ _).alloc (Nat.le_refl _) _⟩
abbrev KS (w : World) (pc tag : Int) (v : World) : Prop := v.cell? ⟨w.heap.size, 0, none⟩ = some (.int .u16 pc) ∧ v.cell? ⟨w.heap.size, 1, none⟩ = some (.int .i64 tag) ∧ Below w.heap.size w v
theorem KS.on {w v v' : World} {pc tag : Int} (h : KS w pc tag v) (hb : Below v.heap.size v v') : KS w pc tag v' := ⟨(hb.cell (p := ⟨w.heap.size, 0, none⟩) (cell_ltc h.1)).trans h.1, (hb.cell (p := ⟨w.heap.size, 1, none⟩) (cell_ltc h.2.1)).trans h.2.1, h.2.2.trans (hb.mono h.2.2.size)⟩
set_option maxRecDepth 100000 in
set_option maxHeartbeats 2000000 in
theorem slots_law (pc tag size : Int) (w : World) (p0 : 0 ≤ pc) (p1 : pc ≤ 65535) (s0 : -9223372036854775808 ≤ size) (s1 : size ≤ 9223372036854775807) (t0 : -9223372036854775808 ≤ tag) (t1 : tag ≤ 9223372036854775807) :
    Calls Try.prog 3 #[.agg #[.int .u16 pc, .int .i64 tag], .int .i64 size] w fun e w' => e = .returned (.bool true) ∧ Below w.heap.size w w' := by
  have SA : Hid (∀ W, Calls _ _ _ W _) := fun W => slot_any pc tag size W p0 p1 s0 s1
  have SB : Hid (∀ W, Calls _ _ _ W _) := fun W => rslot_any pc tag size W p0 p1 s0 s1 t0 t1
  generalize slotV pc tag size = v at *
  go_enter Try.func3, Try.ntmps3
  go_upto_region 1 with fail
  have c0 : (w.alloc (.cells #[.int .u16 pc, .int .i64 tag] 24)).cell? ⟨w.heap.size, 0, none⟩ = some (.int .u16 pc) := by go_simp
  have c1 : (w.alloc (.cells #[.int .u16 pc, .int .i64 tag] 24)).cell? ⟨w.heap.size, 1, none⟩ = some (.int .i64 tag) := by go_simp
  have hb0 : Below w.heap.size w (w.alloc (.cells #[.int .u16 pc, .int .i64 tag] 24)) := (Below.refl _ _).alloc (Nat.le_refl _) _
  generalize w.alloc (.cells #[.int .u16 pc, .int .i64 tag] 24) = W0 at *
  have start : KS w pc tag W0.drew := ⟨c0, c1, hb0.drew⟩
  clear c0 c1
  go_region_held3 (fun v => v.cell? ⟨w.heap.size, 0, none⟩ = some (.int .u16 pc) ∧ v.cell? ⟨w.heap.size, 1, none⟩ = some (.int .i64 tag) ∧ Below w.heap.size w v)
    (first | with_reducible exact start | with_reducible exact KS.on (by assumption) hbw)
    (first
      | (go_at_call 9; refine (SA.out _).mono ?_; rintro e w1 ⟨rfl, hbw⟩; have hb1 := hbw)
      | (go_at_call 10; refine (SB.out _).mono ?_; rintro e w2 ⟨rfl, hbw⟩; have hb2 := hbw))
  all_goals
    go_wp2
    go_ret
    exact ⟨by simp, (hb0.drew.trans (hb1.mono hb0.size)).trans (hb2.mono (Nat.le_trans hb0.size hb1.size))⟩
end Go.Proofs.Ytpnalcbpdejpjaa
