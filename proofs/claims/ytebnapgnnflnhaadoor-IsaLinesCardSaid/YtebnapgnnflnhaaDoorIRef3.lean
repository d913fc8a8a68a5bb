/-
  What cell and has of the document's isa answer; conditions: a byte; texts that are not too long.
-/
import Derived.Test.YtebnapgnnflnhaaDoorIRef2
set_option linter.unusedSimpArgs false
set_option linter.unusedVariables false
namespace Go.Proofs.YtebnapgnnflnhaaDoor
open Go.RowKit Go.WideShapes
theorem drop_cons (s : ByteArray) (k : Nat) (h : k < s.size) : s.data.toList.drop k = s[k] :: s.data.toList.drop (k + 1) := by
  rw [List.drop_eq_getElem_cons (by simpa using h)]; rfl
theorem ne124 {b : UInt8} (h : b ≠ 124) : ((b.toNat : Int) == 124) = false := by
  rw [beq_eq_false_iff_ne]
  intro e
  have : b.toNat = 124 := by omega
  exact h (UInt8.toNat_inj.1 this)
theorem cgo_at {s : ByteArray} {i fr kk : Nat} {R : Nat × Nat} (h : cgo (s.data.toList.drop i) i fr kk = R) (hi : i < s.size) :
    (s[i] = 124 → kk = 0 → R = (fr, i)) ∧ (s[i] = 124 → kk ≠ 0 → cgo (s.data.toList.drop (i + 1)) (i + 1) (i + 1) (kk - 1) = R) ∧ (s[i] ≠ 124 → cgo (s.data.toList.drop (i + 1)) (i + 1) fr kk = R) := by
  rw [drop_cons s i hi] at h
  unfold cgo at h
  refine ⟨fun a b => ?_, fun a b => ?_, fun a => ?_⟩
  · rw [if_pos a, if_pos b] at h; exact h.symm
  · rw [if_pos a, if_neg b] at h; exact h
  · rw [if_neg a] at h; exact h
theorem cgo_stop {s : ByteArray} {i fr kk : Nat} {R : Nat × Nat} (h : cgo (s.data.toList.drop i) i fr kk = R) (hi : i = s.size) : R = (fr, s.size) := by
  rw [List.drop_eq_nil_of_le (by simp; omega)] at h
  rw [← h, hi]; rfl
theorem and15i (k : Nat) (h : k < 256) : bits .and .u8 (k : Int) 15 = (k : Int) % 16 := by rw [and15 k h]; rfl
set_option maxRecDepth 100000 in
set_option maxHeartbeats 2000000 in
theorem cell_any (k : Nat) (hk : k < 256) (w : World) :
    Calls Tryd.prog 25 #[.int .u8 (k : Nat)] w fun e w' => e = .returned (.string (cellB k)) ∧ w' = w := by
  obtain ⟨a, b, hcg, hab, hbs, hex⟩ : ∃ a b, cgo (lineB (k / 16)).data.toList 0 0 (k % 16) = (a, b) ∧ a ≤ b ∧ b ≤ (lineB (k / 16)).size ∧ (lineB (k / 16)).extract a b = cellB k := by
    have h := cell_ok k hk
    have hl : (lineB (k / 16)).data.toList = lineL.getD (k / 16) [] := by simp [lineB]
    rw [← hl] at h
    exact ⟨_, _, rfl, h.1, by simpa using h.2.1, h.2.2⟩
  have hb := and15 k hk
  have hz := line_size (k / 16) (by omega)
  have LC := fun W => line_any (k / 16) (by omega) W
  rw [show ((k / 16 : Nat) : Int) = (k : Int) / 16 by omega] at LC
  have hm : k % 16 ≤ 15 := by omega
  generalize lineB (k / 16) = s at *
  generalize cellB k = z at *
  have LH := Hid.mk1 LC
  have HX := Hid.mk1 hex
  have HG := Hid.mk1 hcg
  clear LC hex hcg
  generalize k % 16 = c0 at *
  go_enter Tryd.func25, Tryd.ntmps25
  go_wp2_with (go_at_call 32; go_must (refine (LH.out _).mono ?_; rintro e w1 ⟨rfl, hw1⟩; obtain rfl := hw1.symm))
  clear hb
  go_loop [4, 5, 6] (fun kv fr i => ∃ i' f' c' : Nat, i = .int .i64 i' ∧ fr = .int .i64 f' ∧ kv = .int .i64 c' ∧ i' ≤ s.size ∧ f' ≤ i' ∧ c' ≤ 15 ∧ Hid (cgo (s.data.toList.drop i') i' f' c' = (a, b))) (fun _ _ i => s.size - (intOf i).toNat)
  case atStart => exact ⟨0, 0, c0, rfl, rfl, rfl, by omega, by omega, hm, by simpa using HG⟩
  case round =>
    clear hm HG
    obtain ⟨i, f, c, rfl, rfl, rfl, hi, hf, hc, H⟩ := hrel
    by_cases hlt : i < s.size
    · obtain ⟨g1, g2, g3⟩ := cgo_at H.out hlt
      by_cases h124 : s[i] = 124
      · have t1 : ((s[i].toNat : Int) == 124) = true := by rw [h124]; rfl
        by_cases hc0 : c = 0
        · have e := g1 h124 hc0
          obtain ⟨rfl, rfl⟩ : a = f ∧ b = i := by simpa using e
          subst hc0
          clear g1 g2 g3 H e
          go_wp2
          go_ret
          exact ⟨retS HX.out, rfl⟩
        · have H2 := Hid.mk1 (g2 h124 hc0)
          have hcp : (0 : Int) < c := by omega
          clear g1 g2 g3 H h124
          go_wp2
          go_round
          case rel => exact ⟨i + 1, i + 1, c - 1, by go_num, by go_num, by congr 1; omega, by omega, by omega, by omega, H2⟩
          case measure => simp [intOf]; omega
      · have t1 : ((s[i].toNat : Int) == 124) = false := ne124 h124
        have H2 := Hid.mk1 (g3 h124)
        clear g1 g2 g3 H h124
        go_wp2
        go_round
        case rel => exact ⟨i + 1, f, c, by go_num, rfl, rfl, by omega, by omega, hc, H2⟩
        case measure => simp [intOf]; omega
    · have e := cgo_stop H.out (by omega)
      obtain ⟨rfl, rfl⟩ : a = f ∧ b = s.size := by simpa using e
      clear H e
      obtain rfl : i = s.size := by omega
      go_wp2
      go_ret
      exact ⟨retS HX.out, rfl⟩
end Go.Proofs.YtebnapgnnflnhaaDoor
