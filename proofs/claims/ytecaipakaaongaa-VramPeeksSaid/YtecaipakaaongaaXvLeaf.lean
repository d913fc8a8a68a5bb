/-
  What entryAt, oamFits, paletteFits and fits answer of a video memory; conditions: its cells lie in a block.
-/
import Derived.Test.YtecaipakaaongaaXvSpec
set_option linter.unusedSimpArgs false
set_option linter.unusedVariables false
namespace Go.Proofs.Ytecaipakaaongaa
open Go.RowKit Classical
theorem entryAt_any (n : Nat) (hn : n < 65536) (w : World) :
    Calls Try.prog 47 #[.int .u16 n] w fun e w' => e = .returned (.int .i64 (entN n : Nat)) ∧ w' = w := by
  have h1 : ((n : Int)).tmod 32 = ((n % 32 : Nat) : Int) := by rw [Int.tmod_eq_emod_of_nonneg (by omega)]; rfl
  obtain ⟨m, hm⟩ : ∃ m, m = n % 32 := ⟨_, rfl⟩
  have hm32 : m < 32 := by omega
  have E : entN n = if m % 4 = 0 then m % 16 else m := by unfold entN; rw [hm]; split <;> omega
  rw [E]
  rw [← hm] at h1
  clear E hm
  have h2 : ((m : Int)).tmod 4 = ((m % 4 : Nat) : Int) := by rw [Int.tmod_eq_emod_of_nonneg (by omega)]; rfl
  have h3 : ((m : Int)).tmod 16 = ((m % 16 : Nat) : Int) := by rw [Int.tmod_eq_emod_of_nonneg (by omega)]; rfl
  by_cases h : m % 4 = 0
  · rw [if_pos h]
    have hd : (((m % 4 : Nat) : Int) == 0) = true := by rw [h]; rfl
    go_enter Try.func47, Try.ntmps47
    go_wp2
    go_ret
    exact ⟨rfl, rfl⟩
  · rw [if_neg h]
    have hd : (((m % 4 : Nat) : Int) == 0) = false := by simp; omega
    go_enter Try.func47, Try.ntmps47
    go_wp2
    go_ret
    exact ⟨rfl, rfl⟩
set_option maxRecDepth 100000 in
theorem oamFits_any (cs : Array Value) (f : Nat → Nat) (F : Fok f) (V : Vid cs f) (b : Nat) (w : World) (hb : Blk w b cs 28) :
    Calls Try.prog 40 #[.pointer (some ⟨b, 0, none⟩)] w fun e w' => e = .returned (.bool (oamF f)) ∧ w' = w := by
  go_enter Try.func40, Try.ntmps40
  go_wp2
  go_loop [3] (fun i => ∃ k : Nat, k ≤ 64 ∧ i = .int .i64 (4 * k + 2 : Nat) ∧ ∀ j, j < k → f (4 * j + 2) / 4 % 8 = 0) (fun i => 64 - ((intOf i).toNat - 2) / 4)
  case atStart => exact ⟨0, by omega, rfl, fun j hj => absurd hj (by omega)⟩
  case round =>
    obtain ⟨k, hk, rfl, hall⟩ := hrel
    have HA : Hid _ := hall
    clear hall
    obtain ⟨p, hp⟩ : ∃ p, p = 4 * k + 2 := ⟨_, rfl⟩
    rw [← hp]
    have hp1 : 2 ≤ p := by omega
    have hp2 : p ≤ 258 := by omega
    have HP : Hid (p = 4 * k + 2) := hp
    clear hp
    obtain ⟨x, hx⟩ : ∃ x, x = f p := ⟨_, rfl⟩
    have HX : Hid (x = f p) := hx
    have c : p < 12577 → w.cell? ⟨b, p, none⟩ = some (.int .u8 (x : Nat)) := fun h => by rw [hx]; exact (hb.cell _).trans (V.byte _ h)
    have hx2 : p < 12577 → x < 256 := fun h => by rw [hx]; exact F.b _ h
    clear hx
    by_cases hlt : p < 256
    · have c := c (by omega)
      have hx2 := hx2 (by omega)
      have ha := andNot227 x hx2
      by_cases hz : x / 4 % 8 = 0
      · have HZ : Hid (x / 4 % 8 = 0) := hz
        rw [hz] at ha
        clear hz hx2
        go_wp2
        go_round
        case rel =>
          refine ⟨k + 1, by have := HP.out; omega, ?_, fun j hj => ?_⟩
          · have := HP.out; go_num
          · by_cases e : j = k
            · subst e; rw [← HP.out, ← HX.out]; exact HZ.out
            · exact HA.out j (by omega)
        case measure => have := HP.out; simp [intOf]; omega
      · have HZ : Hid (¬ x / 4 % 8 = 0) := hz
        have hn : (((x / 4 % 8 * 4 : Nat) : Int) != 0) = true := by simp; omega
        generalize x / 4 % 8 * 4 = y at ha hn
        clear hz hx2
        go_wp2
        go_ret
        refine ⟨?_, rfl⟩
        rw [oamF_false k (by have := HP.out; omega) (by rw [← HP.out, ← HX.out]; exact HZ.out)]
        rfl
    · go_wp2
      go_ret
      refine ⟨?_, rfl⟩
      rw [oamF_true fun j hj => HA.out j (by have := HP.out; omega)]
      rfl
theorem run_index_u8 (T n : Nat) (A : Array Value) (i : Nat) (v : Value) (hu : Try.prog.underlying T = some (.array n 5)) (hi : i < n) (hv : A[i]? = some v) (w : World) :
    Sem.run Try.prog (Instr.index T (.agg A) (.int .i64 (i : Nat))) w = .ok v w := by
  have h0 : ((i : Int) < (n : Int)) := by omega
  simp [Instr.index, part, run_underlying hu, asIntOf, h0, hv, go_sem]
  intro h
  omega
theorem Vid.range {cs : Array Value} {f : Nat → Nat} (V : Vid cs f) {w : World} {b : Nat} {t : TypeId} (hb : Blk w b cs t) (o n : Nat) (hn : o + n ≤ 12577) : w.rangeAt b o ((List.range n).map fun k => Value.int .u8 (f (o + k) : Nat)) := fun j v hv => by
  rw [hb.cell]
  rw [List.getElem?_map] at hv
  by_cases hj : j < n
  · rw [List.getElem?_range hj] at hv
    rw [V.byte _ (by omega)]
    exact hv
  · rw [List.getElem?_eq_none (by simp; omega)] at hv
    cases hv
def palC (f : Nat → Nat) : Array Value := ((List.range 32).map fun k => Value.int .u8 (f (4353 + k) : Nat)).toArray
theorem palC_at (f : Nat → Nat) (k : Nat) (hk : k < 32) : (palC f)[k]? = some (.int .u8 (f (4353 + k) : Nat)) := by
  unfold palC
  rw [List.getElem?_toArray, List.getElem?_map, List.getElem?_range hk]
  rfl
set_option maxRecDepth 100000 in
theorem paletteFits_any (cs : Array Value) (f : Nat → Nat) (F : Fok f) (V : Vid cs f) (b : Nat) (w : World) (hb : Blk w b cs 28) :
    Calls Try.prog 41 #[.pointer (some ⟨b, 0, none⟩)] w fun e w' => e = .returned (.bool (palF f)) ∧ w' = w := by
  have IX : Hid (∀ k, k < 32 → ∀ w, Sem.run Try.prog (Instr.index 24 (.agg (palC f)) (.int .i64 (k : Nat))) w = .ok (.int .u8 (f (4353 + k) : Nat)) w) := fun k hk w => run_index_u8 24 32 _ k _ Try.underlying24 hk (palC_at f k hk) w
  have HR : Hid (w.rangeAt b 4353 (palC f).toList) := V.range hb 4353 32 (by decide)
  go_enter Try.func41, Try.ntmps41
  go_wp2_with (first
    | refine wpList_load_mid rfl 24 _ rfl b 4353 rfl (palC f).toList _ HR.out Try.underlying24 rfl (by kernel_rfl) ?_)
  generalize palC f = A at IX
  go_loop [9] (fun i => ∃ k : Nat, k ≤ 32 ∧ i = .int .i64 k ∧ ∀ j, j < k → f (4353 + j) ≤ 63 ∧ (f (4353 + j) = 0 ∨ entN j = j)) (fun i => 32 - (intOf i).toNat)
  case atStart => exact ⟨0, by omega, rfl, fun j hj => absurd hj (by omega)⟩
  case round =>
    obtain ⟨k, hk, rfl, hall⟩ := hrel
    have HA : Hid _ := hall
    clear hall
    by_cases hlt : k < 32
    · have ix := IX.out k hlt w
      obtain ⟨x, hx⟩ : ∃ x, x = f (4353 + k) := ⟨_, rfl⟩
      have HX : Hid (x = f (4353 + k)) := hx
      rw [← hx] at ix
      clear hx
      by_cases h1 : x ≤ 63
      · by_cases h2 : x = 0
        · have HZ : Hid (x = 0) := h2
          have d1 : ((x : Int) != 0) = false := by rw [h2]; rfl
          clear h2
          go_wp2
          go_round
          case rel =>
            refine ⟨k + 1, by omega, by go_num, fun j hj => ?_⟩
            by_cases e : j = k
            · subst e; rw [← HX.out]; exact ⟨h1, .inl HZ.out⟩
            · exact HA.out j (by omega)
          case measure => simp [intOf]; omega
        · have d1 : ((x : Int) != 0) = true := by simp; omega
          have H2 : Hid (¬ x = 0) := h2
          clear h2
          have EA := entryAt_any k (by omega) w
          by_cases h3 : entN k = k
          · have H3 : Hid (entN k = k) := h3
            have d3 : ((entN k : Int) != (k : Int)) = false := by simp; omega
            clear h3
            go_wp2_with (first | (go_at_call 47; refine EA.mono ?_; rintro e w1 ⟨rfl, rfl⟩))
            go_round
            case rel =>
              refine ⟨k + 1, by omega, by go_num, fun j hj => ?_⟩
              by_cases e : j = k
              · subst e; rw [← HX.out]; exact ⟨h1, .inr H3.out⟩
              · exact HA.out j (by omega)
            case measure => simp [intOf]; omega
          · have d3 : ((entN k : Int) != (k : Int)) = true := by simp; omega
            have H3 : Hid (¬ entN k = k) := h3
            clear h3
            go_wp2_with (first | (go_at_call 47; refine EA.mono ?_; rintro e w1 ⟨rfl, rfl⟩))
            go_ret
            refine ⟨?_, rfl⟩
            rw [palF_false k hlt (by rw [← HX.out]; have := H3.out; have := H2.out; omega)]
            rfl
      · go_wp2
        go_ret
        refine ⟨?_, rfl⟩
        rw [palF_false k hlt (by rw [← HX.out]; omega)]
        rfl
    · go_wp2
      go_ret
      refine ⟨?_, rfl⟩
      rw [palF_true fun j hj => HA.out j (by omega)]
      rfl
theorem Vid.c77 {cs : Array Value} {f : Nat → Nat} (V : Vid cs f) : cs[12577]? = some (.int .u16 (f 12577 : Nat)) := V.2 _ (by decide)
theorem Vid.c78 {cs : Array Value} {f : Nat → Nat} (V : Vid cs f) : cs[12578]? = some (.int .u16 (f 12578 : Nat)) := V.2 _ (by decide)
theorem Vid.c79 {cs : Array Value} {f : Nat → Nat} (V : Vid cs f) : cs[12579]? = some (.int .u8 (f 12579 : Nat)) := V.2 _ (by decide)
set_option maxRecDepth 100000 in
theorem vfits_any (cs : Array Value) (f : Nat → Nat) (F : Fok f) (V : Vid cs f) (b : Nat) (w : World) (hb : Blk w b cs 28) :
    Calls Try.prog 21 #[.pointer (some ⟨b, 0, none⟩)] w fun e w' => e = .returned (.bool (fitF f)) ∧ w' = w := by
  have OA := fun (W : World) (hB : Hid (Blk W b cs 28)) => oamFits_any cs f F V b W hB.out
  have PA := fun (W : World) (hB : Hid (Blk W b cs 28)) => paletteFits_any cs f F V b W hB.out
  have HB : Hid (Blk w b cs 28) := hb
  have c7 : w.cell? ⟨b, 12577, none⟩ = some (.int .u16 (f 12577 : Nat)) := (hb.cell _).trans V.c77
  have c8 : w.cell? ⟨b, 12578, none⟩ = some (.int .u16 (f 12578 : Nat)) := (hb.cell _).trans V.c78
  have c9 : w.cell? ⟨b, 12579, none⟩ = some (.int .u8 (f 12579 : Nat)) := (hb.cell _).trans V.c79
  clear hb V F
  unfold fitF
  generalize f 12577 = x at *
  generalize f 12578 = y at *
  generalize f 12579 = z at *
  generalize oamF f = o at *
  generalize palF f = p at *
  by_cases h1 : x ≤ 32767
  · by_cases h2 : y ≤ 32767
    · by_cases h3 : z ≤ 7
      · rw [decide_eq_true h1, decide_eq_true h2, decide_eq_true h3]
        cases o
        all_goals
          go_enter Try.func21, Try.ntmps21
          go_wp2_with (first | (go_at_call 40; refine (OA _ HB).mono ?_; rintro e w1 ⟨rfl, rfl⟩) | (go_at_call 41; refine (PA _ HB).mono ?_; rintro e w1 ⟨rfl, rfl⟩))
          go_ret
          exact ⟨by simp, rfl⟩
      · rw [decide_eq_true h1, decide_eq_true h2, decide_eq_false h3]
        go_enter Try.func21, Try.ntmps21
        go_wp2
        go_ret
        exact ⟨by simp, rfl⟩
    · rw [decide_eq_true h1, decide_eq_false h2]
      go_enter Try.func21, Try.ntmps21
      go_wp2
      go_ret
      exact ⟨by simp, rfl⟩
  · rw [decide_eq_false h1]
    go_enter Try.func21, Try.ntmps21
    go_wp2
    go_ret
    exact ⟨by simp, rfl⟩
end Go.Proofs.Ytecaipakaaongaa
