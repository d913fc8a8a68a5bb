/-
  What the document's own answers of a video memory that is handed in; no conditions beyond its cells being what they are.
-/
import Derived.Test.YtecaipakaaongaaXvLeaf
set_option linter.unusedSimpArgs false
set_option linter.unusedVariables false
namespace Go.Proofs.Ytecaipakaaongaa
open Go.RowKit Classical
theorem entN_self (k : Nat) (hk : k < 32) : entN k = k ↔ ¬ (16 ≤ k ∧ k % 4 = 0) := by unfold entN; split <;> omega
set_option maxRecDepth 100000 in
set_option maxHeartbeats 1000000 in
theorem own_any (cs : Array Value) (f : Nat → Nat) (F : Fok f) (V : Vid cs f) (w : World) :
    Calls Try.prog 23 #[.agg cs] w fun e w' => e = .returned (.bool (fitF f)) ∧ Below w.heap.size w w' := by
  have hb0 : Below w.heap.size w (w.alloc (.cells cs 28)) := (Below.refl _ _).alloc (Nat.le_refl _) _
  have hb : Blk (w.alloc (.cells cs 28)) w.heap.size cs 28 := Blk.new w cs _
  obtain ⟨W, hW⟩ : ∃ W, W = w.alloc (.cells cs 28) := ⟨_, rfl⟩
  rw [← hW] at hb0 hb
  have c7 : W.cell? ⟨w.heap.size, 12577, none⟩ = some (.int .u16 (f 12577 : Nat)) := (hb.cell _).trans V.c77
  have c8 : W.cell? ⟨w.heap.size, 12578, none⟩ = some (.int .u16 (f 12578 : Nat)) := (hb.cell _).trans V.c78
  have c9 : W.cell? ⟨w.heap.size, 12579, none⟩ = some (.int .u8 (f 12579 : Nat)) := (hb.cell _).trans V.c79
  have HB : Hid _ := hb
  have HB0 : Hid _ := hb0
  clear hb hb0
  obtain ⟨x, hx⟩ : ∃ x, x = f 12577 := ⟨_, rfl⟩
  obtain ⟨y, hy⟩ : ∃ y, y = f 12578 := ⟨_, rfl⟩
  obtain ⟨z, hz⟩ : ∃ z, z = f 12579 := ⟨_, rfl⟩
  have E : Hid (fitF f = (decide (x ≤ 32767) && (decide (y ≤ 32767) && (decide (z ≤ 7) && (oamF f && palF f))))) := by unfold fitF; rw [← hx, ← hy, ← hz]; exact rfl
  rw [← hx] at c7
  rw [← hy] at c8
  rw [← hz] at c9
  clear hx hy hz
  obtain ⟨r, hr⟩ : ∃ r, r = fitF f := ⟨_, rfl⟩
  rw [← hr]
  have HR : Hid (r = (decide (x ≤ 32767) && (decide (y ≤ 32767) && (decide (z ≤ 7) && (oamF f && palF f))))) := hr.trans E.out
  clear hr E
  go_enter Try.func23, Try.ntmps23
  go_upto_region 1 with fail
  rw [← hW]
  clear hW
  rcases Classical.em (x ≤ 32767) with h1 | h1
  · have d1 : decide ((32768 : Int) ≤ (x : Int)) = false := decide_eq_false (by omega)
    rcases Classical.em (y ≤ 32767) with h2 | h2
    · have d2 : decide ((32768 : Int) ≤ (y : Int)) = false := decide_eq_false (by omega)
      rcases Classical.em (z ≤ 7) with h3 | h3
      · have d3 : decide ((7 : Int) < (z : Int)) = false := decide_eq_false (by omega)
        have HRR : Hid (r = (oamF f && palF f)) := by
          have := HR.out
          rw [decide_eq_true h1, decide_eq_true h2, decide_eq_true h3, Bool.true_and, Bool.true_and, Bool.true_and] at this
          exact this
        clear HR h1 h2 h3
        go_wp2
        clear c7 c8 c9 d1 d2 d3
        go_loop [3] (fun i => ∃ k : Nat, k ≤ 64 ∧ i = .int .i64 (4 * k + 2 : Nat) ∧ ∀ j, j < k → f (4 * j + 2) / 4 % 8 = 0) (fun i => 64 - ((intOf i).toNat - 2) / 4)
        case atStart => exact ⟨0, by omega, rfl, fun j hj => absurd hj (by omega)⟩
        case round =>
          obtain ⟨k, hk, rfl, hall⟩ := hrel
          have HA : Hid _ := hall
          clear hall
          obtain ⟨p, hp⟩ : ∃ p, p = 4 * k + 2 := ⟨_, rfl⟩
          rw [← hp]
          have hp1 : 2 ≤ p := by omega
          have hp2 : p ≤ 258 := by omega
          have HP : Hid (p = 4 * k + 2) := hp
          clear hp
          obtain ⟨x, hx⟩ : ∃ x, x = f p := ⟨_, rfl⟩
          have HX : Hid (x = f p) := hx
          have c : p < 12577 → W.cell? ⟨w.heap.size, p, none⟩ = some (.int .u8 (x : Nat)) := fun h => by rw [hx]; exact (Blk.cell HB.out _).trans (V.byte _ h)
          have hx2 : p < 12577 → x < 256 := fun h => by rw [hx]; exact F.b _ h
          clear hx
          by_cases hlt : p < 256
          · have c := c (by omega)
            have hx2 := hx2 (by omega)
            have ha := and28 x hx2
            by_cases hz : x / 4 % 8 = 0
            · have HZ : Hid (x / 4 % 8 = 0) := hz
              rw [hz] at ha
              clear hz hx2
              go_wp2
              go_round
              case rel =>
                refine ⟨k + 1, by have := HP.out; omega, ?_, fun j hj => ?_⟩
                · have := HP.out; go_num
                · by_cases e : j = k
                  · subst e; rw [← HP.out, ← HX.out]; exact HZ.out
                  · exact HA.out j (by omega)
              case measure => have := HP.out; simp [intOf]; omega
            · have HZ : Hid (¬ x / 4 % 8 = 0) := hz
              have hn : (((x / 4 % 8 * 4 : Nat) : Int) != 0) = true := by simp; omega
              generalize x / 4 % 8 * 4 = y at ha hn
              clear hz hx2
              go_wp2
              go_ret
              refine ⟨?_, HB0.out⟩
              rw [HRR.out, oamF_false k (by have := HP.out; omega) (by rw [← HP.out, ← HX.out]; exact HZ.out)]
              rfl
          · have HO : Hid (oamF f = true) := oamF_true fun j hj => HA.out j (by have := HP.out; omega)
            clear c hx2 HX HA
            go_wp2
            clear x HP
            go_loop [4] (fun i => ∃ k : Nat, k ≤ 32 ∧ i = .int .i64 k ∧ ∀ j, j < k → f (4353 + j) ≤ 63 ∧ (f (4353 + j) = 0 ∨ entN j = j)) (fun i => 32 - (intOf i).toNat)
            case atStart => exact ⟨0, by omega, rfl, fun j hj => absurd hj (by omega)⟩
            case round =>
              obtain ⟨k, hk, rfl, hall⟩ := hrel
              have HA : Hid _ := hall
              clear hall hp1 hp2 hlt
              by_cases hlt : k < 32
              · obtain ⟨x, hx⟩ : ∃ x, x = f (4353 + k) := ⟨_, rfl⟩
                have HX : Hid (x = f (4353 + k)) := hx
                have c : W.cell? ⟨w.heap.size, 4353 + k, none⟩ = some (.int .u8 (x : Nat)) := by rw [hx]; exact (Blk.cell HB.out _).trans (V.byte _ (by omega))
                clear hx
                have HE : Hid (entN k = k ↔ ¬ (16 ≤ k ∧ k % 4 = 0)) := entN_self k hlt
                have h4 : ((k : Int)).tmod 4 = ((k % 4 : Nat) : Int) := by rw [Int.tmod_eq_emod_of_nonneg (by omega)]; rfl
                obtain ⟨q, hq⟩ : ∃ q, q = k % 4 := ⟨_, rfl⟩
                rw [← hq] at h4
                have HQ : Hid (q = k % 4) := hq
                clear hq
                by_cases h1 : x ≤ 63
                · have d1 : decide ((63 : Int) < (x : Int)) = false := decide_eq_false (by omega)
                  have H1 : Hid (x ≤ 63) := h1
                  clear h1
                  by_cases h2 : 16 ≤ k
                  · have d2 : decide ((16 : Int) ≤ (k : Int)) = true := decide_eq_true (by omega)
                    have H2 : Hid (16 ≤ k) := h2
                    clear h2
                    by_cases h3 : q = 0
                    · have d3 : ((q : Int) == 0) = true := by rw [h3]; rfl
                      have H3 : Hid (k % 4 = 0) := HQ.out ▸ h3
                      clear h3
                      by_cases h5 : x = 0
                      · have d5 : ((x : Int) != 0) = false := by rw [h5]; rfl
                        have H5 : Hid (x = 0) := h5
                        clear h5
                        go_wp2
                        go_round
                        case rel =>
                          refine ⟨k + 1, by omega, by go_num, fun j hj => ?_⟩
                          by_cases e : j = k
                          · subst e; rw [← HX.out]; exact ⟨H1.out, .inl H5.out⟩
                          · exact HA.out j (by omega)
                        case measure => simp [intOf]; omega
                      · have d5 : ((x : Int) != 0) = true := by simp; omega
                        have H5 : Hid (¬ x = 0) := h5
                        clear h5
                        go_wp2
                        go_ret
                        refine ⟨?_, HB0.out⟩
                        rw [HRR.out, HO.out, palF_false k hlt (by rw [← HX.out]; intro hh; exact hh.2.elim H5.out fun q => HE.out.1 q ⟨H2.out, H3.out⟩)]
                        rfl
                    · have d3 : ((q : Int) == 0) = false := by simp; omega
                      have H3 : Hid (¬ k % 4 = 0) := HQ.out ▸ h3
                      clear h3
                      go_wp2
                      go_round
                      case rel =>
                        refine ⟨k + 1, by omega, by go_num, fun j hj => ?_⟩
                        by_cases e : j = k
                        · subst e; rw [← HX.out]; exact ⟨H1.out, .inr (HE.out.2 fun q => H3.out q.2)⟩
                        · exact HA.out j (by omega)
                      case measure => simp [intOf]; omega
                  · have d2 : decide ((16 : Int) ≤ (k : Int)) = false := decide_eq_false (by omega)
                    have H2 : Hid (¬ 16 ≤ k) := h2
                    clear h2
                    go_wp2
                    go_round
                    case rel =>
                      refine ⟨k + 1, by omega, by go_num, fun j hj => ?_⟩
                      by_cases e : j = k
                      · subst e; rw [← HX.out]; exact ⟨H1.out, .inr (HE.out.2 fun q => H2.out q.1)⟩
                      · exact HA.out j (by omega)
                    case measure => simp [intOf]; omega
                · have d1 : decide ((63 : Int) < (x : Int)) = true := decide_eq_true (by omega)
                  have H1 : Hid (¬ x ≤ 63) := h1
                  clear h1
                  go_wp2
                  go_ret
                  refine ⟨?_, HB0.out⟩
                  rw [HRR.out, HO.out, palF_false k hlt (by rw [← HX.out]; intro hh; exact H1.out hh.1)]
                  rfl
              · go_wp2
                go_ret
                refine ⟨?_, HB0.out⟩
                rw [HRR.out, HO.out, palF_true fun j hj => HA.out j (by omega)]
                rfl
      · have d3 : decide ((7 : Int) < (z : Int)) = true := decide_eq_true (by omega)
        have H1 : Hid (x ≤ 32767) := h1
        have H2 : Hid (y ≤ 32767) := h2
        have H3 : Hid (¬ z ≤ 7) := h3
        clear h1 h2 h3
        go_wp2
        go_ret
        exact ⟨by rw [HR.out, decide_eq_true H1.out, decide_eq_true H2.out, decide_eq_false H3.out]; simp, HB0.out⟩
    · have d2 : decide ((32768 : Int) ≤ (y : Int)) = true := decide_eq_true (by omega)
      have H1 : Hid (x ≤ 32767) := h1
      have H2 : Hid (¬ y ≤ 32767) := h2
      clear h1 h2
      go_wp2
      go_ret
      exact ⟨by rw [HR.out, decide_eq_true H1.out, decide_eq_false H2.out]; simp, HB0.out⟩
  · have d1 : decide ((32768 : Int) ≤ (x : Int)) = true := decide_eq_true (by omega)
    have H1 : Hid (¬ x ≤ 32767) := h1
    clear h1
    go_wp2
    go_ret
    exact ⟨by rw [HR.out, decide_eq_false H1.out]; simp, HB0.out⟩
end Go.Proofs.Ytecaipakaaongaa
