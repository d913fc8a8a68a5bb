/-
  seen of the laws of xlate.
-/
import Derived.Test.YtfdiplgjiidnbaaDoorXlExits
set_option linter.unusedSimpArgs false
set_option linter.unusedVariables false
namespace Go.Proofs.YtfdiplgjiidnbaaDoor
open Go.RowKit Classical
theorem drop_at {l : List Mic} {j : Nat} {q : Mic} (h : l[j]? = some q) : l.drop j = q :: l.drop (j + 1) := by
  obtain ⟨hj, rfl⟩ := List.getElem?_eq_some_iff.1 h
  exact List.drop_eq_getElem_cons hj
theorem has_cases (x f : Int) : (hasB x f = true ∧ ∃ z, bits .and .u8 x f = z ∧ (z != 0) = true ∧ (z == 0) = false) ∨ (hasB x f = false ∧ bits .and .u8 x f = 0) := by
  unfold hasB
  by_cases h : bits .and .u8 x f = 0
  · right; rw [h]; exact ⟨rfl, rfl⟩
  · left; exact ⟨by simpa using h, _, rfl, by simpa using h, by simpa using h⟩
set_option maxRecDepth 100000 in
set_option maxHeartbeats 8000000 in
theorem seen_any (l : List Mic) (n at0 n0 : Nat) (f : Int) (base g cap : Nat) (w : World) (hn : l.length = n) (hn9 : n ≤ 1000) (R : w.ownsRow base 35 7 (.slice (some ⟨g, 0, none⟩) n cap) n (mflat l)) (hat : at0 < n) (q0 : Mic) (hq0 : l[at0]? = some q0) (hn0 : q0.num = n0) (T : Tabs w) :
    Calls Tryd.prog 14 #[.slice (some ⟨g, 0, none⟩) n cap, .int .i64 (at0 : Nat), .int .u8 f] w fun e w' => e = .returned (.bool (seenB n0 f (l.drop at0))) ∧ Below w.heap.size w w' := by
  have HR : Hid (w.ownsRow base 35 7 (.slice (some ⟨g, 0, none⟩) n cap) n (mflat l)) := R
  have hgl := (orow_base R).2.1
  have HL : Hid (l.length = n) := hn
  have HQ : Hid (l[at0]? = some q0) := hq0
  have HN0 : Hid (q0.num = n0) := hn0
  have HT : Hid (Tabs w) := T
  clear R hn hq0 hn0 T
  have EN : Hid (∀ W, Below w.heap.size w W → W.cell? ⟨g, at0 * 7 + 5, none⟩ = some (.int .i64 ((n0 : Nat) : Int))) := fun W hb => by
    rw [hb.cell (p := ⟨g, at0 * 7 + 5, none⟩) hgl, orow_cell HR.out (at0 * 7 + 5) (by omega), mflat_at HQ.out 5 (by decide), ← HN0.out]; rfl
  go_enter Tryd.func14, Tryd.ntmps14
  go_upto_region 2 with fail
  go_loopw [7] (fun i wr => ∃ j : Nat, at0 ≤ j ∧ j ≤ n ∧ i = .int .i64 (j : Nat) ∧ Hid (seenB n0 f (l.drop at0) = seenB n0 f (l.drop j)) ∧ Below w.heap.size w wr) (fun i _ => n - (intOf i).toNat)
  case atStart => exact ⟨at0, Nat.le_refl _, by omega, rfl, rfl, Below.refl _ _⟩
  case round =>
    obtain ⟨j, hj1, hj2, rfl, HS, hb⟩ := hrel
    by_cases hlt : j < n
    · obtain ⟨q, hq⟩ : ∃ q, l[j]? = some q := ⟨_, List.getElem?_eq_getElem (by rw [HL.out]; exact hlt)⟩
      have e1 : ∀ t, t < 7 → wr.cell? ⟨g, j * 7 + t, none⟩ = q.cells[t]? := fun t ht => by
        rw [hb.cell (p := ⟨g, j * 7 + t, none⟩) hgl, orow_cell HR.out (j * 7 + t) (by omega)]; exact mflat_at hq t ht
      have HD : Hid (l.drop j = q :: l.drop (j + 1)) := drop_at hq
      have HJ : Hid (j = at0 → q.num = n0) := fun e => by subst e; rw [HQ.out] at hq; rw [← HN0.out]; exact congrArg Mic.num (Option.some.inj hq).symm
      have y0 : wr.cell? ⟨g, j * 7, none⟩ = some (.int .u8 ((q.kd : Nat) : Int)) := e1 0 (by decide)
      have y1 : wr.cell? ⟨g, j * 7 + 1, none⟩ = some (.int .i64 q.op) := e1 1 (by decide)
      have y2 : wr.cell? ⟨g, j * 7 + 2, none⟩ = some (.int .i64 ((q.md : Nat) : Int)) := e1 2 (by decide)
      have y3 : wr.cell? ⟨g, j * 7 + 3, none⟩ = some (.int .u16 q.arg) := e1 3 (by decide)
      have y4 : wr.cell? ⟨g, j * 7 + 4, none⟩ = some (.int .u8 q.fl) := e1 4 (by decide)
      have y5 : wr.cell? ⟨g, j * 7 + 5, none⟩ = some (.int .i64 ((q.num : Nat) : Int)) := e1 5 (by decide)
      have y6 : wr.cell? ⟨g, j * 7 + 6, none⟩ = some (.int .i64 ((q.cyc : Nat) : Int)) := e1 6 (by decide)
      obtain ⟨kd, op, md, arg, fl, num, cyc⟩ := q
      simp only at y0 y1 y2 y3 y4 y5 y6
      clear e1 hq
      have hlti : (j : Int) < (n : Int) := by omega
      have hati : (at0 : Int) < (n : Int) := by omega
      go_upto_region 5 with fail
      clear y0 y1 y2 y3 y4 y5 y6
      have hB1 : Below w.heap.size w (wr.alloc (.cells #[.int .u8 ((kd : Nat) : Int), .int .i64 op, .int .i64 ((md : Nat) : Int), .int .u16 arg, .int .u8 fl, .int .i64 ((num : Nat) : Int), .int .i64 ((cyc : Nat) : Int)] 35)) := hb.alloc hb.size _
      have Z1 : Blk (wr.alloc (.cells #[.int .u8 ((kd : Nat) : Int), .int .i64 op, .int .i64 ((md : Nat) : Int), .int .u16 arg, .int .u8 fl, .int .i64 ((num : Nat) : Int), .int .i64 ((cyc : Nat) : Int)] 35)) wr.heap.size #[.int .u8 ((kd : Nat) : Int), .int .i64 op, .int .i64 ((md : Nat) : Int), .int .u16 arg, .int .u8 fl, .int .i64 ((num : Nat) : Int), .int .i64 ((cyc : Nat) : Int)] 35 := Blk.new wr _ _
      have hbs := hb.size
      generalize wr.alloc (.cells #[.int .u8 ((kd : Nat) : Int), .int .i64 op, .int .i64 ((md : Nat) : Int), .int .u16 arg, .int .u8 fl, .int .i64 ((num : Nat) : Int), .int .i64 ((cyc : Nat) : Int)] 35) = W1 at *
      have eN := EN.out W1 hB1
      have x0 : W1.cell? ⟨wr.heap.size, 0, none⟩ = some (.int .u8 ((kd : Nat) : Int)) := Z1.cell 0
      have x1 : W1.cell? ⟨wr.heap.size, 1, none⟩ = some (.int .i64 op) := Z1.cell 1
      have x5 : W1.cell? ⟨wr.heap.size, 5, none⟩ = some (.int .i64 ((num : Nat) : Int)) := Z1.cell 5
      have HZ : Hid (Blk W1 wr.heap.size #[.int .u8 ((kd : Nat) : Int), .int .i64 op, .int .i64 ((md : Nat) : Int), .int .u16 arg, .int .u8 fl, .int .i64 ((num : Nat) : Int), .int .i64 ((cyc : Nat) : Int)] 35) := Z1
      have NDC : Hid (∀ W, Below w.heap.size w W → Calls _ _ _ W _) := fun W hbW => needs_any op W (HT.out.on hbW)
      have STC : Hid (∀ W, Below w.heap.size w W → Calls _ _ _ W _) := fun W hbW => sets_any op W (HT.out.on hbW).s
      clear Z1 hb
      obtain ⟨bq, hbq⟩ : ∃ bq, wr.heap.size = bq := ⟨_, rfl⟩
      rw [hbq] at x0 x1 x5 HZ hbs ⊢
      clear hbq
      by_cases hc : num = n0
      · subst hc
        have cN : (((num : Nat) : Int) != ((num : Nat) : Int)) = false := by simp
        have cE : (((num : Nat) : Int) == ((num : Nat) : Int)) = true := by simp
        by_cases ja : (at0 : Int) < (j : Int)
        · skip
          go_cut [32] (fun v wx => v = .bool false ∧ ∃ m, wx = W1.drewN m)
          case first =>
            skip
            go_quiet (fail)
            go_wp2
            go_meet
            exact ⟨rfl, _, rfl⟩
          case rest =>
          obtain ⟨rfl, m1, hwc⟩ := hcut
          rw [hwc]
          clear hwc
          have hB2 : Below w.heap.size w (W1.drewN m1) := below_drawsX hB1 m1
          replace x0 : (W1.drewN m1).cell? ⟨bq, 0, none⟩ = some (.int .u8 ((kd : Nat) : Int)) := x0
          replace x1 : (W1.drewN m1).cell? ⟨bq, 1, none⟩ = some (.int .i64 op) := x1
          replace x5 : (W1.drewN m1).cell? ⟨bq, 5, none⟩ = some (.int .i64 ((num : Nat) : Int)) := x5
          replace eN : (W1.drewN m1).cell? ⟨g, at0 * 7 + 5, none⟩ = some (.int .i64 ((num : Nat) : Int)) := eN
          replace HZ : Hid (Blk (W1.drewN m1) bq #[.int .u8 ((kd : Nat) : Int), .int .i64 op, .int .i64 ((md : Nat) : Int), .int .u16 arg, .int .u8 fl, .int .i64 ((num : Nat) : Int), .int .i64 ((cyc : Nat) : Int)] 35) := HZ
          generalize W1.drewN m1 = W2 at *
          clear hB1
          skip
          by_cases hk5 : kd = 5
          · subst hk5
            have HV : Hid (seenB num f (l.drop at0) = true) := by
              unfold Hid; rw [HS.out, HD.out, seenB]; simp []
            go_upto_region 12 with fail
            go_quiet (fail)
            go_wp2
            go_ret
            exact ⟨by rw [HV.out]; rfl, below_drawsX hB2 _⟩
          have fk5 : (((kd : Nat) : Int) == 5) = false := by rw [beq_eq_false_iff_ne]; omega
          by_cases hk6 : kd = 6
          · subst hk6
            have HV : Hid (seenB num f (l.drop at0) = true) := by
              unfold Hid; rw [HS.out, HD.out, seenB]; simp []
            go_upto_region 12 with fail
            go_quiet (fail)
            go_wp2
            go_ret
            exact ⟨by rw [HV.out]; rfl, below_drawsX hB2 _⟩
          have fk6 : (((kd : Nat) : Int) == 6) = false := by rw [beq_eq_false_iff_ne]; omega
          by_cases hk11 : kd = 11
          · subst hk11
            have HV : Hid (seenB num f (l.drop at0) = true) := by
              unfold Hid; rw [HS.out, HD.out, seenB]; simp []
            go_upto_region 12 with fail
            go_quiet (fail)
            go_wp2
            go_ret
            exact ⟨by rw [HV.out]; rfl, below_drawsX hB2 _⟩
          have fk11 : (((kd : Nat) : Int) == 11) = false := by rw [beq_eq_false_iff_ne]; omega
          have HV : Hid (seenB num f (l.drop at0) = seenB num f (l.drop (j + 1))) := by
            unfold Hid; rw [HS.out, HD.out, seenB]; simp [hk5, hk6, hk11]
          go_upto_region 14 with fail
          go_quiet (fail)
          go_wp2
          go_roundw
          case rel => first | exact ⟨j + 1, by omega, by omega, by go_num, HV, below_drawsX hB2 _⟩ | ((repeat apply Exists.intro); refine ⟨?_, rfl⟩; exact ⟨j + 1, by omega, by omega, by go_num, HV, below_drawsX hB2 _⟩)
          case measure => simp [intOf]; omega
        · skip
          go_cut [32] (fun v wx => v = .bool false ∧ ∃ m, wx = W1.drewN m)
          case first =>
            skip
            go_quiet (fail)
            go_wp2
            go_meet
            exact ⟨rfl, _, rfl⟩
          case rest =>
          obtain ⟨rfl, m1, hwc⟩ := hcut
          rw [hwc]
          clear hwc
          have hB2 : Below w.heap.size w (W1.drewN m1) := below_drawsX hB1 m1
          replace x0 : (W1.drewN m1).cell? ⟨bq, 0, none⟩ = some (.int .u8 ((kd : Nat) : Int)) := x0
          replace x1 : (W1.drewN m1).cell? ⟨bq, 1, none⟩ = some (.int .i64 op) := x1
          replace x5 : (W1.drewN m1).cell? ⟨bq, 5, none⟩ = some (.int .i64 ((num : Nat) : Int)) := x5
          replace eN : (W1.drewN m1).cell? ⟨g, at0 * 7 + 5, none⟩ = some (.int .i64 ((num : Nat) : Int)) := eN
          replace HZ : Hid (Blk (W1.drewN m1) bq #[.int .u8 ((kd : Nat) : Int), .int .i64 op, .int .i64 ((md : Nat) : Int), .int .u16 arg, .int .u8 fl, .int .i64 ((num : Nat) : Int), .int .i64 ((cyc : Nat) : Int)] 35) := HZ
          generalize W1.drewN m1 = W2 at *
          clear hB1
          skip
          by_cases hk5 : kd = 5
          · subst hk5
            have HV : Hid (seenB num f (l.drop at0) = true) := by
              unfold Hid; rw [HS.out, HD.out, seenB]; simp []
            go_upto_region 12 with fail
            go_quiet (fail)
            go_wp2
            go_ret
            exact ⟨by rw [HV.out]; rfl, below_drawsX hB2 _⟩
          have fk5 : (((kd : Nat) : Int) == 5) = false := by rw [beq_eq_false_iff_ne]; omega
          by_cases hk6 : kd = 6
          · subst hk6
            have HV : Hid (seenB num f (l.drop at0) = true) := by
              unfold Hid; rw [HS.out, HD.out, seenB]; simp []
            go_upto_region 12 with fail
            go_quiet (fail)
            go_wp2
            go_ret
            exact ⟨by rw [HV.out]; rfl, below_drawsX hB2 _⟩
          have fk6 : (((kd : Nat) : Int) == 6) = false := by rw [beq_eq_false_iff_ne]; omega
          by_cases hk11 : kd = 11
          · subst hk11
            have HV : Hid (seenB num f (l.drop at0) = true) := by
              unfold Hid; rw [HS.out, HD.out, seenB]; simp []
            go_upto_region 12 with fail
            go_quiet (fail)
            go_wp2
            go_ret
            exact ⟨by rw [HV.out]; rfl, below_drawsX hB2 _⟩
          have fk11 : (((kd : Nat) : Int) == 11) = false := by rw [beq_eq_false_iff_ne]; omega
          have HV : Hid (seenB num f (l.drop at0) = seenB num f (l.drop (j + 1))) := by
            unfold Hid; rw [HS.out, HD.out, seenB]; simp [hk5, hk6, hk11]
          go_upto_region 14 with fail
          go_quiet (fail)
          go_wp2
          go_roundw
          case rel => first | exact ⟨j + 1, by omega, by omega, by go_num, HV, below_drawsX hB2 _⟩ | ((repeat apply Exists.intro); refine ⟨?_, rfl⟩; exact ⟨j + 1, by omega, by omega, by go_num, HV, below_drawsX hB2 _⟩)
          case measure => simp [intOf]; omega
      · have ja : (at0 : Int) < (j : Int) := by
          have := mt HJ.out hc; omega
        have cN : (((num : Nat) : Int) != ((n0 : Nat) : Int)) = true := by simp; omega
        have cE : (((num : Nat) : Int) == ((n0 : Nat) : Int)) = false := by rw [beq_eq_false_iff_ne]; omega
        go_cut [32] (fun v wx => v = .bool true ∧ ∃ m, wx = W1.drewN m)
        case first =>
          skip
          go_quiet (fail)
          go_wp2
          go_meet
          exact ⟨rfl, _, rfl⟩
        case rest =>
        obtain ⟨rfl, m1, hwc⟩ := hcut
        rw [hwc]
        clear hwc
        have hB2 : Below w.heap.size w (W1.drewN m1) := below_drawsX hB1 m1
        replace x0 : (W1.drewN m1).cell? ⟨bq, 0, none⟩ = some (.int .u8 ((kd : Nat) : Int)) := x0
        replace x1 : (W1.drewN m1).cell? ⟨bq, 1, none⟩ = some (.int .i64 op) := x1
        replace x5 : (W1.drewN m1).cell? ⟨bq, 5, none⟩ = some (.int .i64 ((num : Nat) : Int)) := x5
        replace eN : (W1.drewN m1).cell? ⟨g, at0 * 7 + 5, none⟩ = some (.int .i64 ((n0 : Nat) : Int)) := eN
        replace HZ : Hid (Blk (W1.drewN m1) bq #[.int .u8 ((kd : Nat) : Int), .int .i64 op, .int .i64 ((md : Nat) : Int), .int .u16 arg, .int .u8 fl, .int .i64 ((num : Nat) : Int), .int .i64 ((cyc : Nat) : Int)] 35) := HZ
        generalize W1.drewN m1 = W2 at *
        clear hB1
        have EX : Hid (Calls _ _ _ W2 _) := exits_any kd md num cyc op arg fl W2
        rcases Bool.eq_false_or_eq_true (exB ⟨kd, op, md, arg, fl, num, cyc⟩) with hex | hex
        · skip
          have HV : Hid (seenB n0 f (l.drop at0) = true) := by
            unfold Hid; rw [HS.out, HD.out, seenB]; simp [hc, hex]
          rw [hex] at EX
          go_wp2_with (first
            | (refine wpList_load_mid rfl 35 _ rfl bq 0 rfl (#[.int .u8 ((kd : Nat) : Int), .int .i64 op, .int .i64 ((md : Nat) : Int), .int .u16 arg, .int .u8 fl, .int .i64 ((num : Nat) : Int), .int .i64 ((cyc : Nat) : Int)] : Array Value).toList _ HZ.out.range' Tryd.underlying35 rfl (by kernel_rfl) ?_; rw [Array.toArray_toList])
            | (go_at_call 31; go_must (refine EX.out.mono ?_; rintro e W3 ⟨rfl, hb3⟩)))
          go_ret
          exact ⟨by rw [HV.out]; rfl, hB2.trans (hb3.mono hB2.size)⟩
        · skip
          rw [hex] at EX
          go_upto_region 8 with (first
            | (refine wpList_load_mid rfl 35 _ rfl bq 0 rfl (#[.int .u8 ((kd : Nat) : Int), .int .i64 op, .int .i64 ((md : Nat) : Int), .int .u16 arg, .int .u8 fl, .int .i64 ((num : Nat) : Int), .int .i64 ((cyc : Nat) : Int)] : Array Value).toList _ HZ.out.range' Tryd.underlying35 rfl (by kernel_rfl) ?_; rw [Array.toArray_toList])
            | (go_at_call 31; go_must (refine EX.out.mono ?_; rintro e W3 ⟨rfl, hb3⟩)))
          clear EX
          have hB3 := hB2.trans (hb3.mono hB2.size)
          replace x0 := (hb3.cell (p := ⟨bq, 0, none⟩) (cell_lt x0)).trans x0
          replace x1 := (hb3.cell (p := ⟨bq, 1, none⟩) (cell_lt x1)).trans x1
          replace x5 := (hb3.cell (p := ⟨bq, 5, none⟩) (cell_lt x5)).trans x5
          replace eN := (hb3.cell (p := ⟨g, at0 * 7 + 5, none⟩) (cell_lt eN)).trans eN
          clear hb3 hB2 HZ
          by_cases hk4 : kd = 4
          · subst hk4
            rcases has_cases (nd op) f with ⟨hnf, z, ez, z1, z2⟩ | ⟨hnf, ez⟩
            · skip
              have HV : Hid (seenB n0 f (l.drop at0) = true) := by
                unfold Hid; rw [HS.out, HD.out, seenB]; simp [hc, hex, hnf]
              clear STC
              go_wp2_with (go_at_call 32; go_must (refine (NDC.out _ hB3).mono ?_; rintro e W4 ⟨rfl, hw4⟩; obtain rfl := hw4.symm))
              go_ret
              exact ⟨by rw [HV.out]; rfl, hB3⟩
            · skip
              go_upto_region 11 with (go_at_call 32; go_must (refine (NDC.out _ hB3).mono ?_; rintro e W4 ⟨rfl, hw4⟩; obtain rfl := hw4.symm))
              clear NDC ez
              rcases has_cases (st op) f with ⟨hsf, z, ez, z1, z2⟩ | ⟨hsf, ez⟩
              · skip
                have HV : Hid (seenB n0 f (l.drop at0) = false) := by
                  unfold Hid; rw [HS.out, HD.out, seenB]; simp [hc, hex, hnf, hsf]
                go_upto_region 14 with fail
                go_quiet ((go_at_call 13; exact Calls.quiet_of_same (STC.out _ (below_drawsX hB3 _))))
                go_wp2
                go_ret
                exact ⟨by rw [HV.out]; rfl, below_drawsX hB3 _⟩
              · skip
                have HV : Hid (seenB n0 f (l.drop at0) = seenB n0 f (l.drop (j + 1))) := by
                  unfold Hid; rw [HS.out, HD.out, seenB]; simp [hc, hex, hnf, hsf]
                go_upto_region 14 with fail
                go_quiet ((go_at_call 13; exact Calls.quiet_of_same (STC.out _ (below_drawsX hB3 _))))
                go_wp2
                go_roundw
                case rel => first | exact ⟨j + 1, by omega, by omega, by go_num, HV, below_drawsX hB3 _⟩ | ((repeat apply Exists.intro); refine ⟨?_, rfl⟩; exact ⟨j + 1, by omega, by omega, by go_num, HV, below_drawsX hB3 _⟩)
                case measure => simp [intOf]; omega
          have fk4 : (((kd : Nat) : Int) == 4) = false := by rw [beq_eq_false_iff_ne]; omega
          by_cases hk8 : kd = 8
          · subst hk8
            rcases has_cases (nd op) f with ⟨hnf, z, ez, z1, z2⟩ | ⟨hnf, ez⟩
            · skip
              have HV : Hid (seenB n0 f (l.drop at0) = true) := by
                unfold Hid; rw [HS.out, HD.out, seenB]; simp [hc, hex, hnf]
              clear STC
              go_wp2_with (go_at_call 32; go_must (refine (NDC.out _ hB3).mono ?_; rintro e W4 ⟨rfl, hw4⟩; obtain rfl := hw4.symm))
              go_ret
              exact ⟨by rw [HV.out]; rfl, hB3⟩
            · skip
              go_upto_region 11 with (go_at_call 32; go_must (refine (NDC.out _ hB3).mono ?_; rintro e W4 ⟨rfl, hw4⟩; obtain rfl := hw4.symm))
              clear NDC ez
              have HV : Hid (seenB n0 f (l.drop at0) = seenB n0 f (l.drop (j + 1))) := by
                unfold Hid; rw [HS.out, HD.out, seenB]; simp [hc, hex, hnf]
              go_upto_region 14 with fail
              go_quiet (fail)
              go_wp2
              go_roundw
              case rel => first | exact ⟨j + 1, by omega, by omega, by go_num, HV, below_drawsX hB3 _⟩ | ((repeat apply Exists.intro); refine ⟨?_, rfl⟩; exact ⟨j + 1, by omega, by omega, by go_num, HV, below_drawsX hB3 _⟩)
              case measure => simp [intOf]; omega
          have fk8 : (((kd : Nat) : Int) == 8) = false := by rw [beq_eq_false_iff_ne]; omega
          clear NDC
          go_upto_region 11 with fail
          by_cases hk5 : kd = 5
          · subst hk5
            rcases has_cases (st op) f with ⟨hsf, z, ez, z1, z2⟩ | ⟨hsf, ez⟩
            · skip
              have HV : Hid (seenB n0 f (l.drop at0) = seenB n0 f (l.drop (j + 1))) := by
                unfold Hid; rw [HS.out, HD.out, seenB]; simp [hc, hex, hsf]
              go_upto_region 12 with fail
              go_cut [77] (fun v wx => v = .bool false ∧ ∃ m, wx = W3.drewN m)
              case first =>
                go_quiet ((go_at_call 13; exact Calls.quiet_of_same (STC.out _ (below_drawsX hB3 _))))
                go_wp2
                go_meet
                exact ⟨rfl, _, rfl⟩
              case rest =>
              obtain ⟨rfl, m2, hwc⟩ := hcut
              rw [hwc]
              clear hwc STC
              have hB4 : Below w.heap.size w (W3.drewN m2) := below_drawsX hB3 m2
              replace x0 : (W3.drewN m2).cell? ⟨bq, 0, none⟩ = some (.int .u8 5) := x0
              replace x5 : (W3.drewN m2).cell? ⟨bq, 5, none⟩ = some (.int .i64 ((num : Nat) : Int)) := x5
              replace eN : (W3.drewN m2).cell? ⟨g, at0 * 7 + 5, none⟩ = some (.int .i64 ((n0 : Nat) : Int)) := eN
              clear x1
              generalize W3.drewN m2 = W4 at *
              clear hB3
              go_upto_region 14 with fail
              go_quiet (fail)
              go_wp2
              go_roundw
              case rel => first | exact ⟨j + 1, by omega, by omega, by go_num, HV, below_drawsX hB4 _⟩ | ((repeat apply Exists.intro); refine ⟨?_, rfl⟩; exact ⟨j + 1, by omega, by omega, by go_num, HV, below_drawsX hB4 _⟩)
              case measure => simp [intOf]; omega
            · skip
              have HV : Hid (seenB n0 f (l.drop at0) = true) := by
                unfold Hid; rw [HS.out, HD.out, seenB]; simp [hc, hex, hsf]
              go_upto_region 12 with fail
              go_quiet ((go_at_call 13; exact Calls.quiet_of_same (STC.out _ (below_drawsX hB3 _))))
              go_wp2
              go_ret
              exact ⟨by rw [HV.out]; rfl, below_drawsX hB3 _⟩
          have fk5 : (((kd : Nat) : Int) == 5) = false := by rw [beq_eq_false_iff_ne]; omega
          by_cases hk6 : kd = 6
          · subst hk6
            rcases has_cases (st op) f with ⟨hsf, z, ez, z1, z2⟩ | ⟨hsf, ez⟩
            · skip
              have HV : Hid (seenB n0 f (l.drop at0) = seenB n0 f (l.drop (j + 1))) := by
                unfold Hid; rw [HS.out, HD.out, seenB]; simp [hc, hex, hsf]
              go_upto_region 12 with fail
              go_cut [77] (fun v wx => v = .bool false ∧ ∃ m, wx = W3.drewN m)
              case first =>
                go_quiet ((go_at_call 13; exact Calls.quiet_of_same (STC.out _ (below_drawsX hB3 _))))
                go_wp2
                go_meet
                exact ⟨rfl, _, rfl⟩
              case rest =>
              obtain ⟨rfl, m2, hwc⟩ := hcut
              rw [hwc]
              clear hwc STC
              have hB4 : Below w.heap.size w (W3.drewN m2) := below_drawsX hB3 m2
              replace x0 : (W3.drewN m2).cell? ⟨bq, 0, none⟩ = some (.int .u8 6) := x0
              replace x5 : (W3.drewN m2).cell? ⟨bq, 5, none⟩ = some (.int .i64 ((num : Nat) : Int)) := x5
              replace eN : (W3.drewN m2).cell? ⟨g, at0 * 7 + 5, none⟩ = some (.int .i64 ((n0 : Nat) : Int)) := eN
              clear x1
              generalize W3.drewN m2 = W4 at *
              clear hB3
              go_upto_region 14 with fail
              go_quiet (fail)
              go_wp2
              go_roundw
              case rel => first | exact ⟨j + 1, by omega, by omega, by go_num, HV, below_drawsX hB4 _⟩ | ((repeat apply Exists.intro); refine ⟨?_, rfl⟩; exact ⟨j + 1, by omega, by omega, by go_num, HV, below_drawsX hB4 _⟩)
              case measure => simp [intOf]; omega
            · skip
              have HV : Hid (seenB n0 f (l.drop at0) = true) := by
                unfold Hid; rw [HS.out, HD.out, seenB]; simp [hc, hex, hsf]
              go_upto_region 12 with fail
              go_quiet ((go_at_call 13; exact Calls.quiet_of_same (STC.out _ (below_drawsX hB3 _))))
              go_wp2
              go_ret
              exact ⟨by rw [HV.out]; rfl, below_drawsX hB3 _⟩
          have fk6 : (((kd : Nat) : Int) == 6) = false := by rw [beq_eq_false_iff_ne]; omega
          by_cases hk11 : kd = 11
          · subst hk11
            rcases has_cases (st op) f with ⟨hsf, z, ez, z1, z2⟩ | ⟨hsf, ez⟩
            · skip
              have HV : Hid (seenB n0 f (l.drop at0) = seenB n0 f (l.drop (j + 1))) := by
                unfold Hid; rw [HS.out, HD.out, seenB]; simp [hc, hex, hsf]
              go_upto_region 12 with fail
              go_cut [77] (fun v wx => v = .bool false ∧ ∃ m, wx = W3.drewN m)
              case first =>
                go_quiet ((go_at_call 13; exact Calls.quiet_of_same (STC.out _ (below_drawsX hB3 _))))
                go_wp2
                go_meet
                exact ⟨rfl, _, rfl⟩
              case rest =>
              obtain ⟨rfl, m2, hwc⟩ := hcut
              rw [hwc]
              clear hwc STC
              have hB4 : Below w.heap.size w (W3.drewN m2) := below_drawsX hB3 m2
              replace x0 : (W3.drewN m2).cell? ⟨bq, 0, none⟩ = some (.int .u8 11) := x0
              replace x5 : (W3.drewN m2).cell? ⟨bq, 5, none⟩ = some (.int .i64 ((num : Nat) : Int)) := x5
              replace eN : (W3.drewN m2).cell? ⟨g, at0 * 7 + 5, none⟩ = some (.int .i64 ((n0 : Nat) : Int)) := eN
              clear x1
              generalize W3.drewN m2 = W4 at *
              clear hB3
              go_upto_region 14 with fail
              go_quiet (fail)
              go_wp2
              go_roundw
              case rel => first | exact ⟨j + 1, by omega, by omega, by go_num, HV, below_drawsX hB4 _⟩ | ((repeat apply Exists.intro); refine ⟨?_, rfl⟩; exact ⟨j + 1, by omega, by omega, by go_num, HV, below_drawsX hB4 _⟩)
              case measure => simp [intOf]; omega
            · skip
              have HV : Hid (seenB n0 f (l.drop at0) = true) := by
                unfold Hid; rw [HS.out, HD.out, seenB]; simp [hc, hex, hsf]
              go_upto_region 12 with fail
              go_quiet ((go_at_call 13; exact Calls.quiet_of_same (STC.out _ (below_drawsX hB3 _))))
              go_wp2
              go_ret
              exact ⟨by rw [HV.out]; rfl, below_drawsX hB3 _⟩
          have fk11 : (((kd : Nat) : Int) == 11) = false := by rw [beq_eq_false_iff_ne]; omega
          have HV : Hid (seenB n0 f (l.drop at0) = seenB n0 f (l.drop (j + 1))) := by
            unfold Hid; rw [HS.out, HD.out, seenB]; simp [hc, hex, hk4, hk8, hk5, hk6, hk11]
          clear STC
          go_upto_region 14 with fail
          go_quiet (fail)
          go_wp2
          go_roundw
          case rel => first | exact ⟨j + 1, by omega, by omega, by go_num, HV, below_drawsX hB3 _⟩ | ((repeat apply Exists.intro); refine ⟨?_, rfl⟩; exact ⟨j + 1, by omega, by omega, by go_num, HV, below_drawsX hB3 _⟩)
          case measure => simp [intOf]; omega
    · obtain rfl : j = n := by omega
      have HV : Hid (seenB n0 f (l.drop at0) = true) := by
        unfold Hid; rw [HS.out, List.drop_of_length_le (by rw [HL.out]; exact Nat.le_refl _)]; rfl
      go_wp2
      go_ret
      exact ⟨by rw [HV.out]; rfl, hb⟩
end Go.Proofs.YtfdiplgjiidnbaaDoor
