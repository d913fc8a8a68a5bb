/-
  The contract of the document's Print.
-/
import Derived.Test.YtkebkbiabdlomaaDoorXScr
import Derived.Test.YtkebkbiabdlomaaDoorXTold
import Derived.Lib.SlBytesConst
set_option linter.unusedSimpArgs false
set_option linter.unusedVariables false
namespace Go.Proofs.YtkebkbiabdlomaaDoor
open Go.RowKit Classical
theorem recT_pos (t : TuE) (n : Nat) : 0 < (recT t n).length := by
  unfold recT
  simp only [List.length_append, List.length_cons, List.length_nil]
  omega
theorem told_r {w : World} {n : Nat} {i : Int} {t : TuE} (ei : i = (n : Int)) (hn : n ≤ 9223372036854775807) (ok : t.Ok) :
    Calls Tryd.prog 18 #[.agg t.cells, .int .i64 i] w fun e w' => e = .returned (.string ⟨(recT t n).toArray⟩) ∧ Below w.heap.size w w' := by
  subst ei
  exact told_any w n t hn ok
set_option maxRecDepth 100000 in
set_option maxHeartbeats 1000000 in
theorem rprint_any (w : World) (a : Option Addr) (len cap : Nat) (q : Nat → TuE) (b o : Nat) (hlen : len ≤ 9223372036854775807) (T : Tu w a len q b o) :
    Calls Tryd.prog 8 #[.slice a len cap] w fun e w' => ∃ s r, PrIs q len s r ∧ e = .returned (.tuple #[.string ⟨s.toArray⟩, .int .i64 r]) ∧ Below w.heap.size w w' := by
  have kc := fun (w : World) (C : Array Value) (n c : Nat) => Lib.run_convert_bytes_const (P := Tryd.prog) w 42 5 C n c Tryd.underlying42 Tryd.underlying5
  go_enter Tryd.func8, Tryd.ntmps8
  by_cases hm : 4096 < len
  · have hm' : (4096 : Int) < (len : Int) := by omega
    clear kc
    go_wp2
    refine bodyPost_ret (v := .tuple #[.string ⟨#[]⟩, .int .i64 95]) (by simp [results, Tryd.results8, go_sem]) rfl ⟨[], 95, ⟨fun _ => ⟨rfl, rfl⟩, fun h => absurd h (by omega), fun h => absurd h (by omega), fun h => absurd h (by omega)⟩, rfl, Below.refl _ _⟩
  have hm' : ¬ (4096 : Int) < (len : Int) := by omega
  have HTu : Hid (Tu _ _ _ _ _ _) := T
  clear T
  go_upto_region 5 with fail
  clear kc
  go_loopw [4, 5] (fun y x wr => ∃ (i : Nat) (l : List UInt8), i ≤ len ∧ x = .int .i64 i ∧ Txm wr w.heap.size y (head ++ l) ∧ l.length ≤ 100 * i ∧ (∀ m, SR q len i m → SR q len 0 (l ++ m)) ∧ Below w.heap.size w wr) (fun _ x _ => len - (intOf x).toNat)
  case atStart =>
    have hb : Below w.heap.size w (w.alloc (.cells (Lib.byteCells head).toArray 5 (9, 10))) := (Below.refl _ _).alloc (Nat.le_refl _) _
    exact ⟨0, [], by omega, rfl, .inr ⟨w.heap.size, (9, 10), rfl, Nat.le_refl _, heap_alloc_new w _⟩, by simp, fun m h => h, hb⟩
  case round =>
    obtain ⟨i, l, hi, rfl, X, hl, hS, hb⟩ := hrel
    have HS : Hid (∀ m, SR q len i m → SR q len 0 (l ++ m)) := hS
    have HX : Hid (Txm _ _ _ _) := X
    clear X hS
    by_cases h0 : i < len
    · obtain ⟨rfl, hbw⟩ := HTu.out.at_ (by omega)
      obtain ⟨s, es⟩ : ∃ s, q i = s := ⟨_, rfl⟩
      have okt : Hid (s.Ok) := by unfold Hid; rw [← es]; exact HTu.out.ok i h0
      have HR : Hid (w.rangeAt b (o + i * 5) [.int .u32 s.bu, .int .u8 s.one, .int .u8 s.two, .bool s.fl, .bool s.rs]) := fun j v hv => HTu.out.cells i h0 j v (by rw [es]; exact hv)
      have ES : Hid (q i = s) := es
      clear es
      have h0' : (i : Int) < (len : Int) := by omega
      go_upto_region 7 with fail
      obtain ⟨wo, rfl⟩ : ∃ x, x = wr := ⟨wr, rfl⟩
      go_loopw [6] (fun z wz => ∃ k : Nat, (i ≤ k ∧ k ≤ len ∧ ∀ j, j < k - i → q (i + j) = q i) ∧ z = .int .i64 k ∧ Below wo.heap.size wo wz) (fun z _ => len - (intOf z).toNat)
      case atStart => exact ⟨i, ⟨Nat.le_refl _, hi, fun j hj => absurd hj (by omega)⟩, rfl, Below.refl _ _⟩
      case round =>
        obtain ⟨k, ⟨hik, hk, he⟩, rfl, hbz⟩ := hrel
        have hbWz : Below w.heap.size w wr := hb.trans (hbz.mono hb.size)
        have HE : Hid (∀ j, j < k - i → q (i + j) = q i) := he
        clear he
        by_cases hlt : k < len
        · obtain ⟨t, et⟩ : ∃ t, q k = t := ⟨_, rfl⟩
          have R1 : Hid (wr.rangeAt b (o + k * 5) t.cells.toList) := fun j v hv => (hbWz.cell (p := ⟨b, o + k * 5 + j, none⟩) hbw).trans (HTu.out.cells k hlt j v (by rw [et]; exact hv))
          have R2 : Hid (wr.rangeAt b (o + i * 5) s.cells.toList) := fun j v hv => (hbWz.cell (p := ⟨b, o + i * 5 + j, none⟩) hbw).trans (HR.out j v hv)
          have ET : Hid (q k = t) := et
          clear et
          have hk9 : (k : Int) + 1 ≤ 9223372036854775807 := by omega
          have hlt' : (k : Int) < (len : Int) := by omega
          have x0 : wr.cell? ⟨b, o + k * 5, none⟩ = some (.int .u32 t.bu) := R1.out 0 _ rfl
          have x1 : wr.cell? ⟨b, o + k * 5 + 1, none⟩ = some (.int .u8 t.one) := R1.out 1 _ rfl
          have x2 : wr.cell? ⟨b, o + k * 5 + 2, none⟩ = some (.int .u8 t.two) := R1.out 2 _ rfl
          have x3 : wr.cell? ⟨b, o + k * 5 + 3, none⟩ = some (.bool t.fl) := R1.out 3 _ rfl
          have x4 : wr.cell? ⟨b, o + k * 5 + 4, none⟩ = some (.bool t.rs) := R1.out 4 _ rfl
          have y0 : wr.cell? ⟨b, o + i * 5, none⟩ = some (.int .u32 s.bu) := R2.out 0 _ rfl
          have y1 : wr.cell? ⟨b, o + i * 5 + 1, none⟩ = some (.int .u8 s.one) := R2.out 1 _ rfl
          have y2 : wr.cell? ⟨b, o + i * 5 + 2, none⟩ = some (.int .u8 s.two) := R2.out 2 _ rfl
          have y3 : wr.cell? ⟨b, o + i * 5 + 3, none⟩ = some (.bool s.fl) := R2.out 3 _ rfl
          have y4 : wr.cell? ⟨b, o + i * 5 + 4, none⟩ = some (.bool s.rs) := R2.out 4 _ rfl
          have qN : ∀ W : World, (binOp .eql 25 (.agg #[.int .u32 t.bu, .int .u8 t.one, .int .u8 t.two, .bool t.fl, .bool t.rs]) (.agg #[.int .u32 s.bu, .int .u8 s.one, .int .u8 s.two, .bool s.fl, .bool s.rs])).run Tryd.prog W = .ok (.bool (decide (t = s))) W := fun W => eqlT W t s
          clear R1 R2
          by_cases hts : t = s
          · simp only [hts, decide_true] at qN
            subst hts
            go_upto_region 7 with fail
            go_quiet (fail)
            go_wp2
            go_roundw
            case rel => exact ⟨k + 1, ⟨by omega, by omega, fun j hj => by
                by_cases hj' : j < k - i
                · exact HE.out j hj'
                · rw [show i + j = k by omega, ET.out, ES.out]⟩, by go_num, below_draws hbz _⟩
            case measure => simp [intOf]; omega
          · simp only [hts, decide_false] at qN
            have hki : k ≠ i := fun h => hts (by rw [← ET.out, ← ES.out, h])
            have RI : RunIs (fun j => q (i + j)) (len - i) (k - i) := ⟨by omega, by omega, fun j hj => HE.out j hj, fun _ h => hts (by rw [← ET.out, ← ES.out]; simpa [show i + (k - i) = k by omega] using h)⟩
            have HRI : Hid (RunIs (fun j => q (i + j)) (len - i) (k - i)) := RI
            have k1 := RI.one
            clear RI
            have hkI : (0 : Int) ≤ (k : Int) - (i : Int) := by omega
            have hkJ : (k : Int) - (i : Int) ≤ 9223372036854775807 := by omega
            have hbD : ∀ n, Below w.heap.size w (wr.drewN n) := below_draws hbWz
            have HXz : ∀ n, Hid (Txm (wr.drewN n) w.heap.size u4 (head ++ l)) := fun n => HX.out.keep (Nat.le_refl _) (below_draws hbz n)
            have HRz : ∀ n, Hid ((wr.drewN n).rangeAt b (o + i * 5) [.int .u32 s.bu, .int .u8 s.one, .int .u8 s.two, .bool s.fl, .bool s.rs]) := fun n j v hv => ((hbD n).cell (p := ⟨b, o + i * 5 + j, none⟩) hbw).trans (HR.out j v hv)
            have hrl := recT_len s (k - i) okt.out (by omega)
            have hrp := recT_pos s (k - i)
            have hll : (head ++ l).length + (recT s (k - i)).length ≤ 17592186040000 := by rw [List.length_append]; show 9 + l.length + _ ≤ _; omega
            go_upto_region 7 with fail
            go_quiet (fail)
            go_wp2_with (first
              | (refine wpList_load_mid rfl 25 _ rfl b (o + i * 5) rfl [.int .u32 s.bu, .int .u8 s.one, .int .u8 s.two, .bool s.fl, .bool s.rs] _ (HRz _).out Tryd.underlying25 rfl (by kernel_rfl) ?_)
              | (go_at_call 18; refine (told_r (n := k - i) (i := (k : Int) - (i : Int)) (t := s) (by omega) (by omega) okt.out).mono ?_; rintro e W1 ⟨rfl, hb1⟩; have hbW1 := (hbD _).trans (hb1.mono (hbD _).size); have HX1 := ((HXz _).out).keep (Nat.le_refl _) hb1; clear hb1)
              | (at_builtin; refine wpList_appM rfl _ _ rfl (m := recT s (k - i)) HX1 (Fr.refl hbW1.size) rfl rfl hrp (by omega) ?_; intro v2 W2 H2 F2; clear HX1))
            go_roundw
            case rel => exact ⟨k, l ++ recT s (k - i), hk, rfl, .inl (by rw [← List.append_assoc]; exact H2), by rw [List.length_append]; omega, fun m hm => by
                rw [List.append_assoc]
                refine HS.out _ ?_
                rw [← ES.out]
                refine SR.step HRI.out ?_
                rw [show i + (k - i) = k by omega]
                exact hm, hbW1.trans F2.below⟩
            case measure => simp [intOf]; omega
        · obtain rfl : k = len := by omega
          have RI : RunIs (fun j => q (i + j)) (k - i) (k - i) := ⟨by omega, by omega, fun j hj => HE.out j hj, fun h => absurd h (by omega)⟩
          have HRI : Hid (RunIs (fun j => q (i + j)) (k - i) (k - i)) := RI
          have k1 := RI.one
          clear RI
          have hkI : (0 : Int) ≤ (k : Int) - (i : Int) := by omega
          have hkJ : (k : Int) - (i : Int) ≤ 9223372036854775807 := by omega
          have hbD : ∀ n, Below w.heap.size w (wr.drewN n) := below_draws hbWz
          have HXz : ∀ n, Hid (Txm (wr.drewN n) w.heap.size u4 (head ++ l)) := fun n => HX.out.keep (Nat.le_refl _) (below_draws hbz n)
          have HRz : ∀ n, Hid ((wr.drewN n).rangeAt b (o + i * 5) [.int .u32 s.bu, .int .u8 s.one, .int .u8 s.two, .bool s.fl, .bool s.rs]) := fun n j v hv => ((hbD n).cell (p := ⟨b, o + i * 5 + j, none⟩) hbw).trans (HR.out j v hv)
          have hrl := recT_len s (k - i) okt.out (by omega)
          have hrp := recT_pos s (k - i)
          have hll : (head ++ l).length + (recT s (k - i)).length ≤ 17592186040000 := by rw [List.length_append]; show 9 + l.length + _ ≤ _; omega
          go_upto_region 7 with fail
          go_quiet (fail)
          go_wp2_with (first
            | (refine wpList_load_mid rfl 25 _ rfl b (o + i * 5) rfl [.int .u32 s.bu, .int .u8 s.one, .int .u8 s.two, .bool s.fl, .bool s.rs] _ (HRz _).out Tryd.underlying25 rfl (by kernel_rfl) ?_)
            | (go_at_call 18; refine (told_r (n := k - i) (i := (k : Int) - (i : Int)) (t := s) (by omega) (by omega) okt.out).mono ?_; rintro e W1 ⟨rfl, hb1⟩; have hbW1 := (hbD _).trans (hb1.mono (hbD _).size); have HX1 := ((HXz _).out).keep (Nat.le_refl _) hb1; clear hb1)
            | (at_builtin; refine wpList_appM rfl _ _ rfl (m := recT s (k - i)) HX1 (Fr.refl hbW1.size) rfl rfl hrp (by omega) ?_; intro v2 W2 H2 F2; clear HX1))
          go_roundw
          case rel => exact ⟨k, l ++ recT s (k - i), hk, rfl, .inl (by rw [← List.append_assoc]; exact H2), by rw [List.length_append]; omega, fun m hm => by
              rw [List.append_assoc]
              refine HS.out _ ?_
              rw [← ES.out]
              refine SR.step HRI.out ?_
              rw [show i + (k - i) = k by omega]
              exact hm, hbW1.trans F2.below⟩
          case measure => simp [intOf]; omega
    · obtain rfl : i = len := by omega
      obtain ⟨ta, tc, rfl⟩ := HX.out.len
      have hcv := HX.out.str (by rw [List.length_append]; show 0 < 9 + l.length; omega)
      have e9 : (head ++ l).length = 9 + l.length := by rw [List.length_append]; rfl
      rw [e9] at hcv
      simp only [e9]
      have hsr := HS.out [] SR.done
      rw [List.append_nil] at hsr
      have HSR : Hid (SR q i 0 l) := hsr
      clear hsr
      by_cases hk : 65536 < 9 + l.length
      · have hk' : (65536 : Int) < ((9 + l.length : Nat) : Int) := by omega
        go_wp2
        refine bodyPost_ret (v := .tuple #[.string ⟨#[]⟩, .int .i64 1]) (by simp [results, Tryd.results8, go_sem]) rfl ⟨[], 1, ⟨fun h => absurd h (by omega), fun _ m hs h => ⟨rfl, rfl⟩, fun _ m hs h => by rw [SR.same hs _ HSR.out] at h; omega, fun _ => ⟨l, HSR.out⟩⟩, rfl, hb⟩
      · have hk' : ¬ (65536 : Int) < ((9 + l.length : Nat) : Int) := by omega
        go_wp2
        refine bodyPost_ret (v := .tuple #[.string ⟨(head ++ l).toArray⟩, .int .i64 0]) (by simp [results, Tryd.results8, go_sem]) rfl ⟨head ++ l, 0, ⟨fun h => absurd h (by omega), fun _ m hs h => by rw [SR.same hs _ HSR.out] at h; omega, fun _ m hs h => ⟨by rw [SR.same hs _ HSR.out], rfl⟩, fun _ => ⟨l, HSR.out⟩⟩, rfl, hb⟩
end Go.Proofs.YtkebkbiabdlomaaDoor
