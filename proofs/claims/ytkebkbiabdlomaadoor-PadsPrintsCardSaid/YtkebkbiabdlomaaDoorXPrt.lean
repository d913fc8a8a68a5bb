/-
  The contract of Print.
-/
import Derived.Test.YtkebkbiabdlomaaDoorXScr
import Derived.Lib.SlBytesConst
set_option linter.unusedSimpArgs false
set_option linter.unusedVariables false
namespace Go.Proofs.YtkebkbiabdlomaaDoor
open Go.RowKit Classical
set_option maxRecDepth 100000 in
set_option maxHeartbeats 1000000 in
theorem print_any (w : World) (a : Option Addr) (len cap : Nat) (q : Nat → TuE) (b o : Nat) (hlen : len ≤ 9223372036854775807) (hcap : len ≤ cap) (T : Tu w a len q b o) (htab : Lib.TabIs Tryd.prog w "internal/strconv.uint64pow10" .u64 Lib.pow10Tab) :
    Calls Tryd.prog 7 #[.slice a len cap] w fun e w' => ∃ s r, PrIs q len s r ∧ e = .returned (.tuple #[.string ⟨s.toArray⟩, .int .i64 r]) ∧ Below w.heap.size w w' := by
  have kc := fun (w : World) (C : Array Value) (n c : Nat) => Lib.run_convert_bytes_const (P := Tryd.prog) w 42 5 C n c Tryd.underlying42 Tryd.underlying5
  go_enter Tryd.func7, Tryd.ntmps7
  by_cases hm : 4096 < len
  · have hm' : (4096 : Int) < (len : Int) := by omega
    clear kc
    go_wp2
    refine bodyPost_ret (v := .tuple #[.string ⟨#[]⟩, .int .i64 95]) (by simp [results, Tryd.results7, go_sem]) rfl ⟨[], 95, ⟨fun _ => ⟨rfl, rfl⟩, fun h => absurd h (by omega), fun h => absurd h (by omega), fun h => absurd h (by omega)⟩, rfl, Below.refl _ _⟩
  have hm' : ¬ (4096 : Int) < (len : Int) := by omega
  have tab0 := Lib.tabBelow_of_tabIs htab
  clear htab
  have HT : Hid (Lib.TabBelow _ _ _ _ _ _) := tab0
  clear tab0
  have HTu : Hid (Tu _ _ _ _ _ _) := T
  clear T
  go_upto_region 4 with fail
  clear kc
  go_loopw [0, 4] (fun x y wr => ∃ (i : Nat) (l : List UInt8) (ai : Option Addr), i ≤ len ∧ x = .slice ai (len - i : Nat) (cap - i : Nat) ∧ Tu wr ai (len - i) (fun j => q (i + j)) b (o + i * 5) ∧ Txm wr w.heap.size y (head ++ l) ∧ l.length ≤ 100 * i ∧ (∀ m, SR q len i m → SR q len 0 (l ++ m)) ∧ Below w.heap.size w wr) (fun x _ _ => match x with | .slice _ n _ => n | _ => 0)
  case atStart =>
    have T := HTu.out
    have hb : Below w.heap.size w (w.alloc (.cells (Lib.byteCells head).toArray 5 (9, 10))) := (Below.refl _ _).alloc (Nat.le_refl _) _
    refine ⟨0, [], a, by omega, rfl, ?_, ?_, by simp, fun m h => h, hb⟩
    · simp only [Nat.sub_zero, Nat.zero_add, Nat.zero_mul, Nat.add_zero]
      exact T.on (B := w.heap.size) (fun h => (T.at_ h).2) hb.size hb
    · exact .inr ⟨w.heap.size, (9, 10), rfl, Nat.le_refl _, heap_alloc_new w _⟩
  case round =>
    obtain ⟨i, l, ai, hi, rfl, T, X, hl, hS, hb⟩ := hrel
    obtain ⟨L, eL⟩ : ∃ L, len - i = L := ⟨_, rfl⟩
    obtain ⟨C, eC⟩ : ∃ C, cap - i = C := ⟨_, rfl⟩
    rw [eL] at T
    simp only [eL, eC]
    have HS : Hid (∀ m, SR q len i m → SR q len 0 (l ++ m)) := hS
    have HX : Hid (Txm _ _ _ _) := X
    have H1 : Hid (Tu wr ai L (fun j => q (i + j)) b (o + i * 5)) := T
    clear T X hS
    by_cases h0 : 0 < L
    · obtain ⟨rfl, hb1⟩ := H1.out.at_ h0
      have hbw := (HTu.out.at_ (by omega)).2
      obtain ⟨t, et⟩ : ∃ t, q i = t := ⟨_, rfl⟩
      have okt : Hid (t.Ok) := by unfold Hid; rw [← et]; exact H1.out.ok 0 h0
      have HR : Hid (wr.rangeAt b (o + i * 5) [.int .u32 t.bu, .int .u8 t.one, .int .u8 t.two, .bool t.fl, .bool t.rs]) := fun j v hv => by have := H1.out.cells 0 h0 j v (by show (q i).cells.toList[j]? = _; rw [et]; exact hv); simpa using this
      have ET : Hid (q i = t) := et
      clear et
      obtain ⟨oi, eo⟩ : ∃ oi, o + i * 5 = oi := ⟨_, rfl⟩
      rw [eo] at H1 HR
      simp only [eo]
      have h0' : (0 : Int) < (L : Int) := by omega
      have hL : L ≤ 9223372036854775807 := by omega
      go_upto_region 6 with (go_at_call 16; refine (runOf_any wr _ L C (fun j => q (i + j)) b oi hL h0 H1.out).mono ?_; rintro e W1 ⟨n, HN, rfl, hb2⟩)
      have HN' : Hid (RunIs (fun j => q (i + j)) L n) := HN
      obtain ⟨n1, nL, _, _⟩ := HN
      have HR1 : Hid (W1.rangeAt b oi [.int .u32 t.bu, .int .u8 t.one, .int .u8 t.two, .bool t.fl, .bool t.rs]) := fun j v hv => (hb2.cell (p := ⟨b, oi + j, none⟩) hb1).trans (HR.out j v hv)
      have HX1 : Hid (Txm W1 w.heap.size u4 (head ++ l)) := HX.out.keep (Nat.le_refl _) hb2
      have hbW1 : Below w.heap.size w W1 := hb.trans (hb2.mono hb.size)
      have HB : Hid (Below wr.heap.size wr W1) := hb2
      have hll : (head ++ l).length ≤ 17592186040000 := by rw [List.length_append]; show 9 + l.length ≤ _; omega
      clear HX HR hb2
      go_upto_region 7 with (first
        | (refine wpList_load_mid rfl 25 _ rfl b oi rfl [.int .u32 t.bu, .int .u8 t.one, .int .u8 t.two, .bool t.fl, .bool t.rs] _ HR1.out Tryd.underlying25 rfl (by kernel_rfl) ?_)
        | (go_at_call 17; refine (appendRecord_any W1 w.heap.size n u4 (head ++ l) t (by omega) hll hbW1.size HX1.out okt.out (HT.out.on hbW1)).mono ?_; rintro e W2 ⟨v2, ⟨H2, F2⟩, rfl⟩))
      have hn0 : (0 : Int) ≤ (n : Int) := by omega
      have hnL : (n : Int) ≤ (L : Int) := by omega
      have hnC : (n : Int) ≤ (C : Int) := by omega
      go_wp2
      have hbr : Below w.heap.size wr W2 := (HB.out.mono hb.size).trans F2.below
      refine ⟨⟨i + n, l ++ recT t n, (if C = n then some ⟨b, oi, none⟩ else some ⟨b, oi + n * 5, none⟩), by omega, ?val, ?tu, ?txm, ?len, ?sr, hbW1.trans F2.below⟩, ?meas⟩
      case val => rw [← eL, ← eC, Nat.sub_sub, Nat.sub_sub]
      case tu =>
        have T2 := (H1.out.on (B := w.heap.size) (fun _ => hbw) hbr.size hbr).drop n (if C = n then some ⟨b, oi, none⟩ else some ⟨b, oi + n * 5, none⟩) (fun h => if_neg (by omega))
        rw [show len - (i + n) = L - n by omega, show o + (i + n) * 5 = oi + n * 5 by omega, show (fun j => q (i + n + j)) = fun j => q (i + (n + j)) from funext fun j => by rw [Nat.add_assoc]]
        exact T2
      case txm => exact .inl (by rw [← List.append_assoc]; exact H2)
      case len =>
        rw [List.length_append]
        have := recT_len t n okt.out (by omega)
        omega
      case sr =>
        intro m hm
        rw [List.append_assoc]
        refine HS.out _ ?_
        rw [← ET.out]
        exact SR.step (by rw [eL]; exact HN'.out) hm
      case meas =>
        show L - n < L
        omega
    · obtain rfl : L = 0 := by omega
      obtain rfl : i = len := by omega
      obtain ⟨ta, tc, rfl⟩ := HX.out.len
      have hcv := HX.out.str (by rw [List.length_append]; show 0 < 9 + l.length; omega)
      have e9 : (head ++ l).length = 9 + l.length := by rw [List.length_append]; rfl
      rw [e9] at hcv
      simp only [e9]
      have hsr := HS.out [] SR.done
      rw [List.append_nil] at hsr
      have HSR : Hid (SR q i 0 l) := hsr
      clear hsr
      by_cases hk : 65536 < 9 + l.length
      · have hk' : (65536 : Int) < ((9 + l.length : Nat) : Int) := by omega
        go_wp2
        refine bodyPost_ret (v := .tuple #[.string ⟨#[]⟩, .int .i64 1]) (by simp [results, Tryd.results7, go_sem]) rfl ⟨[], 1, ⟨fun h => absurd h (by omega), fun _ m hs h => ⟨rfl, rfl⟩, fun _ m hs h => by rw [SR.same hs _ HSR.out] at h; omega, fun _ => ⟨l, HSR.out⟩⟩, rfl, hb⟩
      · have hk' : ¬ (65536 : Int) < ((9 + l.length : Nat) : Int) := by omega
        go_wp2
        refine bodyPost_ret (v := .tuple #[.string ⟨(head ++ l).toArray⟩, .int .i64 0]) (by simp [results, Tryd.results7, go_sem]) rfl ⟨head ++ l, 0, ⟨fun h => absurd h (by omega), fun _ m hs h => by rw [SR.same hs _ HSR.out] at h; omega, fun _ m hs h => ⟨by rw [SR.same hs _ HSR.out], rfl⟩, fun _ => ⟨l, HSR.out⟩⟩, rfl, hb⟩
end Go.Proofs.YtkebkbiabdlomaaDoor
