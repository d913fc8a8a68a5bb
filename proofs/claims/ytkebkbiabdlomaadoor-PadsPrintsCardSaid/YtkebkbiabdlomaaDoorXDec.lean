/-
  The contract of the document's decimal.
-/
import Derived.Test.YtkebkbiabdlomaaDoorXTxt
set_option linter.unusedSimpArgs false
set_option linter.unusedVariables false
namespace Go.Proofs.YtkebkbiabdlomaaDoor
open Go.RowKit Classical
theorem str_app (a b : List UInt8) : (⟨a.toArray⟩ : ByteArray) ++ ⟨b.toArray⟩ = ⟨(a ++ b).toArray⟩ := by
  apply ByteArray.ext
  simp
theorem run_digit (W : World) (n : Nat) (hn : n < 10) : (convert 42 9 (.slice (some ⟨W.heap.size, 0, none⟩) 1 1)).run Tryd.prog (W.alloc (.cells #[.int .u8 (48 + (n : Int))] 5)) = .ok (.string ⟨#[UInt8.ofNat (48 + n)]⟩) (W.alloc (.cells #[.int .u8 (48 + (n : Int))] 5)) := by
  refine run_convert_bytes_back _ 42 9 5 ⟨W.heap.size, 0, none⟩ 1 [UInt8.ofNat (48 + n)] (by kernel_rfl) (by kernel_rfl) (by kernel_rfl) fun j hj => ?_
  obtain rfl : j = 0 := by simpa using hj
  have e : (UInt8.ofNat (48 + n)).toNat = 48 + n := by simp; omega
  simp [Addr.add]
  omega
theorem dec_len (u : Nat) (h : u < 10 ^ 20) : (Lib.decDigits u).length ≤ 20 := by
  have key : ∀ k u, u < 10 ^ (k + 1) → (Lib.decDigits u).length ≤ k + 1 := by
    intro k
    induction k with
    | zero => intro u hu; rw [Lib.decDigits, dif_pos (by simpa using hu)]; simp
    | succ k ih =>
      intro u hu
      rw [Lib.decDigits]
      split
      · simp
      · rw [List.length_append]
        have := ih (u / 10) (by rw [Nat.pow_succ] at hu; omega)
        simp; omega
  exact key 19 u h
set_option maxRecDepth 100000 in
set_option maxHeartbeats 2000000 in
theorem decimal_any (w : World) (n0 : Nat) (h0 : n0 ≤ 9223372036854775807) :
    Calls Tryd.prog 26 #[.int .i64 (n0 : Int)] w fun e w' => e = .returned (.string ⟨(Lib.decDigits n0).toArray⟩) ∧ Below w.heap.size w w' := by
  go_enter Tryd.func26, Tryd.ntmps26
  go_upto_region 2 with fail
  go_loopw [0, 3] (fun x s wr => ∃ (n : Nat) (l : List UInt8), n ≤ 9223372036854775807 ∧ x = .int .i64 n ∧ s = .string ⟨l.toArray⟩ ∧ Lib.decDigits n0 = Lib.decDigits n ++ l ∧ Below w.heap.size w wr) (fun x _ _ => (intOf x).toNat)
  case atStart => exact ⟨n0, [], h0, rfl, rfl, by simp, Below.refl _ _⟩
  case round =>
    obtain ⟨n, l, hn, rfl, rfl, hE, hb⟩ := hrel
    have hsz : 1 + l.length ≤ 9223372036854775807 := by
      have h1 := congrArg List.length hE
      have h2 := dec_len n0 (by omega)
      rw [List.length_append] at h1
      omega
    have HE : Hid (Lib.decDigits n0 = Lib.decDigits n ++ l) := hE
    clear hE
    by_cases h10 : 10 ≤ n
    · have hcv := run_digit wr (n % 10) (by omega)
      have e1 : ((n % 10 : Nat) : Int) = (n : Int) % 10 := by omega
      rw [e1] at hcv
      have hD : Hid (Lib.decDigits n = Lib.decDigits (n / 10) ++ [UInt8.ofNat (48 + n % 10)]) := by
        unfold Hid; rw [Lib.decDigits, dif_neg (by omega)]
      obtain ⟨d, hd⟩ : ∃ d, UInt8.ofNat (48 + n % 10) = d := ⟨_, rfl⟩
      rw [hd] at hcv hD
      clear hd
      go_wp2
      go_roundw
      case rel =>
        refine ⟨n / 10, [d] ++ l, by omega, by go_num, ?_, by rw [HE.out, hD.out, List.append_assoc], hb.alloc hb.size _⟩
        rw [← str_app]
      case measure => simp [intOf]; omega
    · have hcv := run_digit wr n (by omega)
      have hD : Hid (Lib.decDigits n = [UInt8.ofNat (48 + n)]) := by
        unfold Hid; rw [Lib.decDigits, dif_pos (by omega)]
      obtain ⟨d, hd⟩ : ∃ d, UInt8.ofNat (48 + n) = d := ⟨_, rfl⟩
      rw [hd] at hcv hD
      clear hd
      have h11 : ¬ (10 : Int) ≤ (n : Int) := by omega
      go_wp2
      go_ret
      refine ⟨?_, hb.alloc hb.size _⟩
      rw [HE.out, hD.out, ← str_app]
      rfl
end Go.Proofs.YtkebkbiabdlomaaDoor
