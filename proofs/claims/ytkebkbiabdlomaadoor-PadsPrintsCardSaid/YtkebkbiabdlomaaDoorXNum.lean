/-
  The contracts of AppendUint and AppendInt.
-/
import Derived.Test.YtkebkbiabdlomaaDoorXTxt
import Derived.Test.YtkebkbiabdlomaaDoorXShelf
import Derived.Lib.AppendIntMem
import Derived.Lib.ItoaMem
set_option linter.unusedSimpArgs false
set_option linter.unusedVariables false
namespace Go.Proofs.YtkebkbiabdlomaaDoor
open Go.RowKit Classical
theorem internalUint_any (w : World) (base u : Nat) (v : Value) (l : List UInt8) (hu : u < 18446744073709551616) (hl : l.length ≤ 17592186044000) (hbase : base ≤ w.heap.size) (H : Txt w base v l) (htab : Lib.TabBelow Tryd.prog base w "internal/strconv.uint64pow10" .u64 Lib.pow10Tab) :
    Calls Tryd.prog 35 #[v, .int .u64 (u : Int), .int .i64 10] w fun e w' => ∃ v', Txt w' base v' (l ++ Lib.decDigits u) ∧ e = .returned v' ∧ Fr base w w' :=
  (Any.internal_strconv_AppendUint_10 Tryd.lays288 base l.length u hu v (Lib.byteCells l) w H hbase (by omega) htab.here).mono fun e w' h => by
    obtain ⟨v', he, ho, hb, hk⟩ := h
    exact ⟨v', by unfold Txt; rw [List.length_append, Lib.byteCells_append]; exact ho, he, hb, hk, Nat.le_trans hbase hb.size⟩
set_option maxRecDepth 100000 in
theorem appendUint_any (w : World) (base u : Nat) (v : Value) (l : List UInt8) (hu : u < 18446744073709551616) (hl : l.length ≤ 17592186044000) (hbase : base ≤ w.heap.size) (H : Txt w base v l) (htab : Lib.TabBelow Tryd.prog base w "internal/strconv.uint64pow10" .u64 Lib.pow10Tab) :
    Calls Tryd.prog 23 #[v, .int .u64 (u : Int), .int .i64 10] w fun e w' => ∃ v', Txt w' base v' (l ++ Lib.decDigits u) ∧ e = .returned v' ∧ Fr base w w' := by
  have HH : Hid (Txt _ _ _ _) := H
  have HT : Hid (Lib.TabBelow _ _ _ _ _ _) := htab
  clear H htab
  go_enter Tryd.func23, Tryd.ntmps23
  go_wp2_with (go_at_call 35; refine (internalUint_any w base u v l hu hl hbase HH.out HT.out).mono ?_; rintro e Wx ⟨v', hux, rfl, hbx⟩; clear HH HT)
  go_ret
  exact ⟨v', hux, rfl, hbx⟩
theorem appendInt_any (w : World) (base u : Nat) (v : Value) (l : List UInt8) (hu : u ≤ 9223372036854775807) (hl : l.length ≤ 17592186044000) (hbase : base ≤ w.heap.size) (H : Txt w base v l) (htab : Lib.TabBelow Tryd.prog base w "internal/strconv.uint64pow10" .u64 Lib.pow10Tab) :
    Calls Tryd.prog 25 #[v, .int .i64 (u : Int), .int .i64 10] w fun e w' => ∃ v', Txt w' base v' (l ++ Lib.decDigits u) ∧ e = .returned v' ∧ Fr base w w' :=
  (Any.strconv_AppendInt_10 Tryd.lays176 base l.length (u : Int) (by omega) (by omega) v (Lib.byteCells l) w H hbase (by omega) htab).mono fun e w' h => by
    obtain ⟨v', he, ho, hb, hk⟩ := h
    rw [Lib.itoa_nonneg] at ho
    exact ⟨v', by unfold Txt; rw [List.length_append, Lib.byteCells_append]; exact ho, he, hb, hk, Nat.le_trans hbase hb.size⟩
end Go.Proofs.YtkebkbiabdlomaaDoor
