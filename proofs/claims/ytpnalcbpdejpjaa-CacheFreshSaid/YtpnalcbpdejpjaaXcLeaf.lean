/-
  Sizes; a block without a list.
-/
import Derived.Test.YtpnalcbpdejpjaaXcPut
import Derived.Laws.StructEq
set_option linter.unusedSimpArgs false
set_option linter.unusedVariables false
namespace Go.Proofs.Ytpnalcbpdejpjaa
open Go.RowKit Classical
set_option maxRecDepth 100000 in
set_option maxHeartbeats 4000000 in
theorem ssize_any (q N : Nat) (a : Option Addr) (k : Nat) (w : World) (c : w.cell? ⟨q, 0, none⟩ = some (.slice a N k)) :
    Calls Try.prog 61 #[.pointer (some ⟨q, 0, none⟩)] w fun e w' => e = .returned (.int .i64 ((N : Nat) : Int)) ∧ w' = w := by
  go_enter Try.func61, Try.ntmps61
  go_wp2
  go_ret
  exact ⟨rfl, rfl⟩
set_option maxRecDepth 100000 in
set_option maxHeartbeats 4000000 in
theorem slength_any (q N : Nat) (a : Option Addr) (k : Nat) (w : World) (c : w.cell? ⟨q, 1, none⟩ = some (.slice a N k)) :
    Calls Try.prog 43 #[.pointer (some ⟨q, 0, none⟩)] w fun e w' => e = .returned (.int .i64 ((N : Nat) : Int)) ∧ w' = w := by
  go_enter Try.func43, Try.ntmps43
  go_wp2
  go_ret
  exact ⟨rfl, rfl⟩
set_option maxRecDepth 100000 in
set_option maxHeartbeats 4000000 in
theorem csize_any (q N : Nat) (a : Option Addr) (k : Nat) (w : World) (c : w.cell? ⟨q, 0, none⟩ = some (.slice a N k)) :
    Calls Try.prog 36 #[.pointer (some ⟨q, 0, none⟩)] w fun e w' => e = .returned (.int .i64 ((N : Nat) : Int)) ∧ w' = w := by
  have SZ : Hid (Calls _ _ _ w _) := ssize_any q N a k w c
  clear c
  go_enter Try.func36, Try.ntmps36
  go_wp2_with (go_at_call 61; go_must (refine SZ.out.mono ?_; rintro e W1 ⟨rfl, hw⟩; obtain rfl := hw.symm))
  go_ret
  exact ⟨rfl, rfl⟩
set_option maxRecDepth 100000 in
set_option maxHeartbeats 4000000 in
theorem clen_any (q N : Nat) (a : Option Addr) (k : Nat) (w : World) (c : w.cell? ⟨q, 1, none⟩ = some (.slice a N k)) :
    Calls Try.prog 15 #[.pointer (some ⟨q, 0, none⟩)] w fun e w' => e = .returned (.int .i64 ((N : Nat) : Int)) ∧ w' = w := by
  have SZ : Hid (Calls _ _ _ w _) := slength_any q N a k w c
  clear c
  go_enter Try.func15, Try.ntmps15
  go_wp2_with (go_at_call 43; go_must (refine SZ.out.mono ?_; rintro e W1 ⟨rfl, hw⟩; obtain rfl := hw.symm))
  go_ret
  exact ⟨rfl, rfl⟩
set_option maxRecDepth 100000 in
set_option maxHeartbeats 4000000 in
theorem copied_nil (pc tag : Int) (s : ByteArray) (ni lo hi : Int) (w : World) :
    Calls Try.prog 38 #[.agg #[.int .u16 pc, .int .i64 tag, .string s, .int .i64 ni, .slice none 0 0, .int .i64 lo, .int .i64 hi]] w fun e w' => e = .returned (.agg #[.int .u16 pc, .int .i64 tag, .string s, .int .i64 ni, .slice none 0 0, .int .i64 lo, .int .i64 hi]) ∧ Below w.heap.size w w' := by
  go_enter Try.func38, Try.ntmps38
  go_upto_region 1 with fail
  have hb0 : Below w.heap.size w ((w.alloc (.cells #[.int .u16 pc, .int .i64 tag, .string s, .int .i64 ni, .slice none 0 0, .int .i64 lo, .int .i64 hi] 34)).alloc (.cells #[.int .u16 0, .int .i64 0, .string ⟨#[]⟩, .int .i64 0, .slice none 0 0, .int .i64 0, .int .i64 0] 34)) := ((Below.refl _ _).alloc (Nat.le_refl _) _).alloc (by simp) _
  have z1 : Blk ((w.alloc (.cells #[.int .u16 pc, .int .i64 tag, .string s, .int .i64 ni, .slice none 0 0, .int .i64 lo, .int .i64 hi] 34)).alloc (.cells #[.int .u16 0, .int .i64 0, .string ⟨#[]⟩, .int .i64 0, .slice none 0 0, .int .i64 0, .int .i64 0] 34)) w.heap.size #[.int .u16 pc, .int .i64 tag, .string s, .int .i64 ni, .slice none 0 0, .int .i64 lo, .int .i64 hi] 34 := (Blk.new w #[.int .u16 pc, .int .i64 tag, .string s, .int .i64 ni, .slice none 0 0, .int .i64 lo, .int .i64 hi] 34).old _
  have z2 : Blk ((w.alloc (.cells #[.int .u16 pc, .int .i64 tag, .string s, .int .i64 ni, .slice none 0 0, .int .i64 lo, .int .i64 hi] 34)).alloc (.cells #[.int .u16 0, .int .i64 0, .string ⟨#[]⟩, .int .i64 0, .slice none 0 0, .int .i64 0, .int .i64 0] 34)) (w.heap.size + 1) #[.int .u16 0, .int .i64 0, .string ⟨#[]⟩, .int .i64 0, .slice none 0 0, .int .i64 0, .int .i64 0] 34 := by
    have := Blk.new (w.alloc (.cells #[.int .u16 pc, .int .i64 tag, .string s, .int .i64 ni, .slice none 0 0, .int .i64 lo, .int .i64 hi] 34)) #[.int .u16 0, .int .i64 0, .string ⟨#[]⟩, .int .i64 0, .slice none 0 0, .int .i64 0, .int .i64 0] 34
    simpa using this
  generalize (w.alloc (.cells #[.int .u16 pc, .int .i64 tag, .string s, .int .i64 ni, .slice none 0 0, .int .i64 lo, .int .i64 hi] 34)).alloc (.cells #[.int .u16 0, .int .i64 0, .string ⟨#[]⟩, .int .i64 0, .slice none 0 0, .int .i64 0, .int .i64 0] 34) = W0 at *
  have EQ : ∀ W : World, (binOp .eql 32 (.slice none 0 0) (.slice none 0 0)).run Try.prog W = .ok (.bool true) W := fun W => run_eql_nil_slice W 32 _ none 0 0 0 0 Try.underlying32
  have c4 : W0.cell? ⟨w.heap.size, 4, none⟩ = some (.slice none 0 0) := z1.cell 4
  go_upto_region 2 with fail
  go_wp2_with (first
    | (refine wpList_load_blk rfl 34 _ rfl w.heap.size rfl #[.int .u16 pc, .int .i64 tag, .string s, .int .i64 ni, .slice none 0 0, .int .i64 lo, .int .i64 hi] _ z1 Try.underlying34 rfl (by kernel_rfl) ?_)
    | (refine wpList_store_mid rfl 34 _ _ rfl (w.heap.size + 1) 0 #[.int .u16 pc, .int .i64 tag, .string s, .int .i64 ni, .slice none 0 0, .int .i64 lo, .int .i64 hi] rfl rfl (z2.there' 7 rfl) (by kernel_rfl) (by kernel_rfl) ?_))
  have z5 : Blk (W0.setCells (w.heap.size + 1) 0 (#[.int .u16 pc, .int .i64 tag, .string s, .int .i64 ni, .slice none 0 0, .int .i64 lo, .int .i64 hi] : Array Value).toList) (w.heap.size + 1) #[.int .u16 pc, .int .i64 tag, .string s, .int .i64 ni, .slice none 0 0, .int .i64 lo, .int .i64 hi] 34 := z2.setAll rfl
  refine ret_agg1 (m := w.heap.size + 1) (L := #[.int .u16 pc, .int .i64 tag, .string s, .int .i64 ni, .slice none 0 0, .int .i64 lo, .int .i64 hi]) Try.results38 (by kernel_rfl) (by kernel_rfl) z5 Try.underlying34 rfl (by kernel_rfl) ?_
  exact ⟨rfl, setCells_below' (by omega) _ _ _ _ hb0⟩
section
variable {P : Program} (w : World)
theorem eqFields_step {d : Nat} {xs ys : Array Value} {f : Field} {fs : List Field} {a b : Value} {r r' : Bool} (hn : (f.name ≠ "_") = True) (hx : (part f.type xs f.offset).run P w = .ok a w) (hy : (part f.type ys f.offset).run P w = .ok b w)
    (he : (Op.equalIn d f.type a b).run P w = .ok r w) (hr : (Op.eqFields d xs ys fs).run P w = .ok r' w) : (Op.eqFields d xs ys (f :: fs)).run P w = .ok (r && r') w := by
  simp only [Op.eqFields, hn, if_true, Sem.run_bind, hx, hy, he, Result.andThen_ok]
  cases r
  · simp
  · simpa using hr
end
theorem eqKey0 (w : World) (a b c d : Int) : (Op.equalIn 10000 24 (.agg #[.int .u16 a, .int .i64 b]) (.agg #[.int .u16 c, .int .i64 d])).run Try.prog w = .ok ((a == c) && (b == d)) w := by
  have h0 := fun (a b : Int) => run_equalIn_int (P := Try.prog) w 9998 22 .u16 .u16 a b Try.underlying22
  have h1 := fun (a b : Int) => run_equalIn_int (P := Try.prog) w 9998 3 .i64 .i64 a b Try.underlying3
  rw [run_equalIn_struct w 9999 24 _ _ (by kernel_rfl) (by kernel_rfl)]
  simp only [Program.fieldsOf, Try.underlying24]
  refine Eq.trans (b := .ok ((a == c) && ((b == d) && true)) w) ?_ ?_
  · refine eqFields_step w (by simp) (by kernel_rfl) (by kernel_rfl) (h0 _ _) ?_
    refine eqFields_step w (by simp) (by kernel_rfl) (by kernel_rfl) (h1 _ _) ?_
    rfl
  · simp
theorem neqKey (w : World) (a b c d : Int) : (binOp .neq 24 (.agg #[.int .u16 a, .int .i64 b]) (.agg #[.int .u16 c, .int .i64 d])).run Try.prog w = .ok (.bool (!((a == c) && (b == d)))) w := by
  rw [run_neq_struct, eqKey0 w]; rfl
theorem eqlKey (w : World) (a b c d : Int) : (binOp .eql 24 (.agg #[.int .u16 a, .int .i64 b]) (.agg #[.int .u16 c, .int .i64 d])).run Try.prog w = .ok (.bool ((a == c) && (b == d))) w := by
  rw [run_eql_struct, eqKey0 w]; rfl
end Go.Proofs.Ytpnalcbpdejpjaa
