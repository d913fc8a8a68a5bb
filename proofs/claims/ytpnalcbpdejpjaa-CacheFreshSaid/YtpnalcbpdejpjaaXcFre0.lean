/-
  What CacheFresh needs.
-/
import Derived.Test.YtpnalcbpdejpjaaXcStore
import Derived.Test.YtpnalcbpdejpjaaXcLaw1
import Derived.Laws.Bits128
import Derived.BigFrame
set_option linter.unusedSimpArgs false
set_option linter.unusedVariables false
namespace Go.Proofs.Ytpnalcbpdejpjaa
open Go.RowKit Classical
set_option maxRecDepth 100000 in
set_option maxHeartbeats 4000000 in
theorem key_any (pc tag : Int) (s : ByteArray) (ni lo hi : Int) (lv : Value) (w : World) (h1 : lv.oneCell' = true) :
    Calls Try.prog 14 #[.agg #[.int .u16 pc, .int .i64 tag, .string s, .int .i64 ni, lv, .int .i64 lo, .int .i64 hi]] w fun e w' => e = .returned (.agg #[.int .u16 pc, .int .i64 tag]) ∧ Below w.heap.size w w' := by
  have hb0 : Below w.heap.size w ((w.alloc (.cells #[.int .u16 pc, .int .i64 tag, .string s, .int .i64 ni, lv, .int .i64 lo, .int .i64 hi] 34)).alloc (.cells #[.int .u16 0, .int .i64 0] 24)) := ((Below.refl _ _).alloc (Nat.le_refl _) _).alloc (by simp) _
  have z1 : Blk ((w.alloc (.cells #[.int .u16 pc, .int .i64 tag, .string s, .int .i64 ni, lv, .int .i64 lo, .int .i64 hi] 34)).alloc (.cells #[.int .u16 0, .int .i64 0] 24)) w.heap.size #[.int .u16 pc, .int .i64 tag, .string s, .int .i64 ni, lv, .int .i64 lo, .int .i64 hi] 34 := (Blk.new w #[.int .u16 pc, .int .i64 tag, .string s, .int .i64 ni, lv, .int .i64 lo, .int .i64 hi] 34).old _
  have z2 : Blk ((w.alloc (.cells #[.int .u16 pc, .int .i64 tag, .string s, .int .i64 ni, lv, .int .i64 lo, .int .i64 hi] 34)).alloc (.cells #[.int .u16 0, .int .i64 0] 24)) (w.heap.size + 1) #[.int .u16 0, .int .i64 0] 24 := by
    have := Blk.new (w.alloc (.cells #[.int .u16 pc, .int .i64 tag, .string s, .int .i64 ni, lv, .int .i64 lo, .int .i64 hi] 34)) #[.int .u16 0, .int .i64 0] 24
    simpa using this
  go_enter Try.func14, Try.ntmps14
  go_upto_region 1 with fail
  generalize (w.alloc (.cells #[.int .u16 pc, .int .i64 tag, .string s, .int .i64 ni, lv, .int .i64 lo, .int .i64 hi] 34)).alloc (.cells #[.int .u16 0, .int .i64 0] 24) = W0 at *
  have c0 : W0.cell? ⟨w.heap.size, 0, none⟩ = some (.int .u16 pc) := z1.cell 0
  have c1 : W0.cell? ⟨w.heap.size, 1, none⟩ = some (.int .i64 tag) := z1.cell 1
  go_wp2_with (refine wpList_store_mid rfl 24 _ _ rfl (w.heap.size + 1) 0 #[.int .u16 pc, .int .i64 tag] rfl rfl (z2.there' 2 rfl) (by kernel_rfl) (by kernel_rfl) ?_)
  have z5 : Blk (W0.setCells (w.heap.size + 1) 0 (#[.int .u16 pc, .int .i64 tag] : Array Value).toList) (w.heap.size + 1) #[.int .u16 pc, .int .i64 tag] 24 := z2.setAll rfl
  refine ret_agg1 (m := w.heap.size + 1) (L := #[.int .u16 pc, .int .i64 tag]) Try.results14 (by kernel_rfl) (by kernel_rfl) z5 Try.underlying24 rfl (by kernel_rfl) ?_
  exact ⟨rfl, setCells_below' (by omega) _ _ _ _ hb0⟩
theorem i64_and15 (n : Int) : bits .and .i64 n 15 = n % 16 := by
  have h15 : (BitVec.ofInt 64 15).toNat = 2 ^ 4 - 1 := by decide
  have key : (BitVec.ofInt 64 n &&& BitVec.ofInt 64 15).toNat = (n % ((2 ^ 64 : Nat) : Int)).toNat % 2 ^ 4 := by
    rw [BitVec.toNat_and, BitVec.toNat_ofInt, h15, Nat.and_two_pow_sub_one_eq_mod]
  show IntKind.i64.wrap ((BitVec.ofInt 64 n &&& BitVec.ofInt 64 15).toNat : Nat) = n % 16
  rw [key, IntKind.wrap_i64]
  omega
theorem wpList_loadW {P : Program} {ops : Array Oper} {rest : List Oper} {op : Oper} {a : Act} {w : World} {Q : Exit → Act → World → Prop} (hw : Region.wanted op (yielded ops a.tmps) = true) (ty : TypeId) (x : Operand) (ho : op.op = .load ty x)
    (b : Nat) (hx : a.eval x = .pointer (some ⟨b, 0, none⟩)) (cs : Array Value) (d : TypeDesc) (hB : Blk w b cs ty)
    (hu : P.underlying ty = some d) (hd : d.isRow = true) (hi : (P.info? ty).map (·.size) = some cs.size)
    (h : wpList P ops Q rest (a.put op.dst (.agg cs)) w) : wpList P ops Q (op :: rest) a w :=
  BigFrame.wpList_want hw fun _ hK => wp_load_mid ty x ho b 0 hx cs.toList d hB.range' hu hd (by rw [Array.length_toList]; exact hi) (by rw [Array.toArray_toList]; exact hK _ _ h)
theorem put_first {x : En} {es' : List En} {rr : Bool} {RK : Array Value} (h : PutRl [] x es' rr RK) : es' = [x] := by
  rcases h with ⟨-, -, -, h⟩ | ⟨y, r, hp, -⟩
  · exact h
  · have := hp.length_eq
    simp at this
theorem Ls.far {base q ga kA m N t n fc : Nat} {Φ : En → List Value → Prop} {fa : Option Addr} {es : List En} {w v V : World} {a : Option Addr} {k c : Nat} {cells : List Value} (h : Ls w a k c cells) (H : Cx base q ga kA m N t Φ fa n fc es v) (l : Below w.heap.size w v) (hb : w.heap.size ≤ base) (g : Fr (CaS q ga m (.slice fa n fc)) v V) : Ls V a k c cells :=
  h.on (l.trans (g.below (fun k hk => by have := (H.blk (.inl hk)).1; omega) l.size))
/-- Of an entry with this key it is known which it is, and its list. -/
def PhB (xb : En) (cb : List Value) (e : En) (cs : List Value) : Prop := (e.pc = xb.pc ∧ e.tag = xb.tag) → (e = xb ∧ cs = cb)
theorem put_b {base q ga kA m N t n fc : Nat} {Φ : En → List Value → Prop} {fa : Option Addr} {es es' : List En} {xb : En} {cb : List Value} {rr : Bool} {RK : Array Value} {w : World} (H : Cx base q ga kA m N t (fun e cs => ((e ∈ es ∧ e.slot ≠ xb.slot) ∧ Φ e cs) ∨ (e = xb ∧ cs = cb)) fa n fc es' w) (hR : PutRl es xb es' rr RK) : Cx base q ga kA m N t (PhB xb cb) fa n fc es' w ∧ xb ∈ es' ∧ (∀ e ∈ es', e ∈ es ∨ e = xb) ∧ es'.length ≤ es.length + 1 := by
  have hm : xb ∈ es' := by
    rcases hR with ⟨-, -, -, rfl⟩ | ⟨y, r, -, -, rfl, -⟩ <;> simp
  refine ⟨H.mono (fun e he cs h => ?_), hm, fun e he => ?_, ?_⟩
  · rcases h with ⟨⟨-, h1⟩, -⟩ | h
    · intro hk
      exfalso
      have g1 := (H.eg e he).1.sl
      have g2 := (H.eg xb hm).1.sl
      rw [hk.1, hk.2, g2] at g1
      exact h1 (by omega)
    · exact fun _ => h
  · rcases hR with ⟨-, -, -, rfl⟩ | ⟨y, r, hp, -, rfl, -⟩
    · rcases List.mem_append.1 he with h | h
      · exact .inl h
      · exact .inr (List.mem_singleton.1 h)
    · rcases List.mem_append.1 he with h | h
      · exact .inl (hp.mem_iff.1 (List.mem_append.2 (.inl h)))
      · exact .inr (List.mem_singleton.1 h)
  · rcases hR with ⟨-, -, -, rfl⟩ | ⟨y, r, hp, -, rfl, -⟩
    · simp
    · have := hp.length_eq
      simp at this ⊢
      omega
theorem Cx.orowM {base q ga kA m N t n fc B n' : Nat} {Φ : En → List Value → Prop} {fa : Option Addr} {es : List En} {w v : World} {x : Value} {cells : List Value} (H : Cx base q ga kA m N t Φ fa n fc es w) (g : Fr (CaS q ga m (.slice fa n fc)) w v) (r : w.ownsRow B 54 7 x n' cells) : v.ownsRow B 54 7 x n' cells := by
  obtain ⟨k, A, cnt, ca, -⟩ := H
  exact ca.orow g r
theorem put_len {es es' : List En} {x : En} {rr : Bool} {RK : Array Value} (h : PutRl es x es' rr RK) : es'.length ≤ es.length + 1 := by
  rcases h with ⟨-, -, -, rfl⟩ | ⟨y, r, hp, -, rfl, -⟩
  · simp
  · have := hp.length_eq
    simp at this ⊢
    omega
theorem get_b (base q ga kA m N t n fc : Nat) (fa : Option Addr) (es : List En) (x : En) (cb : List Value) (w : World) (H : Cx base q ga kA m N t (PhB x cb) fa n fc es w) (hx : x ∈ es) (hN0 : 1 ≤ N) (hN : N ≤ 65536) (hn : n ≤ 65536) :
    Calls Try.prog 13 #[.pointer (some ⟨q, 0, none⟩), .agg #[.int .u16 x.pc, .int .i64 x.tag]] w fun e w' => ∃ a' c', e = .returned (.tuple #[.agg #[.int .u16 x.pc, .int .i64 x.tag, .string x.s, .int .i64 x.ni, .slice a' x.on c', .int .i64 x.lo, .int .i64 x.hi], .bool true]) ∧ w'.ownsRow w.heap.size 54 7 (.slice a' x.on c') x.on cb ∧ Below w.heap.size w w' := by
  refine (getX_hit base q ga kA m N t n fc (PhB x cb) fa es x w H hx hN0 hN hn).mono ?_
  rintro e w' ⟨a', c', cells, rfl, hΦ, -, cp, hb⟩
  obtain ⟨-, rfl⟩ := hΦ ⟨rfl, rfl⟩
  exact ⟨a', c', rfl, cp.2, hb⟩
end Go.Proofs.Ytpnalcbpdejpjaa
