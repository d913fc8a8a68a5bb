/-
  Keys of a cache.
-/
import Derived.Test.YtpnalcbpdejpjaaXcPutC
import Derived.Test.YtpnalcbpdejpjaaXcDrop2
set_option linter.unusedSimpArgs false
set_option linter.unusedVariables false
namespace Go.Proofs.Ytpnalcbpdejpjaa
open Go.RowKit Classical
def kflat (l : List En) : List Value := l.flatMap fun e => e.key.toList
theorem kflat_app (l k : List En) : kflat (l ++ k) = kflat l ++ kflat k := by simp [kflat]
theorem Try.infoKey : (Try.prog.info? 24).map (fun i => (i.zero, i.size, i.bytes)) = some (some (.agg #[.int .u16 0, .int .i64 0]), 2, 16) := by kernel_rfl
/-- append of one key that lies in a block just made. -/
theorem wpList_appKey {ops : Array Oper} {rest : List Oper} {o : Oper} {a : Act} {Q : Exit → Act → World → Prop} (hgd : o.guard = none) (s x : Operand)
    (ho : o.op = .call { callee := .builtin .append, args := #[s, x], argTypes := #[41, 41] }) {cells : List Value} {n : Nat} {v : Value} {W w0 : World} {base : Nat} {cs : Array Value} (hown : W.ownsRow base 24 2 v n cells) (hb : Below base w0 W) (hbase : base ≤ W.heap.size)
    (hs : a.eval s = v) (hx : a.eval x = .slice (some ⟨W.heap.size, 0, none⟩) 1 1) (hcs : cs.size = 2) (h1 : ∀ u ∈ cs.toList, u.oneCell' = true) (hlm : n ≤ 1000000)
    (h : ∀ v' w', w'.ownsRow base 24 2 v' (n + 1) (cells ++ cs.toList) → Below base w0 w' → base ≤ w'.heap.size → wpList Try.prog ops Q rest (a.put o.dst v') w') : wpList Try.prog ops Q (o :: rest) a (W.alloc (.cells cs 24)) := by
  obtain ⟨i0, hi, hz0, hz1, hz2⟩ := info_parts Try.infoKey
  have hB : Blk (W.alloc (.cells cs 24)) W.heap.size cs 24 := Blk.new W _ _
  refine wpList_append_own (W.alloc (.cells cs 24)) hgd s x 41 ho base 24 i0 _ 2 16 (by kernel_rfl) hi hz0 hz1 hz2 rfl (by decide) v n cells hs (World.ownsRow.alloc hown _) ⟨W.heap.size, 0, none⟩ 1 1 cs.toList hx (by rw [Array.length_toList, hcs]) ?_ h1 (by unfold maxLen; omega) (by omega) (by simp; omega) ?_
  · intro j u hu
    have := hB.cell j
    rw [← Array.getElem?_toList, hu] at this
    by_cases hj : j = 0
    · subst hj; simpa [Addr.add] using this
    · simpa [Addr.add, hj] using this
  · intro v' w' h1 h2 _
    have hb' : Below base w0 w' := (hb.alloc hbase _).grown h2 (by simp; omega) (fun k hk => by
      rcases hown.2 with ⟨h, _⟩ | ⟨g, cap, cur, e, hg, _⟩
      · rw [h] at hk; cases hk
      · rw [e] at hk; cases hk; exact hg)
    refine h v' w' h1 hb' ?_
    have := h2.size; simp at this; omega
set_option maxRecDepth 100000 in
set_option maxHeartbeats 4000000 in
theorem key_blk (pc tag : Int) (s : ByteArray) (ni lo hi : Int) (w : World) :
    Calls Try.prog 14 #[.agg #[.int .u16 pc, .int .i64 tag, .string s, .int .i64 ni, .slice none 0 0, .int .i64 lo, .int .i64 hi]] w fun e w' => e = .returned (.agg #[.int .u16 pc, .int .i64 tag]) ∧ Below w.heap.size w w' := by
  have hb0 : Below w.heap.size w ((w.alloc (.cells #[.int .u16 pc, .int .i64 tag, .string s, .int .i64 ni, .slice none 0 0, .int .i64 lo, .int .i64 hi] 34)).alloc (.cells #[.int .u16 0, .int .i64 0] 24)) := ((Below.refl _ _).alloc (Nat.le_refl _) _).alloc (by simp) _
  have z1 : Blk ((w.alloc (.cells #[.int .u16 pc, .int .i64 tag, .string s, .int .i64 ni, .slice none 0 0, .int .i64 lo, .int .i64 hi] 34)).alloc (.cells #[.int .u16 0, .int .i64 0] 24)) w.heap.size #[.int .u16 pc, .int .i64 tag, .string s, .int .i64 ni, .slice none 0 0, .int .i64 lo, .int .i64 hi] 34 := (Blk.new w #[.int .u16 pc, .int .i64 tag, .string s, .int .i64 ni, .slice none 0 0, .int .i64 lo, .int .i64 hi] 34).old _
  have z2 : Blk ((w.alloc (.cells #[.int .u16 pc, .int .i64 tag, .string s, .int .i64 ni, .slice none 0 0, .int .i64 lo, .int .i64 hi] 34)).alloc (.cells #[.int .u16 0, .int .i64 0] 24)) (w.heap.size + 1) #[.int .u16 0, .int .i64 0] 24 := by
    have := Blk.new (w.alloc (.cells #[.int .u16 pc, .int .i64 tag, .string s, .int .i64 ni, .slice none 0 0, .int .i64 lo, .int .i64 hi] 34)) #[.int .u16 0, .int .i64 0] 24
    simpa using this
  go_enter Try.func14, Try.ntmps14
  go_upto_region 1 with fail
  generalize (w.alloc (.cells #[.int .u16 pc, .int .i64 tag, .string s, .int .i64 ni, .slice none 0 0, .int .i64 lo, .int .i64 hi] 34)).alloc (.cells #[.int .u16 0, .int .i64 0] 24) = W0 at *
  have c0 : W0.cell? ⟨w.heap.size, 0, none⟩ = some (.int .u16 pc) := z1.cell 0
  have c1 : W0.cell? ⟨w.heap.size, 1, none⟩ = some (.int .i64 tag) := z1.cell 1
  go_wp2_with (refine wpList_store_mid rfl 24 _ _ rfl (w.heap.size + 1) 0 #[.int .u16 pc, .int .i64 tag] rfl rfl (z2.there' 2 rfl) (by kernel_rfl) (by kernel_rfl) ?_)
  have z5 : Blk (W0.setCells (w.heap.size + 1) 0 (#[.int .u16 pc, .int .i64 tag] : Array Value).toList) (w.heap.size + 1) #[.int .u16 pc, .int .i64 tag] 24 := z2.setAll rfl
  refine ret_agg1 (m := w.heap.size + 1) (L := #[.int .u16 pc, .int .i64 tag]) Try.results14 (by kernel_rfl) (by kernel_rfl) z5 Try.underlying24 rfl (by kernel_rfl) ?_
  exact ⟨rfl, setCells_below' (by omega) _ _ _ _ hb0⟩
set_option maxRecDepth 100000 in
set_option maxHeartbeats 4000000 in
theorem yes_any (v : Value) (w : World) : Calls Try.prog 46 #[v] w fun e w' => e = .returned (.bool true) ∧ w' = w := by
  go_enter Try.func46, Try.ntmps46
  go_wp2
  go_ret
  exact ⟨rfl, rfl⟩
set_option maxRecDepth 100000 in
set_option maxHeartbeats 4000000 in
theorem skeys_all (base q ga kA m k N n fc : Nat) (fa : Option Addr) (A : List Nat) (es : List En) (cnt : Int → Int) (w : World) (H : Ca base q ga kA m k N (.slice fa n fc) A es cnt w) (hn : n ≤ 65536) :
    Calls Try.prog 45 #[.pointer (some ⟨q, 0, none⟩), .func (.func 46) #[] #[]] w fun e w' => ∃ v, e = .returned v ∧ w'.ownsRow w.heap.size 24 2 v n (kflat es) ∧ Below w.heap.size w w' := by
  obtain ⟨a9, c9, e9, hfa⟩ := orow_form H.f
  have hne : n = es.length := by cases e9; rfl
  clear e9 hfa a9 c9
  have hf0 := H.f
  rw [← hne] at hf0
  have c1 : w.cell? ⟨q, 1, none⟩ = some (.slice fa n fc) := H.b.cell 1
  have HF : Hid (w.ownsRow base 113 12 (.slice fa n fc) n (eflat es)) := hf0
  have HNE : Hid (n = es.length) := hne
  have hqw : q < w.heap.size := H.b.lt
  clear H hf0 hne
  go_enter Try.func45, Try.ntmps45
  go_upto_region 3 with fail
  go_loopw [5, 12] (fun v i wr => ∃ p : Nat, p ≤ n ∧ i = .int .i64 ((p : Nat) : Int) ∧ wr.ownsRow w.heap.size 24 2 v p (kflat (es.take p)) ∧ Below w.heap.size w wr) (fun _ i _ => ((n : Int) - intOf i).toNat)
  case atStart => exact ⟨0, by omega, rfl, World.ownsRow_nil _ _ 24 2, Below.refl _ _⟩
  case round =>
    obtain ⟨p, hp, rfl, hv, hb⟩ := hrel
    by_cases hlt : p < n
    · obtain ⟨x, hx⟩ : ∃ x, es[p]? = some x := ⟨_, List.getElem?_eq_getElem (by have := HNE.out; omega)⟩
      obtain ⟨fg, rfl⟩ : ∃ fg, fa = some ⟨fg, 0, none⟩ := by
        cases fa with
        | none => have := (orow_none HF.out).1; omega
        | some ad => obtain ⟨g, rfl⟩ := orow_where HF.out; exact ⟨g, rfl⟩
      have cx : ∀ t, t < 12 → w.cell? ⟨fg, p * 12 + t, none⟩ = x.cells[t]? := fun t ht => by
        rw [orow_cell HF.out (p * 12 + t) (by omega), eflat_at hx t ht]
      have d1 : wr.cell? ⟨fg, p * 12 + 1, none⟩ = some (.int .u16 x.pc) := (hb.cell (p := ⟨fg, p * 12 + 1, none⟩) (cell_lt (cx 1 (by omega)))).trans (cx 1 (by omega))
      have d2 : wr.cell? ⟨fg, p * 12 + 2, none⟩ = some (.int .i64 x.tag) := (hb.cell (p := ⟨fg, p * 12 + 2, none⟩) (cell_lt (cx 2 (by omega)))).trans (cx 2 (by omega))
      have e1 : wr.cell? ⟨q, 1, none⟩ = some (.slice (some ⟨fg, 0, none⟩) n fc) := (hb.cell (p := ⟨q, 1, none⟩) hqw).trans c1
      have hpi : (p : Int) < (n : Int) := by omega
      have HX : Hid (es[p]? = some x) := hx
      have YS : Hid (∀ v W, Calls _ _ _ W _) := fun v W => yes_any v W
      have hbs := hb.size
      clear hx cx
      go_wp2_with (first
        | (go_at_call 46; go_must (refine (YS.out _ _).mono ?_; rintro e W5 ⟨rfl, hw⟩; obtain rfl := hw.symm))
        | (refine wpList_appKey rfl _ _ rfl (cs := #[.int .u16 x.pc, .int .i64 x.tag]) hv hb hbs rfl rfl rfl (List.all_eq_true.1 (show (#[.int .u16 x.pc, .int .i64 x.tag] : Array Value).toList.all (·.oneCell') = true from rfl)) (by omega) ?_; intro v2 w2 r2 b2 s2))
      go_roundw
      case rel => exact ⟨p + 1, by omega, by go_num, by rw [List.take_add_one, HX.out, kflat_app]; exact r2, b2⟩
      case measure => simp [intOf]; omega
    · obtain rfl : p = n := by omega
      go_wp2
      go_ret
      refine ⟨_, rfl, ?_, hb⟩
      rw [List.take_of_length_le (by have := HNE.out; omega)] at hv
      exact hv
end Go.Proofs.Ytpnalcbpdejpjaa
