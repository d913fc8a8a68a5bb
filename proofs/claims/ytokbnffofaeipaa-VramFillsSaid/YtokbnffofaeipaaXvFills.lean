/-
  The law VramFills, for every video memory and every list that lies in memory.
-/
import Derived.Test.YtokbnffofaeipaaXvPad
import Derived.Test.YtokbnffofaeipaaXvRFill
import Derived.Test.YtokbnffofaeipaaXvEq
set_option linter.unusedSimpArgs false
set_option linter.unusedVariables false
namespace Go.Proofs.Ytokbnffofaeipaa
open Go.RowKit Classical
theorem exec_slV {ρ : Operand → Value} {o : Oper} {x hi : Operand} {a : Addr} {n k h : Nat} {w : World} (ho : o.op = .slice 29 x none (some hi) none) (hx : ρ x = .slice (some a) n k) (hh : ρ hi = .int .i64 (h : Nat)) (h1 : h ≤ k) (h2 : 0 < k) : (execOp ρ o).run Try.prog w = .ok (.value (.slice (some a) h k)) w := by
  obtain ⟨dst, o, ty, pos, after, guard⟩ := o
  simp only at ho
  subst ho
  unfold execOp
  have q1 : (0 : Int) ≤ (h : Int) := by omega
  have q3 : (h : Int) ≤ (k : Int) := by omega
  have e : ¬ k = 0 := by omega
  simp only [Option.map, hx, hh]
  go_simp
  try simp [Addr.add]
theorem yieldsVid {ops : Array Oper} {S : World → Prop} {op : Oper} {a : Act} (hw : Region.wanted op (yielded ops a.tmps) = true) (x : Operand) (ho : op.op = .load 28 x)
    (b : Nat) (hx : a.eval x = .pointer (some ⟨b, 0, none⟩)) (cs : Array Value) (hS : ∀ w, S w → Blk w b cs 28) (hs : cs.size = 12585) : YieldsIf Try.prog ops S op (.agg cs) a := by
  have h := yieldsIf_load_mid (P := Try.prog) (ops := ops) (S := S) hw 28 x ho b 0 hx cs.toList _ (fun v hv => Blk.range' (hS v hv)) Try.underlying28 rfl (by rw [Array.length_toList, hs]; exact Try.infoVid)
  rw [Array.toArray_toList] at h
  exact h
theorem cell_list {w : World} {base g cap n : Nat} {l : List Nat} (h : w.ownsRow base 5 1 (.slice (some ⟨g, 0, none⟩) n cap) n (valsV l)) (hl : l.length = n) (k : Nat) (hk : k < n) : w.cell? ⟨g, k, none⟩ = some (.int .u8 (l.getD k 0 : Nat)) := by
  rw [orow_cell h k (by omega), valsV_at l k (by omega)]
set_option maxRecDepth 100000 in
set_option maxHeartbeats 4000000 in
theorem fills_law (cs : Array Value) (f : Nat → Nat) (F : Fok f) (V : Vid cs f) (l : List Nat) (n cap : Nat) (hn : l.length = n) (hl : ∀ k, k < n → l.getD k 0 < 256) (hlen : n ≤ 140737488351232) (a : Option Addr) (w : World) (hr : RowV w a n cap l) :
    Calls Try.prog 3 #[.agg cs, .slice a n cap] w fun e w' => e = .returned (.bool true) ∧ Below w.heap.size w w' := by
  have HN : Hid (l.length = n) := hn
  have HR : Hid (RowV w a n cap l) := hr
  have PA := fun (W : World) (h : Hid (RowV W a n cap l)) => padded_any l n cap HN.out hlen a W h.out
  clear hn hr
  go_enter Try.func3, Try.ntmps3
  go_upto_region 1 with fail
  have B0 : Hid (Blk (w.alloc (.cells cs 28)) w.heap.size cs 28) := Blk.new w cs _
  have L0 : Hid (Below w.heap.size w (w.alloc (.cells cs 28))) := (Below.refl _ _).alloc (Nat.le_refl _) _
  have R0 : Hid (RowV (w.alloc (.cells cs 28)) a n cap l) := RowV.below HR.out L0.out
  generalize (w.alloc (.cells cs 28)) = W at *
  have I8 : Hid ((Try.prog.info? 28).map (·.size) = some 12585) := Try.infoVid
  have VS : Hid (cs.size = 12585) := V.1
  go_upto_region 2 with (go_at_call 7; refine (PA _ R0).mono ?_; rintro e w1 ⟨v1, rfl, ow, hbw⟩)
  obtain ⟨g1, c1, rfl⟩ := orow_some ow (by omega)
  obtain ⟨hg1, hg2, hc1⟩ := orow_base ow
  have B1 : Hid (Blk w1 w.heap.size cs 28) := Blk.below B0.out (Blk.lt B0.out) hbw
  have L1 : Hid (Below w.heap.size w w1) := L0.out.trans (hbw.mono (Nat.le_of_lt (Blk.lt B0.out)))
  have R1 : Hid (RowV w1 a n cap l) := RowV.below HR.out L1.out
  have hlm : (l ++ mksV).length = n + 8 := by rw [List.length_append, HN.out]; rfl
  have C1 : ∀ k, k < n + 8 → w1.cell? ⟨g1, k, none⟩ = some (.int .u8 ((l ++ mksV).getD k 0 : Nat)) := fun k hk => cell_list ow hlm k hk
  have C2 : ∀ k, k < n → w1.cell? ⟨g1, 0 + k, none⟩ = some (.int .u8 (l.getD k 0 : Nat)) := fun k hk => by
    rw [Nat.zero_add, C1 k (by omega)]
    have : (l ++ mksV).getD k 0 = l.getD k 0 := by simp [List.getD_eq_getElem?_getD, List.getElem?_append_left (show k < l.length by rw [HN.out]; exact hk)]
    rw [this]
  have FA : Hid (∀ v, Below w1.heap.size w1 v → Calls Try.prog 8 #[.agg cs, .slice (some ⟨g1, 0, none⟩) n c1] v fun e w' => ∃ x, e = .returned x ∧ ∃ cs', x = .agg cs' ∧ Vid cs' (filF f l n) ∧ Below v.heap.size v w') := fun v h => (fill_any cs f F V v l n g1 0 c1 (by omega) hlen hl (Nat.lt_of_lt_of_le hg2 h.size) (fun k hk => (h.cell (p := ⟨g1, 0 + k, none⟩) hg2).trans (C2 k hk))).mono fun e w' ⟨cs', h1, h2, h3⟩ => ⟨.agg cs', h1, cs', rfl, h2, h3⟩
  have RA : Hid (∀ v, Below w1.heap.size w1 v → Calls Try.prog 9 #[.agg cs, .slice a n cap] v fun e w' => ∃ x, e = .returned x ∧ ∃ cs', x = .agg cs' ∧ Vid cs' (filF f l n) ∧ Below v.heap.size v w') := fun v h => (rfill_any cs f F V v l n cap a hlen hl (RowV.two (RowV.below R1.out h))).mono fun e w' ⟨cs', h1, h2, h3⟩ => ⟨.agg cs', h1, cs', rfl, h2, h3⟩
  have s0 : Below w1.heap.size w1 w1.drew := (Below.refl _ _).drew
  have H1 : Hid (∀ v, Below w1.heap.size w1 v → ∀ k, k < n + 8 → v.cell? ⟨g1, k, none⟩ = some (.int .u8 ((l ++ mksV).getD k 0 : Nat))) := fun v h k hk => (h.cell (p := ⟨g1, k, none⟩) hg2).trans (C1 k hk)
  clear ow hbw C1 C2 B0 L0 R0
  refine wp_region_held (S := fun v => Below w1.heap.size w1 v) (by kernel_rfl) ?_
  refine takeH (i := 0) (v := .agg cs) _ rfl (by kernel_rfl) (by kernel_rfl) (by kernel_rfl) (fun _ _ _ h => h) (yieldsVid (by kernel_rfl) (.tmp 2) rfl w.heap.size (by kernel_rfl) cs (fun v hv => Blk.below B1.out (Blk.lt B1.out) hv) VS.out) s0 rfl ?_
  refine takeH (i := 1) (v := .slice (some ⟨g1, 0, none⟩) (n + 8) c1) _ rfl (by kernel_rfl) (by kernel_rfl) (by kernel_rfl) (fun _ _ _ h => h) (.inl ⟨by kernel_rfl, fun _ _ => by kernel_rfl⟩) s0 rfl ?_
  refine takeH (i := 2) (v := .slice a n cap) _ rfl (by kernel_rfl) (by kernel_rfl) (by kernel_rfl) (fun _ _ _ h => h) (.inl ⟨by kernel_rfl, fun _ _ => by kernel_rfl⟩) s0 rfl ?_
  refine takeH (i := 3) (v := .int .i64 (n : Nat)) _ rfl (by kernel_rfl) (by kernel_rfl) (by kernel_rfl) (fun _ _ _ h => h) (.inl ⟨by kernel_rfl, fun _ _ => by kernel_rfl⟩) s0 rfl ?_
  refine takeH (i := 4) (v := .slice (some ⟨g1, 0, none⟩) n c1) _ rfl (by kernel_rfl) (by kernel_rfl) (by kernel_rfl) (fun _ _ _ h => h) (.inl ⟨by kernel_rfl, fun v _ => exec_slV (a := ⟨g1, 0, none⟩) (n := n + 8) (k := c1) (h := n) rfl (by kernel_rfl) (by kernel_rfl) (by omega) (by omega)⟩) s0 rfl ?_
  refine takeH (i := 6) (v := .agg cs) _ rfl (by kernel_rfl) (by kernel_rfl) (by kernel_rfl) (fun _ _ _ h => h) (yieldsVid (by kernel_rfl) (.tmp 2) rfl w.heap.size (by kernel_rfl) cs (fun v hv => Blk.below B1.out (Blk.lt B1.out) hv) VS.out) s0 rfl ?_
  refine takeH (i := 7) (v := .slice a n cap) _ rfl (by kernel_rfl) (by kernel_rfl) (by kernel_rfl) (fun _ _ _ h => h) (.inl ⟨by kernel_rfl, fun _ _ => by kernel_rfl⟩) s0 rfl ?_
  refine callHE (i := 5) (f := 8) (by kernel_rfl) rfl (by kernel_rfl) (by kernel_rfl) (FA.out _ s0) ?_
  rintro x Wa ⟨ca, rfl, Va, hba⟩
  have s1 : Below w1.heap.size w1 Wa := s0.trans (hba.mono (Nat.le_refl _))
  refine ⟨s1, ?_⟩
  clear hba s0 FA
  refine callHE (i := 8) (f := 9) (by kernel_rfl) rfl (by kernel_rfl) (by kernel_rfl) (RA.out _ s1) ?_
  rintro x Wb ⟨cb, rfl, Vb, hba⟩
  have s2 : Below w1.heap.size w1 Wb := s1.trans (hba.mono s1.size)
  refine ⟨s2, ?_⟩
  clear hba s1 RA
  refine takeH (i := 9) (v := .bool true) _ rfl (by kernel_rfl) (by kernel_rfl) (by kernel_rfl) (fun _ _ _ h => h) (.inl ⟨by kernel_rfl, fun v _ => exec_eqVid rfl (by kernel_rfl) (by kernel_rfl) Va Vb⟩) s2 rfl ?_
  refine takeH (i := 10) (v := .bool true) _ rfl (by kernel_rfl) (by kernel_rfl) (by kernel_rfl) (fun _ _ _ h => h) (.inl ⟨by kernel_rfl, fun _ _ => by kernel_rfl⟩) s2 rfl ?_
  refine takeH (i := 11) (v := .slice (some ⟨g1, 0, none⟩) (n + 8) c1) _ rfl (by kernel_rfl) (by kernel_rfl) (by kernel_rfl) (fun _ _ _ h => h) (.inl ⟨by kernel_rfl, fun _ _ => by kernel_rfl⟩) s2 rfl ?_
  refine takeH (i := 12) (v := .slice a n cap) _ rfl (by kernel_rfl) (by kernel_rfl) (by kernel_rfl) (fun _ _ _ h => h) (.inl ⟨by kernel_rfl, fun _ _ => by kernel_rfl⟩) s2 rfl ?_
  have PB : Hid (∀ v, Below w1.heap.size w1 v → Calls Try.prog 7 #[.slice a n cap] v fun e w' => ∃ x, e = .returned x ∧ w'.ownsRow v.heap.size 5 1 x (n + 8) (valsV (l ++ mksV)) ∧ Below v.heap.size v w') := fun v h => PA v (RowV.below R1.out h)
  refine callHE (i := 13) (f := 7) (by kernel_rfl) rfl (by kernel_rfl) (by kernel_rfl) (PB.out _ s2) ?_
  rintro x Wc ⟨ow, hbc⟩
  obtain ⟨g2, c2, rfl⟩ := orow_some ow (by omega)
  have s3 : Below w1.heap.size w1 Wc := s2.trans (hbc.mono s2.size)
  refine ⟨s3, ?_⟩
  have AL : Calls Try.prog 10 #[.slice (some ⟨g1, 0, none⟩) (n + 8) c1, .slice (some ⟨g2, 0, none⟩) (n + 8) c2] Wc fun e w' => e = .returned (.bool true) ∧ ∃ m, w' = Wc.drewN m := alike_true (l ++ mksV) (n + 8) (by omega) g1 g2 c1 c2 Wc (H1.out Wc s3) (fun k hk => cell_list ow hlm k hk)
  refine callH (i := 14) (f := 10) (v := .bool true) _ (by kernel_rfl) rfl (by kernel_rfl) (by kernel_rfl) AL rfl ?_
  rintro Wd ⟨m, rfl⟩
  have s4 : Below w1.heap.size w1 (Wc.drewN m) := below_drawsX s3 m
  refine ⟨s4, ?_⟩
  refine takeH (i := 15) (v := .bool true) _ rfl (by kernel_rfl) (by kernel_rfl) (by kernel_rfl) (fun _ _ _ h => h) (.inl ⟨by kernel_rfl, fun _ _ => by kernel_rfl⟩) s4 rfl ?_
  refine takeH (i := 16) (v := .bool true) _ rfl (by kernel_rfl) (by kernel_rfl) (by kernel_rfl) (fun _ _ _ h => h) (.inl ⟨by kernel_rfl, fun _ _ => by kernel_rfl⟩) s4 rfl ?_
  refine wpAnyH_done (by kernel_rfl) ?_ _
  clear PA PB AL
  go_wp2
  refine bodyPost_ret (v := .bool true) ((results_tmp Try.results3 _ _ _).trans (by kernel_rfl)) (by kernel_rfl) ?_
  exact ⟨rfl, L1.out.trans (s4.mono (Nat.le_of_lt (Blk.lt B1.out)))⟩
end Go.Proofs.Ytokbnffofaeipaa
