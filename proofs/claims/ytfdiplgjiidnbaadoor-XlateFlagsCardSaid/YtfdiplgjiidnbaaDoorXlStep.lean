/-
  The steps of fold of package xlate: withLeast, withMost, withBytes.
-/
import Derived.Test.YtfdiplgjiidnbaaDoorXlFold
set_option linter.unusedSimpArgs false
set_option linter.unusedVariables false
namespace Go.Proofs.YtfdiplgjiidnbaaDoor
open Go.RowKit Classical
theorem exec_addI {ρ : Operand → Value} {o : Oper} {x y : Operand} {t z : TypeId} {a b : Int} {w : World} (ho : o.op = .binOp .add t x y z) (hx : ρ x = .int .i64 a) (hy : ρ y = .int .i64 b) (ht : Tryd.prog.underlying t = some (.int .i64)) (h0 : -9223372036854775808 ≤ a + b) (h1 : a + b ≤ 9223372036854775807) : (execOp ρ o).run Tryd.prog w = .ok (.value (.int .i64 (a + b))) w := by
  obtain ⟨dst, o, ty, pos, after, guard⟩ := o
  simp only at ho
  subst ho
  unfold execOp
  simp only [hx, hy]
  have hw : IntKind.i64.wrap (a + b) = a + b := by rw [IntKind.wrap_i64]; omega
  go_simp
/-- Bytes as cells. -/
def vals (l : List Nat) : List Value := l.map fun n : Nat => Value.int .u8 n
theorem vals_len (l : List Nat) : (vals l).length = l.length := by simp [vals]
theorem vals_app (l m : List Nat) : vals (l ++ m) = vals l ++ vals m := by simp [vals]
theorem vals_one (l : List Nat) : ∀ v ∈ vals l, v.oneCell' = true := by
  intro v hv; simp only [vals, List.mem_map] at hv; obtain ⟨n, _, rfl⟩ := hv; rfl
theorem Tryd.infoU8 : (Tryd.prog.info? 5).map (fun i => (i.zero, i.size, i.bytes)) = some (some (.int .u8 0), 1, 1) := by kernel_rfl
/-- append of code to a list of the call's own. -/
theorem wpList_appB {ops : Array Oper} {rest : List Oper} {op : Oper} {a : Act} {Q : Exit → Act → World → Prop} (hgd : op.guard = none) (s x : Operand)
    (ho : op.op = .call { callee := .builtin .append, args := #[s, x], argTypes := #[23, 23] }) {l r : List Nat} {v : Value} {W w0 : World} {base b off n k : Nat} (hown : W.ownsRow base 5 1 v l.length (vals l)) (hb : Below base w0 W) (hbase : base ≤ W.heap.size)
    (hs : a.eval s = v) (hx : a.eval x = .slice (some ⟨b, off, none⟩) n k) (hn : r.length = n) (hr : ∀ i, i < r.length → W.cell? ⟨b, off + i, none⟩ = some (.int .u8 ((r.getD i 0 : Nat) : Int))) (hlm : l.length + r.length ≤ 140737488355328)
    (h : ∀ v' w', w'.ownsRow base 5 1 v' (l ++ r).length (vals (l ++ r)) → Below base w0 w' → base ≤ w'.heap.size → wpList Tryd.prog ops Q rest (a.put op.dst v') w') : wpList Tryd.prog ops Q (op :: rest) a W := by
  obtain ⟨i0, hi, hz0, hz1, hz2⟩ := info_parts Tryd.infoU8
  refine wpList_append_own W hgd s x 23 ho base 5 i0 _ 1 1 (by kernel_rfl) hi hz0 hz1 hz2 rfl (by decide) v l.length (vals l) hs hown ⟨b, off, none⟩ n k (vals r) hx (by rw [vals_len, hn, Nat.mul_one]) ?_ (vals_one _) (by unfold maxLen; omega) (by omega) hbase ?_
  · intro j u hu
    have hj : j < r.length := by have := (List.getElem?_eq_some_iff.1 hu).1; rwa [vals_len] at this
    rw [Addr.add_lit, hr j hj]
    simp [vals, hj] at hu
    rw [← hu]
    simp [hj]
  · intro v' w' h1 h2 _
    refine h v' w' ?_ (hb.grown h2 hbase (fun k hk => (World.ownsRow.lt hown k hk).1)) ?_
    · rw [List.length_append, vals_app, hn]; exact h1
    · have := h2.size; omega
/-- The bytes of an instruction. -/
def Pc.bytes (L : List Nat) (p : Pc) : List Nat := (L.drop p.off).take (lnN p.k)
theorem Pok.blen {L : List Nat} {p : Pc} (h : Pok L p) : (p.bytes L).length = lnN p.k := by
  unfold Pc.bytes; rw [List.length_take, List.length_drop]; have := h.len; omega
theorem bytes_at {L : List Nat} {p : Pc} (i : Nat) (hi : i < lnN p.k) : (p.bytes L).getD i 0 = L.getD (p.off + i) 0 := by
  unfold Pc.bytes; simp [List.getD, List.getElem?_take, hi, List.getElem?_drop]
set_option maxRecDepth 100000 in
theorem wleast_any (L : List Nat) (b o cap : Nat) (p : Pc) (s : Nat) (w : World) (h : Pok L p) (hs : s ≤ 10000) :
    Calls Tryd.prog 25 #[.int .i64 (s : Nat), .agg (p.cells b o cap)] w fun e w' => e = .returned (.int .i64 ((s + cyN p.k : Nat) : Int)) ∧ Below w.heap.size w w' := by
  have hy := (cy_bd _ h.k8).2
  unfold Pc.cells
  generalize cyN p.k = cy at *
  clear h
  have hw : (s : Int) + (cy : Int) ≤ 9223372036854775807 := by omega
  go_enter Tryd.func25, Tryd.ntmps25
  go_wp2
  go_ret
  exact ⟨rfl, (Below.refl _ _).alloc (Nat.le_refl _) _⟩
/-- How many cycles more an instruction may take. -/
def Pc.pen (L : List Nat) (p : Pc) : Int := penI ((kdN p.k : Nat) : Int) ((mdN p.k : Nat) : Int) (((p.at' : Nat) + 2 : Int) % 65536) (tgtI (((p.at' : Nat) + 2 : Int) % 65536) ((L.getD (p.off + 1) 0 : Nat) : Int))
theorem pen_bd (L : List Nat) (p : Pc) : 0 ≤ p.pen L ∧ p.pen L ≤ 2 := by
  unfold Pc.pen penI
  repeat' split
  all_goals decide
theorem br_len : ∀ k, k < 256 → kdN k = 5 → lnN k = 2 := by decide +kernel
set_option maxRecDepth 100000 in
set_option maxHeartbeats 2000000 in
theorem wmost_any (L : List Nat) (b o cap : Nat) (p : Pc) (s : Int) (w : World) (h : Pok L p) (hB : Byts L) (hC : Code w b o L) (s0 : 0 ≤ s) (s1 : s ≤ 10000) :
    Calls Tryd.prog 26 #[.int .i64 s, .agg (p.cells b o cap)] w fun e w' => e = .returned (.int .i64 (s + ((cyN p.k : Nat) : Int) + p.pen L)) ∧ Below w.heap.size w w' := by
  have hy := (cy_bd _ h.k8).2
  have hp := pen_bd L p
  obtain ⟨PC, hPC⟩ : ∃ PC, p.cells b o cap = PC := ⟨_, rfl⟩
  have PB : Hid (∀ W, Below w.heap.size w W → Calls Tryd.prog 49 #[.agg PC] W fun e w' => e = .returned (.int .i64 (p.pen L)) ∧ Below W.heap.size W w') := fun W hb => by
    rw [← hPC]
    exact penalty_any ((opN p.k : Nat) : Int) ((mdN p.k : Nat) : Int) ((cyN p.k : Nat) : Int) ((clN p.k : Nat) : Int) ((p.at' : Nat) : Int) (kdN p.k) (lnN p.k) (L.getD (p.off + 1) 0) b (o + p.off) (cap - p.off) ((p.num : Nat) : Int) ((p.cyc : Nat) : Int) p.lv W (fun h5 => ⟨br_len _ h.k8 h5, by have := br_len _ h.k8 h5; have := h.len; rw [Nat.add_assoc]; exact hC.at hb (p.off + 1) (by omega)⟩) (hB.at _) (by omega) (by have := h.at'; omega)
  have HS : Hid (PC.size = 11) := by unfold Hid; rw [← hPC]; rfl
  have H4 : Hid (PC[4]? = some (.int .i64 ((cyN p.k : Nat) : Int))) := by unfold Hid; rw [← hPC]; rfl
  rw [hPC]
  clear hPC h hB hC
  generalize p.pen L = pn at *
  generalize cyN p.k = cy at *
  go_enter Tryd.func26, Tryd.ntmps26
  go_upto_region 1 with fail
  have b0 : Blk (w.alloc (.cells PC 56)) w.heap.size PC 56 := Blk.new w _ _
  have hb0 : Below w.heap.size w (w.alloc (.cells PC 56)) := (Below.refl _ _).alloc (Nat.le_refl _) _
  generalize w.alloc (.cells PC 56) = W0 at *
  have z0 : Pq w PC W0.drew := ⟨b0.below b0.lt (Below.refl _ _).drew, hb0.drew⟩
  clear b0 hb0
  refine wp_region_held (S := fun v => Pq w PC v) (by kernel_rfl) ?_
  refine takeH (i := 0) (v := .int .i64 s) _ rfl (by kernel_rfl) (by kernel_rfl) (by kernel_rfl) (fun _ _ _ h => h) (.inl ⟨by kernel_rfl, fun _ _ => by kernel_rfl⟩) z0 rfl ?_
  refine takeH (i := 1) (v := .pointer (some ⟨w.heap.size, 0, none⟩)) _ rfl (by kernel_rfl) (by kernel_rfl) (by kernel_rfl) (fun _ _ _ h => h) (.inl ⟨by kernel_rfl, fun _ _ => by kernel_rfl⟩) z0 rfl ?_
  refine takeH (i := 2) (v := .pointer (some ⟨w.heap.size, 4, none⟩)) _ rfl (by kernel_rfl) (by kernel_rfl) (by kernel_rfl) (fun _ _ _ h => h) (.inl ⟨by kernel_rfl, fun _ _ => by kernel_rfl⟩) z0 rfl ?_
  refine takeH (i := 3) (v := .int .i64 ((cy : Nat) : Int)) _ rfl (by kernel_rfl) (by kernel_rfl) (by kernel_rfl) (fun _ _ _ h => h) (.inl ⟨by kernel_rfl, fun v hv => by have c : v.cell? ⟨w.heap.size, 4, none⟩ = some (.int .i64 ((cy : Nat) : Int)) := (hv.b.cell 4).trans H4.out; go_simp⟩) z0 rfl ?_
  refine takeH (i := 4) (v := .int .i64 (s + ((cy : Nat) : Int))) _ rfl (by kernel_rfl) (by kernel_rfl) (by kernel_rfl) (fun _ _ _ h => h) (.inl ⟨by kernel_rfl, fun v _ => exec_addI (a := s) (b := ((cy : Nat) : Int)) rfl (by kernel_rfl) (by kernel_rfl) (by kernel_rfl) (by omega) (by omega)⟩) z0 rfl ?_
  refine takeH (i := 5) (v := .agg PC.toList.toArray) _ rfl (by kernel_rfl) (by kernel_rfl) (by kernel_rfl) (fun _ _ _ h => h) (yieldsIf_load_mid (by kernel_rfl) 56 (.tmp 3) rfl w.heap.size 0 (by kernel_rfl) PC.toList _ (fun v hv => Blk.range' hv.b) Tryd.underlying56 rfl (by rw [Array.length_toList]; rw [HS.out]; kernel_rfl)) z0 rfl ?_
  refine callH (i := 6) (f := 49) (v := .int .i64 pn) _ (by kernel_rfl) rfl (by kernel_rfl) (by kernel_rfl) (PB.out _ z0.hb) rfl ?_
  intro Wq1 hbq1
  have sq1 : (fun v => Pq w PC v) Wq1 := z0.on hbq1
  clear hbq1
  refine ⟨sq1, ?_⟩
  refine takeH (i := 7) (v := .int .i64 (s + ((cy : Nat) : Int) + pn)) _ rfl (by kernel_rfl) (by kernel_rfl) (by kernel_rfl) (fun _ _ _ h => h) (.inl ⟨by kernel_rfl, fun v _ => exec_addI (a := s + ((cy : Nat) : Int)) (b := pn) rfl (by kernel_rfl) (by kernel_rfl) (by kernel_rfl) (by omega) (by omega)⟩) sq1 rfl ?_
  refine takeH (i := 8) (v := .int .i64 (s + ((cy : Nat) : Int) + pn)) _ rfl (by kernel_rfl) (by kernel_rfl) (by kernel_rfl) (fun _ _ _ h => h) (.inl ⟨by kernel_rfl, fun _ _ => by kernel_rfl⟩) sq1 rfl ?_
  refine wpAnyH_done (by kernel_rfl) ?_ _
  go_wp2
  go_ret
  exact ⟨rfl, sq1.hb⟩
set_option maxRecDepth 100000 in
theorem wbytes_any (L : List Nat) (b o cap base : Nat) (p : Pc) (l : List Nat) (v : Value) (w : World) (h : Pok L p) (hl : l.length ≤ 1000000) (hC : Code w b o L) (hbase : base ≤ w.heap.size) (R : w.ownsRow base 5 1 v l.length (vals l)) :
    Calls Tryd.prog 21 #[v, .agg (p.cells b o cap)] w fun e w' => ∃ v', e = .returned v' ∧ w'.ownsRow base 5 1 v' (l ++ p.bytes L).length (vals (l ++ p.bytes L)) ∧ Below base w w' := by
  have h3 := (ln_bd _ h.k8).2
  have HB : Hid (∀ W, Below w.heap.size w W → ∀ i, i < (p.bytes L).length → W.cell? ⟨b, o + p.off + i, none⟩ = some (.int .u8 (((p.bytes L).getD i 0 : Nat) : Int))) := fun W hb i hi => by
    rw [h.blen] at hi
    rw [bytes_at i hi, Nat.add_assoc]
    exact hC.at hb (p.off + i) (by have := h.len; omega)
  have HL : Hid ((p.bytes L).length = lnN p.k) := h.blen
  unfold Pc.cells
  generalize p.bytes L = r at *
  generalize lnN p.k = ln at *
  have HR : Hid (∀ o : Obj, (w.alloc o).ownsRow base 5 1 v l.length (vals l)) := fun o => World.ownsRow.alloc R _
  have hb0 : ∀ o : Obj, Below base w (w.alloc o) := fun o => (Below.refl _ _).alloc hbase _
  have hb1 : ∀ o : Obj, Below w.heap.size w (w.alloc o) := fun o => (Below.refl _ _).alloc (Nat.le_refl _) _
  clear h hC R
  go_enter Tryd.func21, Tryd.ntmps21
  go_wp2_with (at_builtin; refine wpList_appB rfl _ _ rfl (HR.out _) (hb0 _) (by simp; omega) rfl rfl HL.out (HB.out _ (hb1 _)) (by rw [HL.out]; omega) ?_; intro v' Wx hux hbx hsx)
  go_ret
  exact ⟨_, rfl, hux, hbx⟩
end Go.Proofs.YtfdiplgjiidnbaaDoor
