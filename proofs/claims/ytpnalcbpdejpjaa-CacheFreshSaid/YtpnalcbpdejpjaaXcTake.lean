/-
  take of a slot.
-/
import Derived.Test.YtpnalcbpdejpjaaXcEn
import Derived.StillTailTactics
set_option linter.unusedSimpArgs false
set_option linter.unusedVariables false
namespace Go.Proofs.Ytpnalcbpdejpjaa
open Go.RowKit Classical
theorem exec_loadM {P : Program} {ρ : Operand → Value} {op : Oper} {ty : TypeId} {x : Operand} {b o : Nat} {cs : List Value} {d : TypeDesc} {w : World} (ho : op.op = .load ty x) (hx : ρ x = .pointer (some ⟨b, o, none⟩)) (hc : w.rangeAt b o cs) (hu : P.underlying ty = some d) (hd : d.isRow = true) (hi : (P.info? ty).map (·.size) = some cs.length) : (execOp ρ op).run P w = .ok (.value (.agg cs.toArray)) w := by
  unfold execOp
  simp only [ho, hx, Instr.loadAt, Instr.sureAddr, Sem.run_bind, Sem.run_pure, Result.andThen_ok, run_loadVar_mid w b o ty cs d hc hu hd hi]
theorem Blk.rangeAt {w : World} {b : Nat} {cs : Array Value} {t : TypeId} (h : Blk w b cs t) (o : Nat) (l : List Value) (hl : ∀ i, i < l.length → cs[o + i]? = l[i]?) : w.rangeAt b o l := fun j v hv => by
  have hj := (List.getElem?_eq_some_iff.1 hv).1
  rw [h.cell (o + j), hl j hj, hv]
theorem storeH {P : Program} {ops : Array Oper} {Q : Exit → Act → World → Prop} {md : Region.Mode} {S : World → Prop} {i : Nat} {fuel : Nat} {listed : Array Bool} {a : Act} {w : World} {o : Oper} (a' : Act)
    (hr : Region.ready md ops listed = [i]) (hi : ops[i]? = some o) (hw : Region.wanted o (yielded ops a.tmps) = true) (ty : TypeId) (x y : Operand) (ho : o.op = .store ty x y)
    (b off : Nat) (v : Value) (cells : Array Value) (hx : a.eval x = .pointer (some ⟨b, off, none⟩)) (hy : a.eval y = v) (hv : v.cells = cells)
    (ht : w.there b off cells.size) (hs : (P.info? ty).map (·.size) = some cells.size) (h1 : cells.all (·.oneCell') = true) (ha : a.put o.dst undef = a')
    (h : ∀ w', w' = w.setCells b off cells.toList → S w' ∧ wpAnyH P md ops Q S fuel (listed.setIfInBounds i true) a' w') : wpAnyH P md ops Q S (fuel + 1) listed a w :=
  wpAnyH_all hr (List.cons_ne_nil _ _) fun j hj => by
    obtain rfl := List.mem_singleton.1 hj
    exact wpOp_store hi hw ty x y ho b off v cells hx hy hv ht hs h1 a' ha h
/-- The two results of take, and the entry that they are read of. -/
structure Kh (w : World) (qe : Nat) (EC : Array Value) (v : World) : Prop where
  e : Blk v qe EC 113
  k : ∃ cs, Blk v w.heap.size cs 24 ∧ cs.size = 2
  h : ∃ cs, Blk v (w.heap.size + 1) cs 84 ∧ cs.size = 9
  b : Below w.heap.size w v
theorem results_c3 {fn : Func} {p q r : Tmp} {ty tz : TypeId} (h : fn.results = #[.cell p ty, .cell q tz, .tmp r]) (tmps : Array Value) (P : Program) (w : World) :
    (results fn tmps).run P w = ((asAddr (tmps.getD p undef)).run P w).andThen fun a w₁ => ((loadVar ty a).run P w₁).andThen fun v w₂ => ((asAddr (tmps.getD q undef)).run P w₂).andThen fun b w₃ => ((loadVar tz b).run P w₃).andThen fun u w₄ => .ok (.tuple #[v, u, tmps.getD r undef]) w₄ := by
  simp only [results, h]
  simp [Sem.run_bind, Result.andThen]
theorem ret_c3 {P : Program} {fn : Func} {R : Ending → World → Prop} {ac : Act} {w : World} {p q r : Tmp} {ty tz : TypeId} {m m2 : Nat} {L M : Array Value} {d d2 : TypeDesc} {t t2 : TypeId} {x : Value} (h : fn.results = #[.cell p ty, .cell q tz, .tmp r]) (hp : ac.tmps.getD p undef = .pointer (some ⟨m, 0, none⟩)) (hq : ac.tmps.getD q undef = .pointer (some ⟨m2, 0, none⟩)) (hr : ac.tmps.getD r undef = x) (hdf : ac.defers = [])
    (hb : Blk w m L t) (hu : P.underlying ty = some d) (hd : d.isRow = true) (hi : (P.info? ty).map (·.size) = some L.size)
    (hb2 : Blk w m2 M t2) (hu2 : P.underlying tz = some d2) (hd2 : d2.isRow = true) (hi2 : (P.info? tz).map (·.size) = some M.size) (hR : R (.returned (.tuple #[.agg L, .agg M, x])) w) : bodyPost P fn R .ret ac w := by
  refine bodyPost_ret (v := .tuple #[.agg L, .agg M, x]) ?_ hdf hR
  rw [results_c3 h]
  show ((asAddr (ac.tmps.getD p undef)).run P w).andThen _ = _
  rw [hp, hq, hr]
  have h1 := run_loadVar_mid (P := P) w m 0 ty L.toList d hb.range' hu hd (by rw [Array.length_toList]; exact hi)
  have h2 := run_loadVar_mid (P := P) w m2 0 tz M.toList d2 hb2.range' hu2 hd2 (by rw [Array.length_toList]; exact hi2)
  simp only [asAddr, Sem.run_pure, Result.andThen_ok]
  rw [h1]
  simp only [Result.andThen_ok]
  rw [h2]
  rfl
set_option maxRecDepth 100000 in
set_option maxHeartbeats 4000000 in
theorem take_none (base q ga kA m k N sl : Nat) (fv : Value) (A : List Nat) (es : List En) (cnt : Int → Int) (w : World) (H : Ca base q ga kA m k N fv A es cnt w) (hsl : A[sl]? = some 0) (hN : N ≤ 65536) (hes : es.length ≤ 65536) :
    Calls Try.prog 62 #[.pointer (some ⟨q, 0, none⟩), .int .i64 (sl : Nat)] w fun e w' => e = .returned (.tuple #[.agg #[.int .u16 0, .int .i64 0], .agg #[.int .u16 0, .int .i64 0, .string ⟨#[]⟩, .int .i64 0, .slice none 0 0, .int .i64 0, .int .i64 0, .int .i64 0, .int .i64 0], .bool false]) ∧ Below w.heap.size w w' := by
  have hslN : sl < N := by rw [← H.v.len]; exact (List.getElem?_eq_some_iff.1 hsl).1
  obtain ⟨fa, fc, rfl, hfa⟩ := orow_form H.f
  have c0 : w.cell? ⟨q, 0, none⟩ = some (.slice (some ⟨ga, 0, none⟩) N kA) := H.b.cell 0
  have c1 : w.cell? ⟨q, 1, none⟩ = some (.slice fa es.length fc) := H.b.cell 1
  have ca : w.cell? ⟨ga, sl, none⟩ = some (.int .i64 0) := by
    rw [orow_cell H.a sl (by omega)]; simp [ints, hsl]
  clear H hsl
  generalize es.length = n at *
  have hsli : (sl : Int) < (N : Int) := by omega
  go_enter Try.func62, Try.ntmps62
  go_upto_region 1 with fail
  have hb0 : Below w.heap.size w ((w.alloc (.cells #[.int .u16 0, .int .i64 0] 24)).alloc (.cells #[.int .u16 0, .int .i64 0, .string ⟨#[]⟩, .int .i64 0, .slice none 0 0, .int .i64 0, .int .i64 0, .int .i64 0, .int .i64 0] 84)) := ((Below.refl _ _).alloc (Nat.le_refl _) _).alloc (by simp) _
  have zk : Blk ((w.alloc (.cells #[.int .u16 0, .int .i64 0] 24)).alloc (.cells #[.int .u16 0, .int .i64 0, .string ⟨#[]⟩, .int .i64 0, .slice none 0 0, .int .i64 0, .int .i64 0, .int .i64 0, .int .i64 0] 84)) w.heap.size #[.int .u16 0, .int .i64 0] 24 := (Blk.new w #[.int .u16 0, .int .i64 0] 24).old _
  have zh : Blk ((w.alloc (.cells #[.int .u16 0, .int .i64 0] 24)).alloc (.cells #[.int .u16 0, .int .i64 0, .string ⟨#[]⟩, .int .i64 0, .slice none 0 0, .int .i64 0, .int .i64 0, .int .i64 0, .int .i64 0] 84)) (w.heap.size + 1) #[.int .u16 0, .int .i64 0, .string ⟨#[]⟩, .int .i64 0, .slice none 0 0, .int .i64 0, .int .i64 0, .int .i64 0, .int .i64 0] 84 := by
    have := Blk.new (w.alloc (.cells #[.int .u16 0, .int .i64 0] 24)) #[.int .u16 0, .int .i64 0, .string ⟨#[]⟩, .int .i64 0, .slice none 0 0, .int .i64 0, .int .i64 0, .int .i64 0, .int .i64 0] 84
    simpa using this
  replace c0 := (hb0.cell (p := ⟨q, 0, none⟩) (cell_lt c0)).trans c0
  replace c1 := (hb0.cell (p := ⟨q, 1, none⟩) (cell_lt c1)).trans c1
  replace ca := (hb0.cell (p := ⟨ga, sl, none⟩) (cell_lt ca)).trans ca
  generalize (w.alloc (.cells #[.int .u16 0, .int .i64 0] 24)).alloc (.cells #[.int .u16 0, .int .i64 0, .string ⟨#[]⟩, .int .i64 0, .slice none 0 0, .int .i64 0, .int .i64 0, .int .i64 0, .int .i64 0] 84) = W0 at *
  go_quiet (fail)
  go_upto_region 3 with fail
  have hqW : w.heap.size + 1 < (W0.drewN nq).heap.size := zh.lt
  replace hb0 : Below w.heap.size w (W0.drewN nq) := below_drawsX hb0 nq
  replace zk : Blk (W0.drewN nq) w.heap.size #[.int .u16 0, .int .i64 0] 24 := zk
  replace zh : Blk (W0.drewN nq) (w.heap.size + 1) #[.int .u16 0, .int .i64 0, .string ⟨#[]⟩, .int .i64 0, .slice none 0 0, .int .i64 0, .int .i64 0, .int .i64 0, .int .i64 0] 84 := zh
  clear c0 c1 ca
  generalize W0.drewN nq = W1 at *
  go_upto_region 4 with fail
  have hb1 : Below w.heap.size w (W1.alloc (.cells #[.int .i64 0, .int .u16 0, .int .i64 0, .int .u16 0, .int .i64 0, .string ⟨#[]⟩, .int .i64 0, .slice none 0 0, .int .i64 0, .int .i64 0, .int .i64 0, .int .i64 0] 113)) := hb0.alloc hb0.size _
  replace zk : Blk (W1.alloc (.cells #[.int .i64 0, .int .u16 0, .int .i64 0, .int .u16 0, .int .i64 0, .string ⟨#[]⟩, .int .i64 0, .slice none 0 0, .int .i64 0, .int .i64 0, .int .i64 0, .int .i64 0] 113)) w.heap.size #[.int .u16 0, .int .i64 0] 24 := zk.old _
  replace zh : Blk (W1.alloc (.cells #[.int .i64 0, .int .u16 0, .int .i64 0, .int .u16 0, .int .i64 0, .string ⟨#[]⟩, .int .i64 0, .slice none 0 0, .int .i64 0, .int .i64 0, .int .i64 0, .int .i64 0] 113)) (w.heap.size + 1) #[.int .u16 0, .int .i64 0, .string ⟨#[]⟩, .int .i64 0, .slice none 0 0, .int .i64 0, .int .i64 0, .int .i64 0, .int .i64 0] 84 := zh.old _
  have ze : Blk (W1.alloc (.cells #[.int .i64 0, .int .u16 0, .int .i64 0, .int .u16 0, .int .i64 0, .string ⟨#[]⟩, .int .i64 0, .slice none 0 0, .int .i64 0, .int .i64 0, .int .i64 0, .int .i64 0] 113)) W1.heap.size #[.int .i64 0, .int .u16 0, .int .i64 0, .int .u16 0, .int .i64 0, .string ⟨#[]⟩, .int .i64 0, .slice none 0 0, .int .i64 0, .int .i64 0, .int .i64 0, .int .i64 0] 113 := Blk.new W1 _ _
  generalize W1.alloc (.cells #[.int .i64 0, .int .u16 0, .int .i64 0, .int .u16 0, .int .i64 0, .string ⟨#[]⟩, .int .i64 0, .slice none 0 0, .int .i64 0, .int .i64 0, .int .i64 0, .int .i64 0] 113) = W2 at *
  have hqe : w.heap.size + 1 < W1.heap.size := hqW
  generalize W1.heap.size = qe at *
  have kh0 : Kh w qe #[.int .i64 0, .int .u16 0, .int .i64 0, .int .u16 0, .int .i64 0, .string ⟨#[]⟩, .int .i64 0, .slice none 0 0, .int .i64 0, .int .i64 0, .int .i64 0, .int .i64 0] W2.drew := ⟨ze, ⟨_, zk, rfl⟩, ⟨_, zh, rfl⟩, hb1.drew⟩
  clear ze zk zh hb1 hb0
  refine wp_region_held (S := Kh w qe #[.int .i64 0, .int .u16 0, .int .i64 0, .int .u16 0, .int .i64 0, .string ⟨#[]⟩, .int .i64 0, .slice none 0 0, .int .i64 0, .int .i64 0, .int .i64 0, .int .i64 0]) (by kernel_rfl) ?_
  refine takeH (i := 0) (v := .pointer (some ⟨qe, 1, none⟩)) _ rfl (by kernel_rfl) (by kernel_rfl) (by kernel_rfl) (fun _ _ _ h => h) (.inl ⟨by kernel_rfl, fun _ _ => by kernel_rfl⟩) kh0 rfl ?_
  refine takeH (i := 1) (v := .agg (#[.int .u16 0, .int .i64 0] : Array Value).toList.toArray) _ rfl (by kernel_rfl) (by kernel_rfl) (by kernel_rfl) (fun _ _ _ h => h) (.inl ⟨by kernel_rfl, fun v hv => exec_loadM (cs := (#[.int .u16 0, .int .i64 0] : Array Value).toList) rfl (by kernel_rfl) (hv.e.rangeAt 1 _ (fun i hi => by rcases (show i = 0 ∨ i = 1 by have : i < 2 := hi; omega) with rfl | rfl <;> rfl)) Try.underlying24 rfl (by kernel_rfl)⟩) kh0 rfl ?_
  refine takeH (i := 2) (v := .pointer (some ⟨qe, 3, none⟩)) _ rfl (by kernel_rfl) (by kernel_rfl) (by kernel_rfl) (fun _ _ _ h => h) (.inl ⟨by kernel_rfl, fun _ _ => by kernel_rfl⟩) kh0 rfl ?_
  refine takeH (i := 3) (v := .agg (#[.int .u16 0, .int .i64 0, .string ⟨#[]⟩, .int .i64 0, .slice none 0 0, .int .i64 0, .int .i64 0, .int .i64 0, .int .i64 0] : Array Value).toList.toArray) _ rfl (by kernel_rfl) (by kernel_rfl) (by kernel_rfl) (fun _ _ _ h => h) (.inl ⟨by kernel_rfl, fun v hv => exec_loadM (cs := (#[.int .u16 0, .int .i64 0, .string ⟨#[]⟩, .int .i64 0, .slice none 0 0, .int .i64 0, .int .i64 0, .int .i64 0, .int .i64 0] : Array Value).toList) rfl (by kernel_rfl) (hv.e.rangeAt 3 _ (fun i hi => by rcases (show i = 0 ∨ i = 1 ∨ i = 2 ∨ i = 3 ∨ i = 4 ∨ i = 5 ∨ i = 6 ∨ i = 7 ∨ i = 8 by have : i < 9 := hi; omega) with rfl | rfl | rfl | rfl | rfl | rfl | rfl | rfl | rfl <;> rfl)) Try.underlying84 rfl (by kernel_rfl)⟩) kh0 rfl ?_
  obtain ⟨kc, zk, hkc⟩ := kh0.k
  refine storeH (i := 4) _ (by kernel_rfl) rfl (by kernel_rfl) 24 (.tmp 4) (.tmp 26) rfl w.heap.size 0 (.agg (#[.int .u16 0, .int .i64 0] : Array Value).toList.toArray) #[.int .u16 0, .int .i64 0] (by kernel_rfl) (by kernel_rfl) rfl (zk.there' 2 hkc) (by kernel_rfl) (by kernel_rfl) rfl ?_
  intro wS1 eS1
  have zk1 : Blk wS1 w.heap.size #[.int .u16 0, .int .i64 0] 24 := by rw [eS1]; exact zk.setAll (by rw [hkc]; rfl)
  have kh1 : Kh w qe #[.int .i64 0, .int .u16 0, .int .i64 0, .int .u16 0, .int .i64 0, .string ⟨#[]⟩, .int .i64 0, .slice none 0 0, .int .i64 0, .int .i64 0, .int .i64 0, .int .i64 0] wS1 := ⟨by rw [eS1]; exact kh0.e.otherCells (fun e => by omega) _ _, ⟨_, zk1, rfl⟩, by rw [eS1]; obtain ⟨c, z, hc⟩ := kh0.h; exact ⟨c, z.otherCells (by omega) _ _, hc⟩, by rw [eS1]; exact setCells_below' (Nat.le_refl _) _ _ _ _ kh0.b⟩
  clear eS1
  refine ⟨kh1, ?_⟩
  obtain ⟨hc, zh, hhc⟩ := kh1.h
  refine storeH (i := 5) _ (by kernel_rfl) rfl (by kernel_rfl) 84 (.tmp 5) (.tmp 28) rfl (w.heap.size + 1) 0 (.agg (#[.int .u16 0, .int .i64 0, .string ⟨#[]⟩, .int .i64 0, .slice none 0 0, .int .i64 0, .int .i64 0, .int .i64 0, .int .i64 0] : Array Value).toList.toArray) #[.int .u16 0, .int .i64 0, .string ⟨#[]⟩, .int .i64 0, .slice none 0 0, .int .i64 0, .int .i64 0, .int .i64 0, .int .i64 0] (by kernel_rfl) (by kernel_rfl) rfl (zh.there' 9 hhc) (by kernel_rfl) (by kernel_rfl) rfl ?_
  intro wS2 eS2
  have zh2 : Blk wS2 (w.heap.size + 1) #[.int .u16 0, .int .i64 0, .string ⟨#[]⟩, .int .i64 0, .slice none 0 0, .int .i64 0, .int .i64 0, .int .i64 0, .int .i64 0] 84 := by rw [eS2]; exact zh.setAll (by rw [hhc]; rfl)
  have zk2 : Blk wS2 w.heap.size #[.int .u16 0, .int .i64 0] 24 := by rw [eS2]; exact zk1.otherCells (by omega) _ _
  have kh2 : Kh w qe #[.int .i64 0, .int .u16 0, .int .i64 0, .int .u16 0, .int .i64 0, .string ⟨#[]⟩, .int .i64 0, .slice none 0 0, .int .i64 0, .int .i64 0, .int .i64 0, .int .i64 0] wS2 := ⟨by rw [eS2]; exact kh1.e.otherCells (fun e => by omega) _ _, ⟨_, zk2, rfl⟩, ⟨_, zh2, rfl⟩, by rw [eS2]; exact setCells_below' (by omega) _ _ _ _ kh1.b⟩
  clear eS2
  refine ⟨kh2, ?_⟩
  refine takeH (i := 6) (v := .bool false) _ rfl (by kernel_rfl) (by kernel_rfl) (by kernel_rfl) (fun _ _ _ h => h) (.inl ⟨by kernel_rfl, fun _ _ => by kernel_rfl⟩) kh2 rfl ?_
  refine wpAnyH_done (by kernel_rfl) ?_ _
  go_wp2
  refine ret_c3 (m := w.heap.size) (m2 := w.heap.size + 1) (L := #[.int .u16 0, .int .i64 0]) (M := #[.int .u16 0, .int .i64 0, .string ⟨#[]⟩, .int .i64 0, .slice none 0 0, .int .i64 0, .int .i64 0, .int .i64 0, .int .i64 0]) (x := .bool false) Try.results62 (by kernel_rfl) (by kernel_rfl) (by kernel_rfl) (by kernel_rfl) zk2 Try.underlying24 rfl (by kernel_rfl) zh2 Try.underlying84 rfl (by kernel_rfl) ?_
  exact ⟨rfl, kh2.b⟩
end Go.Proofs.Ytpnalcbpdejpjaa
