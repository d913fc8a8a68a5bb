/-
  What valid and Valid answer of every video memory on every board, the code's and the document's.
-/
import Derived.Test.YtecaipakaaongaaXvOwn
import Derived.Test.YtecaipakaaongaaXVF
import Derived.Test.YtecaipakaaongaaXvEq
set_option linter.unusedSimpArgs false
set_option linter.unusedVariables false
namespace Go.Proofs.Ytecaipakaaongaa
open Go.RowKit Classical
def chrC (f : Nat → Nat) : Array Value := ((List.range 8192).map fun k => Value.int .u8 (f (4385 + k) : Nat)).toArray
theorem chrC_at (f : Nat → Nat) (k : Nat) (hk : k < 8192) : (chrC f)[k]? = some (.int .u8 (f (4385 + k) : Nat)) := by
  unfold chrC
  rw [List.getElem?_toArray, List.getElem?_map, List.getElem?_range hk]
  rfl
theorem chrC_len (f : Nat → Nat) : (chrC f).toList.length = 8192 := by unfold chrC; simp
def isZ (v : Value) : Bool := match v with
  | .int .u8 n => n == 0
  | _ => false
theorem isZ_eq {v : Value} (h : isZ v = true) : v = .int .u8 0 := by
  unfold isZ at h
  split at h
  · rw [of_decide_eq_true h]
  · cases h
theorem zc_all : (Try.zeroCells25.toList.all isZ) = true := by kernel_rfl
theorem zc_at (k : Nat) (hk : k < 8192) : Try.zeroCells25[k]? = some (.int .u8 ((0 : Nat) : Int)) := by
  have hs := Try.zeroCells25_size
  have h := List.all_eq_true.1 zc_all (Try.zeroCells25[k]'(by omega)) (by rw [Array.mem_toList_iff]; exact Array.getElem_mem _)
  rw [Array.getElem?_eq_getElem (by omega), isZ_eq h]
  rfl
def chrZ (f : Nat → Nat) : Bool := (List.range 8192).all fun i => f (4385 + i) == 0
theorem eqChr (f : Nat → Nat) (w : World) : (Op.equalIn 10000 25 (.agg (chrC f)) (.agg Try.zeroCells25)).run Try.prog w = .ok (chrZ f) w :=
  eqArr 9998 25 8192 Try.underlying25 _ _ (fun i => f (4385 + i)) (fun _ => 0) (fun i hi => chrC_at f i hi) (fun i hi => zc_at i hi) w
def valF (f : Nat → Nat) (b : Bd) : Bool := fitF f && (validB b && (b.chrRam || chrZ f))
theorem pl_take {P : Program} {ops : Array Oper} {Q : Exit → Act → World → Prop} {a : Act} {w : World} {rest : List Oper} {o : Oper} {v : Value} (hy : YieldsIf P ops (fun x => x = w) o v a) (a' : Act) (ha : a.put o.dst v = a')
    (h : wpList P ops Q rest a' w) : wpList P ops Q (o :: rest) a w := by
  subst ha
  rcases hy with ⟨hw, he⟩ | ⟨hw, rfl⟩
  · exact BigFrame.wpList_want hw fun _ hK => by
      unfold Oper.wp
      rw [he w rfl]
      exact hK _ _ h
  · exact wpList_step fun K hK => by
      rw [hw]
      exact hK _ _ h
theorem pl_yes {P : Program} {ops : Array Oper} {Q : Exit → Act → World → Prop} {a : Act} {w : World} {rest : List Oper} {o : Oper} {v : Value} (hw : Region.wanted o (yielded ops a.tmps) = true) (he : ∀ W, W = w → (execOp a.eval o).run P W = .ok (.value v) W) (a' : Act) (ha : a.put o.dst v = a')
    (h : wpList P ops Q rest a' w) : wpList P ops Q (o :: rest) a w := pl_take (.inl ⟨hw, he⟩) a' ha h
theorem pl_no {P : Program} {ops : Array Oper} {Q : Exit → Act → World → Prop} {a : Act} {w : World} {rest : List Oper} {o : Oper} {v : Value} (hw : Region.wanted o (yielded ops a.tmps) = false) (hv : v = undef) (a' : Act) (ha : a.put o.dst v = a')
    (h : wpList P ops Q rest a' w) : wpList P ops Q (o :: rest) a w := pl_take (.inr ⟨hw, hv⟩) a' ha h
theorem plCall {P : Program} {ops : Array Oper} {Q : Exit → Act → World → Prop} {a : Act} {w : World} {rest : List Oper} {o : Oper} {f : FuncId} {args : Array Value} {v : Value} {R : World → Prop} (hw : Region.wanted o (yielded ops a.tmps) = true)
    (he : (execOp a.eval o).run P w = .ok (.enter f args) w) (hc : Calls P f args w fun e w' => e = .returned v ∧ R w') (a' : Act) (ha : a.put o.dst v = a') (h : ∀ w', R w' → wpList P ops Q rest a' w') : wpList P ops Q (o :: rest) a w := by
  subst ha
  exact BigFrame.wpList_want hw fun _ hK => by
    unfold Oper.wp
    rw [he, Oper.upon_enter]
    refine hc.mono ?_
    rintro e w' ⟨rfl, hR⟩
    exact hK _ _ (h w' hR)
theorem yieldsBd {ops : Array Oper} {S : World → Prop} {op : Oper} {a : Act} (hw : Region.wanted op (yielded ops a.tmps) = true) (x : Operand) (ho : op.op = .load 37 x)
    (b : Nat) (hx : a.eval x = .pointer (some ⟨b, 0, none⟩)) (cs : Array Value) (hS : ∀ w, S w → Blk w b cs 37) (hs : cs.size = 31) : YieldsIf Try.prog ops S op (.agg cs) a := by
  have h := yieldsIf_load_mid (P := Try.prog) (ops := ops) (S := S) hw 37 x ho b 0 hx cs.toList _ (fun v hv => Blk.range' (hS v hv)) Try.underlying37 rfl (by rw [Array.length_toList, hs]; kernel_rfl)
  rw [Array.toArray_toList] at h
  exact h
theorem yieldsArr {ops : Array Oper} {S : World → Prop} {op : Oper} {a : Act} (hw : Region.wanted op (yielded ops a.tmps) = true) (x : Operand) (ho : op.op = .load 25 x)
    (b o : Nat) (hx : a.eval x = .pointer (some ⟨b, o, none⟩)) (cs : Array Value) (hS : ∀ w, S w → w.rangeAt b o cs.toList) (hs : cs.toList.length = 8192) : YieldsIf Try.prog ops S op (.agg cs) a := by
  have h := yieldsIf_load_mid (P := Try.prog) (ops := ops) (S := S) hw 25 x ho b o hx cs.toList _ hS Try.underlying25 rfl (by rw [hs]; kernel_rfl)
  rw [Array.toArray_toList] at h
  exact h
theorem exec_ldB {ρ : Operand → Value} {o : Oper} {x : Operand} {b k : Nat} {v : Bool} {w : World} (ho : o.op = .load 4 x) (hx : ρ x = .pointer (some ⟨b, k, none⟩)) (hc : w.cell? ⟨b, k, none⟩ = some (.bool v)) : (execOp ρ o).run Try.prog w = .ok (.value (.bool v)) w := by
  obtain ⟨dst, o, ty, pos, after, guard⟩ := o
  simp only at ho
  subst ho
  unfold execOp
  simp only [hx]
  go_simp
theorem exec_bz {ρ : Operand → Value} {o : Oper} {w : World} (ho : o.op = .build 25 #[]) : (execOp ρ o).run Try.prog w = .ok (.value (.agg Try.zeroCells25)) w := by
  obtain ⟨dst, o, ty, pos, after, guard⟩ := o
  simp only at ho
  subst ho
  unfold execOp
  go_simp
theorem exec_eqArr {ρ : Operand → Value} {o : Oper} {x y : Operand} {t : TypeId} {A B : Array Value} {z : Bool} {w : World} (ho : o.op = .binOp .eql 25 x y t) (hx : ρ x = .agg A) (hy : ρ y = .agg B) (h : (Op.equalIn 10000 25 (.agg A) (.agg B)).run Try.prog w = .ok z w) : (execOp ρ o).run Try.prog w = .ok (.value (.bool z)) w := by
  obtain ⟨dst, o, ty, pos, after, guard⟩ := o
  simp only at ho
  subst ho
  rw [vrun_exec_binOp, hx, hy, run_eqGuard_agg w .eql 25 _ _ _ _ (by kernel_rfl), Result.andThen_ok, run_eql_struct, h]
  rfl
set_option maxRecDepth 100000 in
set_option maxHeartbeats 2000000 in
theorem vvalid_any (cs : Array Value) (f : Nat → Nat) (F : Fok f) (V : Vid cs f) (b : Bd) (hr : b.r.length = 8) (p : Nat) (w : World) (hb : Blk w p cs 28) :
    Calls Try.prog 25 #[.pointer (some ⟨p, 0, none⟩), .agg b.cells] w fun e w' => e = .returned (.bool (valF f b)) ∧ Below w.heap.size w w' := by
  have C := isB b hr
  have FA := fun (W : World) (h : Hid (Blk W p cs 28)) => vfits_any cs f F V p W h.out
  have VA := fun (W : World) => valid_any W b hr
  generalize b.cells = bc at *
  have hbs : Hid (bc.size = 31) := C.size
  have hb6 : Hid (bc[6]? = some (.bool b.chrRam)) := C.h6
  clear C
  have IB : Hid ((Try.prog.info? 37).map (·.size) = some 31) := (by kernel_rfl : (Try.prog.info? 37).map (·.size) = some 31)
  have RC : Hid (∀ W, Blk W p cs 28 → W.rangeAt p 4385 (chrC f).toList) := fun W h => V.range h 4385 8192 (by decide)
  have EQ := eqChr f
  have CL : Hid ((chrC f).toList.length = 8192) := chrC_len f
  have IC : Hid ((Try.prog.info? 25).map (·.size) = some 8192) := (by kernel_rfl : (Try.prog.info? 25).map (·.size) = some 8192)
  generalize chrC f = A at RC EQ CL
  have HVF : Hid (valF f b = (fitF f && (validB b && (b.chrRam || chrZ f)))) := rfl
  generalize valF f b = vf at *
  generalize chrZ f = z at *
  have BV : Hid (Blk (w.alloc (.cells bc 37)) p cs 28) := hb.old _
  have BB : Hid (Blk (w.alloc (.cells bc 37)) w.heap.size bc 37) := Blk.new w bc _
  have L0 : Hid (Below w.heap.size w (w.alloc (.cells bc 37))) := (Below.refl _ _).alloc (Nat.le_refl _) _
  have plt : Hid (p < w.heap.size) := hb.lt
  clear hb
  go_enter Try.func25, Try.ntmps25
  go_upto_region 1 with fail
  generalize w.alloc (.cells bc 37) = W at *
  generalize fitF f = ff at *
  generalize validB b = vb at *
  refine wp_region_list ?_
  dsimp only
  cases ff
  · with_reducible refine pl_yes (v := .pointer (some ⟨p, 0, none⟩)) (by kernel_rfl) (fun _ _ => by kernel_rfl) ⟨#[.pointer (some ⟨p, 0, none⟩), .agg bc, undef, .pointer (some ⟨w.heap.size, 0, none⟩), .bool false, .pointer (some ⟨p, 0, none⟩), undef, undef, undef, undef, undef, undef, undef, undef, undef, undef, undef, undef, undef, undef, undef, undef, undef], []⟩ (by kernel_rfl) ?_
    with_reducible refine plCall (f := 21) (v := .bool false) (by kernel_rfl) (by kernel_rfl) (FA _ BV) ⟨#[.pointer (some ⟨p, 0, none⟩), .agg bc, undef, .pointer (some ⟨w.heap.size, 0, none⟩), .bool false, .pointer (some ⟨p, 0, none⟩), .bool false, undef, undef, undef, undef, undef, undef, undef, undef, undef, undef, undef, undef, undef, undef, undef, undef], []⟩ (by kernel_rfl) ?_
    rintro _ rfl
    with_reducible refine pl_yes (v := .bool false) (by kernel_rfl) (fun _ _ => by kernel_rfl) ⟨#[.pointer (some ⟨p, 0, none⟩), .agg bc, undef, .pointer (some ⟨w.heap.size, 0, none⟩), .bool false, .pointer (some ⟨p, 0, none⟩), .bool false, .bool false, undef, undef, undef, undef, undef, undef, undef, undef, undef, undef, undef, undef, undef, undef, undef], []⟩ (by kernel_rfl) ?_
    with_reducible refine pl_no (v := undef) (by kernel_rfl) rfl ⟨#[.pointer (some ⟨p, 0, none⟩), .agg bc, undef, .pointer (some ⟨w.heap.size, 0, none⟩), .bool false, .pointer (some ⟨p, 0, none⟩), .bool false, .bool false, undef, undef, undef, undef, undef, undef, undef, undef, undef, undef, undef, undef, undef, undef, undef], []⟩ (by kernel_rfl) ?_
    with_reducible refine pl_no (v := undef) (by kernel_rfl) rfl ⟨#[.pointer (some ⟨p, 0, none⟩), .agg bc, undef, .pointer (some ⟨w.heap.size, 0, none⟩), .bool false, .pointer (some ⟨p, 0, none⟩), .bool false, .bool false, undef, undef, undef, undef, undef, undef, undef, undef, undef, undef, undef, undef, undef, undef, undef], []⟩ (by kernel_rfl) ?_
    with_reducible refine pl_yes (v := .bool false) (by kernel_rfl) (fun _ _ => by kernel_rfl) ⟨#[.pointer (some ⟨p, 0, none⟩), .agg bc, undef, .pointer (some ⟨w.heap.size, 0, none⟩), .bool false, .pointer (some ⟨p, 0, none⟩), .bool false, .bool false, undef, undef, .bool false, undef, undef, undef, undef, undef, undef, undef, undef, undef, undef, undef, undef], []⟩ (by kernel_rfl) ?_
    with_reducible refine pl_yes (v := .bool false) (by kernel_rfl) (fun _ _ => by kernel_rfl) ⟨#[.pointer (some ⟨p, 0, none⟩), .agg bc, undef, .pointer (some ⟨w.heap.size, 0, none⟩), .bool false, .pointer (some ⟨p, 0, none⟩), .bool false, .bool false, undef, undef, .bool false, .bool false, undef, undef, undef, undef, undef, undef, undef, undef, undef, undef, undef], []⟩ (by kernel_rfl) ?_
    with_reducible refine pl_no (v := undef) (by kernel_rfl) rfl ⟨#[.pointer (some ⟨p, 0, none⟩), .agg bc, undef, .pointer (some ⟨w.heap.size, 0, none⟩), .bool false, .pointer (some ⟨p, 0, none⟩), .bool false, .bool false, undef, undef, .bool false, .bool false, undef, undef, undef, undef, undef, undef, undef, undef, undef, undef, undef], []⟩ (by kernel_rfl) ?_
    with_reducible refine pl_no (v := undef) (by kernel_rfl) rfl ⟨#[.pointer (some ⟨p, 0, none⟩), .agg bc, undef, .pointer (some ⟨w.heap.size, 0, none⟩), .bool false, .pointer (some ⟨p, 0, none⟩), .bool false, .bool false, undef, undef, .bool false, .bool false, undef, undef, undef, undef, undef, undef, undef, undef, undef, undef, undef], []⟩ (by kernel_rfl) ?_
    with_reducible refine pl_no (v := undef) (by kernel_rfl) rfl ⟨#[.pointer (some ⟨p, 0, none⟩), .agg bc, undef, .pointer (some ⟨w.heap.size, 0, none⟩), .bool false, .pointer (some ⟨p, 0, none⟩), .bool false, .bool false, undef, undef, .bool false, .bool false, undef, undef, undef, undef, undef, undef, undef, undef, undef, undef, undef], []⟩ (by kernel_rfl) ?_
    with_reducible refine pl_no (v := undef) (by kernel_rfl) rfl ⟨#[.pointer (some ⟨p, 0, none⟩), .agg bc, undef, .pointer (some ⟨w.heap.size, 0, none⟩), .bool false, .pointer (some ⟨p, 0, none⟩), .bool false, .bool false, undef, undef, .bool false, .bool false, undef, undef, undef, undef, undef, undef, undef, undef, undef, undef, undef], []⟩ (by kernel_rfl) ?_
    with_reducible refine pl_no (v := undef) (by kernel_rfl) rfl ⟨#[.pointer (some ⟨p, 0, none⟩), .agg bc, undef, .pointer (some ⟨w.heap.size, 0, none⟩), .bool false, .pointer (some ⟨p, 0, none⟩), .bool false, .bool false, undef, undef, .bool false, .bool false, undef, undef, undef, undef, undef, undef, undef, undef, undef, undef, undef], []⟩ (by kernel_rfl) ?_
    with_reducible refine pl_no (v := undef) (by kernel_rfl) rfl ⟨#[.pointer (some ⟨p, 0, none⟩), .agg bc, undef, .pointer (some ⟨w.heap.size, 0, none⟩), .bool false, .pointer (some ⟨p, 0, none⟩), .bool false, .bool false, undef, undef, .bool false, .bool false, undef, undef, undef, undef, undef, undef, undef, undef, undef, undef, undef], []⟩ (by kernel_rfl) ?_
    with_reducible refine pl_no (v := undef) (by kernel_rfl) rfl ⟨#[.pointer (some ⟨p, 0, none⟩), .agg bc, undef, .pointer (some ⟨w.heap.size, 0, none⟩), .bool false, .pointer (some ⟨p, 0, none⟩), .bool false, .bool false, undef, undef, .bool false, .bool false, undef, undef, undef, undef, undef, undef, undef, undef, undef, undef, undef], []⟩ (by kernel_rfl) ?_
    with_reducible refine pl_no (v := undef) (by kernel_rfl) rfl ⟨#[.pointer (some ⟨p, 0, none⟩), .agg bc, undef, .pointer (some ⟨w.heap.size, 0, none⟩), .bool false, .pointer (some ⟨p, 0, none⟩), .bool false, .bool false, undef, undef, .bool false, .bool false, undef, undef, undef, undef, undef, undef, undef, undef, undef, undef, undef], []⟩ (by kernel_rfl) ?_
    with_reducible refine pl_no (v := undef) (by kernel_rfl) rfl ⟨#[.pointer (some ⟨p, 0, none⟩), .agg bc, undef, .pointer (some ⟨w.heap.size, 0, none⟩), .bool false, .pointer (some ⟨p, 0, none⟩), .bool false, .bool false, undef, undef, .bool false, .bool false, undef, undef, undef, undef, undef, undef, undef, undef, undef, undef, undef], []⟩ (by kernel_rfl) ?_
    with_reducible refine pl_no (v := undef) (by kernel_rfl) rfl ⟨#[.pointer (some ⟨p, 0, none⟩), .agg bc, undef, .pointer (some ⟨w.heap.size, 0, none⟩), .bool false, .pointer (some ⟨p, 0, none⟩), .bool false, .bool false, undef, undef, .bool false, .bool false, undef, undef, undef, undef, undef, undef, undef, undef, undef, undef, undef], []⟩ (by kernel_rfl) ?_
    with_reducible refine pl_yes (v := .bool false) (by kernel_rfl) (fun _ _ => by kernel_rfl) ⟨#[.pointer (some ⟨p, 0, none⟩), .agg bc, undef, .pointer (some ⟨w.heap.size, 0, none⟩), .bool false, .pointer (some ⟨p, 0, none⟩), .bool false, .bool false, undef, undef, .bool false, .bool false, undef, undef, undef, undef, undef, undef, undef, undef, undef, undef, .bool false], []⟩ (by kernel_rfl) ?_
    with_reducible refine pl_yes (v := .bool false) (by kernel_rfl) (fun _ _ => by kernel_rfl) ⟨#[.pointer (some ⟨p, 0, none⟩), .agg bc, undef, .pointer (some ⟨w.heap.size, 0, none⟩), .bool false, .pointer (some ⟨p, 0, none⟩), .bool false, .bool false, undef, undef, .bool false, .bool false, undef, undef, undef, undef, undef, undef, undef, undef, undef, undef, .bool false], []⟩ (by kernel_rfl) ?_
    refine wpList_nil ?_
    clear FA VA EQ
    go_wp2
    refine bodyPost_ret (v := .bool false) ((results_tmp Try.results25 _ _ _).trans (by kernel_rfl)) (by kernel_rfl) ?_
    exact ⟨by rw [HVF.out]; simp, L0.out⟩
  · cases vb
    · with_reducible refine pl_yes (v := .pointer (some ⟨p, 0, none⟩)) (by kernel_rfl) (fun _ _ => by kernel_rfl) ⟨#[.pointer (some ⟨p, 0, none⟩), .agg bc, undef, .pointer (some ⟨w.heap.size, 0, none⟩), .bool false, .pointer (some ⟨p, 0, none⟩), undef, undef, undef, undef, undef, undef, undef, undef, undef, undef, undef, undef, undef, undef, undef, undef, undef], []⟩ (by kernel_rfl) ?_
      with_reducible refine plCall (f := 21) (v := .bool true) (by kernel_rfl) (by kernel_rfl) (FA _ BV) ⟨#[.pointer (some ⟨p, 0, none⟩), .agg bc, undef, .pointer (some ⟨w.heap.size, 0, none⟩), .bool false, .pointer (some ⟨p, 0, none⟩), .bool true, undef, undef, undef, undef, undef, undef, undef, undef, undef, undef, undef, undef, undef, undef, undef, undef], []⟩ (by kernel_rfl) ?_
      rintro _ rfl
      with_reducible refine pl_yes (v := .bool true) (by kernel_rfl) (fun _ _ => by kernel_rfl) ⟨#[.pointer (some ⟨p, 0, none⟩), .agg bc, undef, .pointer (some ⟨w.heap.size, 0, none⟩), .bool false, .pointer (some ⟨p, 0, none⟩), .bool true, .bool true, undef, undef, undef, undef, undef, undef, undef, undef, undef, undef, undef, undef, undef, undef, undef], []⟩ (by kernel_rfl) ?_
      with_reducible refine pl_take (v := .agg bc) (yieldsBd (by kernel_rfl) (.tmp 3) rfl w.heap.size (by kernel_rfl) bc (fun v hv => by rw [hv]; exact BB.out) hbs.out) ⟨#[.pointer (some ⟨p, 0, none⟩), .agg bc, undef, .pointer (some ⟨w.heap.size, 0, none⟩), .bool false, .pointer (some ⟨p, 0, none⟩), .bool true, .bool true, .agg bc, undef, undef, undef, undef, undef, undef, undef, undef, undef, undef, undef, undef, undef, undef], []⟩ (by kernel_rfl) ?_
      with_reducible refine plCall (f := 42) (v := .bool false) (by kernel_rfl) (by kernel_rfl) (VA _) ⟨#[.pointer (some ⟨p, 0, none⟩), .agg bc, undef, .pointer (some ⟨w.heap.size, 0, none⟩), .bool false, .pointer (some ⟨p, 0, none⟩), .bool true, .bool true, .agg bc, .bool false, undef, undef, undef, undef, undef, undef, undef, undef, undef, undef, undef, undef, undef], []⟩ (by kernel_rfl) ?_
      intro w2 hbw
      have L2 : Hid (Below w.heap.size w w2) := L0.out.trans (hbw.mono (Nat.le_of_lt (Blk.lt BB.out)))
      have c6 : Hid (w2.cell? ⟨w.heap.size, 6, none⟩ = some (.bool b.chrRam)) := ((BB.out.below BB.out.lt hbw).cell 6).trans hb6.out
      have R2 : Hid (w2.rangeAt p 4385 A.toList) := RC.out w2 (BV.out.below BV.out.lt hbw)
      clear hbw
      with_reducible refine pl_yes (v := .bool false) (by kernel_rfl) (fun _ _ => by kernel_rfl) ⟨#[.pointer (some ⟨p, 0, none⟩), .agg bc, undef, .pointer (some ⟨w.heap.size, 0, none⟩), .bool false, .pointer (some ⟨p, 0, none⟩), .bool true, .bool true, .agg bc, .bool false, .bool false, undef, undef, undef, undef, undef, undef, undef, undef, undef, undef, undef, undef], []⟩ (by kernel_rfl) ?_
      with_reducible refine pl_yes (v := .bool false) (by kernel_rfl) (fun _ _ => by kernel_rfl) ⟨#[.pointer (some ⟨p, 0, none⟩), .agg bc, undef, .pointer (some ⟨w.heap.size, 0, none⟩), .bool false, .pointer (some ⟨p, 0, none⟩), .bool true, .bool true, .agg bc, .bool false, .bool false, .bool false, undef, undef, undef, undef, undef, undef, undef, undef, undef, undef, undef], []⟩ (by kernel_rfl) ?_
      with_reducible refine pl_no (v := undef) (by kernel_rfl) rfl ⟨#[.pointer (some ⟨p, 0, none⟩), .agg bc, undef, .pointer (some ⟨w.heap.size, 0, none⟩), .bool false, .pointer (some ⟨p, 0, none⟩), .bool true, .bool true, .agg bc, .bool false, .bool false, .bool false, undef, undef, undef, undef, undef, undef, undef, undef, undef, undef, undef], []⟩ (by kernel_rfl) ?_
      with_reducible refine pl_no (v := undef) (by kernel_rfl) rfl ⟨#[.pointer (some ⟨p, 0, none⟩), .agg bc, undef, .pointer (some ⟨w.heap.size, 0, none⟩), .bool false, .pointer (some ⟨p, 0, none⟩), .bool true, .bool true, .agg bc, .bool false, .bool false, .bool false, undef, undef, undef, undef, undef, undef, undef, undef, undef, undef, undef], []⟩ (by kernel_rfl) ?_
      with_reducible refine pl_no (v := undef) (by kernel_rfl) rfl ⟨#[.pointer (some ⟨p, 0, none⟩), .agg bc, undef, .pointer (some ⟨w.heap.size, 0, none⟩), .bool false, .pointer (some ⟨p, 0, none⟩), .bool true, .bool true, .agg bc, .bool false, .bool false, .bool false, undef, undef, undef, undef, undef, undef, undef, undef, undef, undef, undef], []⟩ (by kernel_rfl) ?_
      with_reducible refine pl_no (v := undef) (by kernel_rfl) rfl ⟨#[.pointer (some ⟨p, 0, none⟩), .agg bc, undef, .pointer (some ⟨w.heap.size, 0, none⟩), .bool false, .pointer (some ⟨p, 0, none⟩), .bool true, .bool true, .agg bc, .bool false, .bool false, .bool false, undef, undef, undef, undef, undef, undef, undef, undef, undef, undef, undef], []⟩ (by kernel_rfl) ?_
      with_reducible refine pl_no (v := undef) (by kernel_rfl) rfl ⟨#[.pointer (some ⟨p, 0, none⟩), .agg bc, undef, .pointer (some ⟨w.heap.size, 0, none⟩), .bool false, .pointer (some ⟨p, 0, none⟩), .bool true, .bool true, .agg bc, .bool false, .bool false, .bool false, undef, undef, undef, undef, undef, undef, undef, undef, undef, undef, undef], []⟩ (by kernel_rfl) ?_
      with_reducible refine pl_no (v := undef) (by kernel_rfl) rfl ⟨#[.pointer (some ⟨p, 0, none⟩), .agg bc, undef, .pointer (some ⟨w.heap.size, 0, none⟩), .bool false, .pointer (some ⟨p, 0, none⟩), .bool true, .bool true, .agg bc, .bool false, .bool false, .bool false, undef, undef, undef, undef, undef, undef, undef, undef, undef, undef, undef], []⟩ (by kernel_rfl) ?_
      with_reducible refine pl_no (v := undef) (by kernel_rfl) rfl ⟨#[.pointer (some ⟨p, 0, none⟩), .agg bc, undef, .pointer (some ⟨w.heap.size, 0, none⟩), .bool false, .pointer (some ⟨p, 0, none⟩), .bool true, .bool true, .agg bc, .bool false, .bool false, .bool false, undef, undef, undef, undef, undef, undef, undef, undef, undef, undef, undef], []⟩ (by kernel_rfl) ?_
      with_reducible refine pl_no (v := undef) (by kernel_rfl) rfl ⟨#[.pointer (some ⟨p, 0, none⟩), .agg bc, undef, .pointer (some ⟨w.heap.size, 0, none⟩), .bool false, .pointer (some ⟨p, 0, none⟩), .bool true, .bool true, .agg bc, .bool false, .bool false, .bool false, undef, undef, undef, undef, undef, undef, undef, undef, undef, undef, undef], []⟩ (by kernel_rfl) ?_
      with_reducible refine pl_no (v := undef) (by kernel_rfl) rfl ⟨#[.pointer (some ⟨p, 0, none⟩), .agg bc, undef, .pointer (some ⟨w.heap.size, 0, none⟩), .bool false, .pointer (some ⟨p, 0, none⟩), .bool true, .bool true, .agg bc, .bool false, .bool false, .bool false, undef, undef, undef, undef, undef, undef, undef, undef, undef, undef, undef], []⟩ (by kernel_rfl) ?_
      with_reducible refine pl_no (v := undef) (by kernel_rfl) rfl ⟨#[.pointer (some ⟨p, 0, none⟩), .agg bc, undef, .pointer (some ⟨w.heap.size, 0, none⟩), .bool false, .pointer (some ⟨p, 0, none⟩), .bool true, .bool true, .agg bc, .bool false, .bool false, .bool false, undef, undef, undef, undef, undef, undef, undef, undef, undef, undef, undef], []⟩ (by kernel_rfl) ?_
      with_reducible refine pl_yes (v := .bool false) (by kernel_rfl) (fun _ _ => by kernel_rfl) ⟨#[.pointer (some ⟨p, 0, none⟩), .agg bc, undef, .pointer (some ⟨w.heap.size, 0, none⟩), .bool false, .pointer (some ⟨p, 0, none⟩), .bool true, .bool true, .agg bc, .bool false, .bool false, .bool false, undef, undef, undef, undef, undef, undef, undef, undef, undef, undef, .bool false], []⟩ (by kernel_rfl) ?_
      with_reducible refine pl_yes (v := .bool false) (by kernel_rfl) (fun _ _ => by kernel_rfl) ⟨#[.pointer (some ⟨p, 0, none⟩), .agg bc, undef, .pointer (some ⟨w.heap.size, 0, none⟩), .bool false, .pointer (some ⟨p, 0, none⟩), .bool true, .bool true, .agg bc, .bool false, .bool false, .bool false, undef, undef, undef, undef, undef, undef, undef, undef, undef, undef, .bool false], []⟩ (by kernel_rfl) ?_
      refine wpList_nil ?_
      clear FA VA EQ
      go_wp2
      refine bodyPost_ret (v := .bool false) ((results_tmp Try.results25 _ _ _).trans (by kernel_rfl)) (by kernel_rfl) ?_
      exact ⟨by rw [HVF.out]; simp, L2.out⟩
    · cases hcr : b.chrRam
      · with_reducible refine pl_yes (v := .pointer (some ⟨p, 0, none⟩)) (by kernel_rfl) (fun _ _ => by kernel_rfl) ⟨#[.pointer (some ⟨p, 0, none⟩), .agg bc, undef, .pointer (some ⟨w.heap.size, 0, none⟩), .bool false, .pointer (some ⟨p, 0, none⟩), undef, undef, undef, undef, undef, undef, undef, undef, undef, undef, undef, undef, undef, undef, undef, undef, undef], []⟩ (by kernel_rfl) ?_
        with_reducible refine plCall (f := 21) (v := .bool true) (by kernel_rfl) (by kernel_rfl) (FA _ BV) ⟨#[.pointer (some ⟨p, 0, none⟩), .agg bc, undef, .pointer (some ⟨w.heap.size, 0, none⟩), .bool false, .pointer (some ⟨p, 0, none⟩), .bool true, undef, undef, undef, undef, undef, undef, undef, undef, undef, undef, undef, undef, undef, undef, undef, undef], []⟩ (by kernel_rfl) ?_
        rintro _ rfl
        with_reducible refine pl_yes (v := .bool true) (by kernel_rfl) (fun _ _ => by kernel_rfl) ⟨#[.pointer (some ⟨p, 0, none⟩), .agg bc, undef, .pointer (some ⟨w.heap.size, 0, none⟩), .bool false, .pointer (some ⟨p, 0, none⟩), .bool true, .bool true, undef, undef, undef, undef, undef, undef, undef, undef, undef, undef, undef, undef, undef, undef, undef], []⟩ (by kernel_rfl) ?_
        with_reducible refine pl_take (v := .agg bc) (yieldsBd (by kernel_rfl) (.tmp 3) rfl w.heap.size (by kernel_rfl) bc (fun v hv => by rw [hv]; exact BB.out) hbs.out) ⟨#[.pointer (some ⟨p, 0, none⟩), .agg bc, undef, .pointer (some ⟨w.heap.size, 0, none⟩), .bool false, .pointer (some ⟨p, 0, none⟩), .bool true, .bool true, .agg bc, undef, undef, undef, undef, undef, undef, undef, undef, undef, undef, undef, undef, undef, undef], []⟩ (by kernel_rfl) ?_
        with_reducible refine plCall (f := 42) (v := .bool true) (by kernel_rfl) (by kernel_rfl) (VA _) ⟨#[.pointer (some ⟨p, 0, none⟩), .agg bc, undef, .pointer (some ⟨w.heap.size, 0, none⟩), .bool false, .pointer (some ⟨p, 0, none⟩), .bool true, .bool true, .agg bc, .bool true, undef, undef, undef, undef, undef, undef, undef, undef, undef, undef, undef, undef, undef], []⟩ (by kernel_rfl) ?_
        intro w2 hbw
        have L2 : Hid (Below w.heap.size w w2) := L0.out.trans (hbw.mono (Nat.le_of_lt (Blk.lt BB.out)))
        have c6 : Hid (w2.cell? ⟨w.heap.size, 6, none⟩ = some (.bool b.chrRam)) := ((BB.out.below BB.out.lt hbw).cell 6).trans hb6.out
        have R2 : Hid (w2.rangeAt p 4385 A.toList) := RC.out w2 (BV.out.below BV.out.lt hbw)
        clear hbw
        with_reducible refine pl_yes (v := .bool true) (by kernel_rfl) (fun _ _ => by kernel_rfl) ⟨#[.pointer (some ⟨p, 0, none⟩), .agg bc, undef, .pointer (some ⟨w.heap.size, 0, none⟩), .bool false, .pointer (some ⟨p, 0, none⟩), .bool true, .bool true, .agg bc, .bool true, .bool true, undef, undef, undef, undef, undef, undef, undef, undef, undef, undef, undef, undef], []⟩ (by kernel_rfl) ?_
        with_reducible refine pl_yes (v := .bool true) (by kernel_rfl) (fun _ _ => by kernel_rfl) ⟨#[.pointer (some ⟨p, 0, none⟩), .agg bc, undef, .pointer (some ⟨w.heap.size, 0, none⟩), .bool false, .pointer (some ⟨p, 0, none⟩), .bool true, .bool true, .agg bc, .bool true, .bool true, .bool true, undef, undef, undef, undef, undef, undef, undef, undef, undef, undef, undef], []⟩ (by kernel_rfl) ?_
        with_reducible refine pl_yes (v := .pointer (some ⟨w.heap.size, 6, none⟩)) (by kernel_rfl) (fun _ _ => by kernel_rfl) ⟨#[.pointer (some ⟨p, 0, none⟩), .agg bc, undef, .pointer (some ⟨w.heap.size, 0, none⟩), .bool false, .pointer (some ⟨p, 0, none⟩), .bool true, .bool true, .agg bc, .bool true, .bool true, .bool true, .pointer (some ⟨w.heap.size, 6, none⟩), undef, undef, undef, undef, undef, undef, undef, undef, undef, undef], []⟩ (by kernel_rfl) ?_
        with_reducible refine pl_yes (v := .bool false) (by kernel_rfl) (fun v hv => exec_ldB rfl (by kernel_rfl) (by subst hv; exact c6.out.trans (congrArg (fun q => some (Value.bool q)) hcr))) ⟨#[.pointer (some ⟨p, 0, none⟩), .agg bc, undef, .pointer (some ⟨w.heap.size, 0, none⟩), .bool false, .pointer (some ⟨p, 0, none⟩), .bool true, .bool true, .agg bc, .bool true, .bool true, .bool true, .pointer (some ⟨w.heap.size, 6, none⟩), .bool false, undef, undef, undef, undef, undef, undef, undef, undef, undef], []⟩ (by kernel_rfl) ?_
        with_reducible refine pl_yes (v := .bool false) (by kernel_rfl) (fun _ _ => by kernel_rfl) ⟨#[.pointer (some ⟨p, 0, none⟩), .agg bc, undef, .pointer (some ⟨w.heap.size, 0, none⟩), .bool false, .pointer (some ⟨p, 0, none⟩), .bool true, .bool true, .agg bc, .bool true, .bool true, .bool true, .pointer (some ⟨w.heap.size, 6, none⟩), .bool false, .bool false, undef, undef, undef, undef, undef, undef, undef, undef], []⟩ (by kernel_rfl) ?_
        with_reducible refine pl_yes (v := .pointer (some ⟨p, 0, none⟩)) (by kernel_rfl) (fun _ _ => by kernel_rfl) ⟨#[.pointer (some ⟨p, 0, none⟩), .agg bc, undef, .pointer (some ⟨w.heap.size, 0, none⟩), .bool false, .pointer (some ⟨p, 0, none⟩), .bool true, .bool true, .agg bc, .bool true, .bool true, .bool true, .pointer (some ⟨w.heap.size, 6, none⟩), .bool false, .bool false, .pointer (some ⟨p, 0, none⟩), undef, undef, undef, undef, undef, undef, undef], []⟩ (by kernel_rfl) ?_
        with_reducible refine pl_yes (v := .pointer (some ⟨p, 0, none⟩)) (by kernel_rfl) (fun _ _ => by kernel_rfl) ⟨#[.pointer (some ⟨p, 0, none⟩), .agg bc, undef, .pointer (some ⟨w.heap.size, 0, none⟩), .bool false, .pointer (some ⟨p, 0, none⟩), .bool true, .bool true, .agg bc, .bool true, .bool true, .bool true, .pointer (some ⟨w.heap.size, 6, none⟩), .bool false, .bool false, .pointer (some ⟨p, 0, none⟩), .pointer (some ⟨p, 0, none⟩), undef, undef, undef, undef, undef, undef], []⟩ (by kernel_rfl) ?_
        with_reducible refine pl_yes (v := .pointer (some ⟨p, 4385, none⟩)) (by kernel_rfl) (fun _ _ => by kernel_rfl) ⟨#[.pointer (some ⟨p, 0, none⟩), .agg bc, undef, .pointer (some ⟨w.heap.size, 0, none⟩), .bool false, .pointer (some ⟨p, 0, none⟩), .bool true, .bool true, .agg bc, .bool true, .bool true, .bool true, .pointer (some ⟨w.heap.size, 6, none⟩), .bool false, .bool false, .pointer (some ⟨p, 0, none⟩), .pointer (some ⟨p, 0, none⟩), .pointer (some ⟨p, 4385, none⟩), undef, undef, undef, undef, undef], []⟩ (by kernel_rfl) ?_
        with_reducible refine pl_take (v := .agg A) (yieldsArr (by kernel_rfl) (.tmp 17) rfl p 4385 (by kernel_rfl) A (fun v hv => by rw [hv]; exact R2.out) CL.out) ⟨#[.pointer (some ⟨p, 0, none⟩), .agg bc, undef, .pointer (some ⟨w.heap.size, 0, none⟩), .bool false, .pointer (some ⟨p, 0, none⟩), .bool true, .bool true, .agg bc, .bool true, .bool true, .bool true, .pointer (some ⟨w.heap.size, 6, none⟩), .bool false, .bool false, .pointer (some ⟨p, 0, none⟩), .pointer (some ⟨p, 0, none⟩), .pointer (some ⟨p, 4385, none⟩), .agg A, undef, undef, undef, undef], []⟩ (by kernel_rfl) ?_
        with_reducible refine pl_yes (v := .agg Try.zeroCells25) (by kernel_rfl) (fun v _ => exec_bz rfl) ⟨#[.pointer (some ⟨p, 0, none⟩), .agg bc, undef, .pointer (some ⟨w.heap.size, 0, none⟩), .bool false, .pointer (some ⟨p, 0, none⟩), .bool true, .bool true, .agg bc, .bool true, .bool true, .bool true, .pointer (some ⟨w.heap.size, 6, none⟩), .bool false, .bool false, .pointer (some ⟨p, 0, none⟩), .pointer (some ⟨p, 0, none⟩), .pointer (some ⟨p, 4385, none⟩), .agg A, .agg Try.zeroCells25, undef, undef, undef], []⟩ (by kernel_rfl) ?_
        with_reducible refine pl_yes (v := .bool z) (by kernel_rfl) (fun v _ => exec_eqArr (A := A) (z := z) rfl (by kernel_rfl) (by kernel_rfl) (EQ v)) ⟨#[.pointer (some ⟨p, 0, none⟩), .agg bc, undef, .pointer (some ⟨w.heap.size, 0, none⟩), .bool false, .pointer (some ⟨p, 0, none⟩), .bool true, .bool true, .agg bc, .bool true, .bool true, .bool true, .pointer (some ⟨w.heap.size, 6, none⟩), .bool false, .bool false, .pointer (some ⟨p, 0, none⟩), .pointer (some ⟨p, 0, none⟩), .pointer (some ⟨p, 4385, none⟩), .agg A, .agg Try.zeroCells25, .bool z, undef, undef], []⟩ (by kernel_rfl) ?_
        with_reducible refine pl_yes (v := .bool z) (by kernel_rfl) (fun _ _ => by kernel_rfl) ⟨#[.pointer (some ⟨p, 0, none⟩), .agg bc, undef, .pointer (some ⟨w.heap.size, 0, none⟩), .bool false, .pointer (some ⟨p, 0, none⟩), .bool true, .bool true, .agg bc, .bool true, .bool true, .bool true, .pointer (some ⟨w.heap.size, 6, none⟩), .bool false, .bool false, .pointer (some ⟨p, 0, none⟩), .pointer (some ⟨p, 0, none⟩), .pointer (some ⟨p, 4385, none⟩), .agg A, .agg Try.zeroCells25, .bool z, .bool z, undef], []⟩ (by kernel_rfl) ?_
        with_reducible refine pl_yes (v := .bool z) (by kernel_rfl) (fun _ _ => by kernel_rfl) ⟨#[.pointer (some ⟨p, 0, none⟩), .agg bc, undef, .pointer (some ⟨w.heap.size, 0, none⟩), .bool false, .pointer (some ⟨p, 0, none⟩), .bool true, .bool true, .agg bc, .bool true, .bool true, .bool true, .pointer (some ⟨w.heap.size, 6, none⟩), .bool false, .bool false, .pointer (some ⟨p, 0, none⟩), .pointer (some ⟨p, 0, none⟩), .pointer (some ⟨p, 4385, none⟩), .agg A, .agg Try.zeroCells25, .bool z, .bool z, .bool z], []⟩ (by kernel_rfl) ?_
        with_reducible refine pl_yes (v := .bool z) (by kernel_rfl) (fun _ _ => by kernel_rfl) ⟨#[.pointer (some ⟨p, 0, none⟩), .agg bc, undef, .pointer (some ⟨w.heap.size, 0, none⟩), .bool z, .pointer (some ⟨p, 0, none⟩), .bool true, .bool true, .agg bc, .bool true, .bool true, .bool true, .pointer (some ⟨w.heap.size, 6, none⟩), .bool false, .bool false, .pointer (some ⟨p, 0, none⟩), .pointer (some ⟨p, 0, none⟩), .pointer (some ⟨p, 4385, none⟩), .agg A, .agg Try.zeroCells25, .bool z, .bool z, .bool z], []⟩ (by kernel_rfl) ?_
        refine wpList_nil ?_
        clear FA VA EQ
        go_wp2
        refine bodyPost_ret (v := .bool z) ((results_tmp Try.results25 _ _ _).trans (by kernel_rfl)) (by kernel_rfl) ?_
        exact ⟨by rw [HVF.out]; rw [hcr]; simp, L2.out⟩
      · with_reducible refine pl_yes (v := .pointer (some ⟨p, 0, none⟩)) (by kernel_rfl) (fun _ _ => by kernel_rfl) ⟨#[.pointer (some ⟨p, 0, none⟩), .agg bc, undef, .pointer (some ⟨w.heap.size, 0, none⟩), .bool false, .pointer (some ⟨p, 0, none⟩), undef, undef, undef, undef, undef, undef, undef, undef, undef, undef, undef, undef, undef, undef, undef, undef, undef], []⟩ (by kernel_rfl) ?_
        with_reducible refine plCall (f := 21) (v := .bool true) (by kernel_rfl) (by kernel_rfl) (FA _ BV) ⟨#[.pointer (some ⟨p, 0, none⟩), .agg bc, undef, .pointer (some ⟨w.heap.size, 0, none⟩), .bool false, .pointer (some ⟨p, 0, none⟩), .bool true, undef, undef, undef, undef, undef, undef, undef, undef, undef, undef, undef, undef, undef, undef, undef, undef], []⟩ (by kernel_rfl) ?_
        rintro _ rfl
        with_reducible refine pl_yes (v := .bool true) (by kernel_rfl) (fun _ _ => by kernel_rfl) ⟨#[.pointer (some ⟨p, 0, none⟩), .agg bc, undef, .pointer (some ⟨w.heap.size, 0, none⟩), .bool false, .pointer (some ⟨p, 0, none⟩), .bool true, .bool true, undef, undef, undef, undef, undef, undef, undef, undef, undef, undef, undef, undef, undef, undef, undef], []⟩ (by kernel_rfl) ?_
        with_reducible refine pl_take (v := .agg bc) (yieldsBd (by kernel_rfl) (.tmp 3) rfl w.heap.size (by kernel_rfl) bc (fun v hv => by rw [hv]; exact BB.out) hbs.out) ⟨#[.pointer (some ⟨p, 0, none⟩), .agg bc, undef, .pointer (some ⟨w.heap.size, 0, none⟩), .bool false, .pointer (some ⟨p, 0, none⟩), .bool true, .bool true, .agg bc, undef, undef, undef, undef, undef, undef, undef, undef, undef, undef, undef, undef, undef, undef], []⟩ (by kernel_rfl) ?_
        with_reducible refine plCall (f := 42) (v := .bool true) (by kernel_rfl) (by kernel_rfl) (VA _) ⟨#[.pointer (some ⟨p, 0, none⟩), .agg bc, undef, .pointer (some ⟨w.heap.size, 0, none⟩), .bool false, .pointer (some ⟨p, 0, none⟩), .bool true, .bool true, .agg bc, .bool true, undef, undef, undef, undef, undef, undef, undef, undef, undef, undef, undef, undef, undef], []⟩ (by kernel_rfl) ?_
        intro w2 hbw
        have L2 : Hid (Below w.heap.size w w2) := L0.out.trans (hbw.mono (Nat.le_of_lt (Blk.lt BB.out)))
        have c6 : Hid (w2.cell? ⟨w.heap.size, 6, none⟩ = some (.bool b.chrRam)) := ((BB.out.below BB.out.lt hbw).cell 6).trans hb6.out
        have R2 : Hid (w2.rangeAt p 4385 A.toList) := RC.out w2 (BV.out.below BV.out.lt hbw)
        clear hbw
        with_reducible refine pl_yes (v := .bool true) (by kernel_rfl) (fun _ _ => by kernel_rfl) ⟨#[.pointer (some ⟨p, 0, none⟩), .agg bc, undef, .pointer (some ⟨w.heap.size, 0, none⟩), .bool false, .pointer (some ⟨p, 0, none⟩), .bool true, .bool true, .agg bc, .bool true, .bool true, undef, undef, undef, undef, undef, undef, undef, undef, undef, undef, undef, undef], []⟩ (by kernel_rfl) ?_
        with_reducible refine pl_yes (v := .bool true) (by kernel_rfl) (fun _ _ => by kernel_rfl) ⟨#[.pointer (some ⟨p, 0, none⟩), .agg bc, undef, .pointer (some ⟨w.heap.size, 0, none⟩), .bool false, .pointer (some ⟨p, 0, none⟩), .bool true, .bool true, .agg bc, .bool true, .bool true, .bool true, undef, undef, undef, undef, undef, undef, undef, undef, undef, undef, undef], []⟩ (by kernel_rfl) ?_
        with_reducible refine pl_yes (v := .pointer (some ⟨w.heap.size, 6, none⟩)) (by kernel_rfl) (fun _ _ => by kernel_rfl) ⟨#[.pointer (some ⟨p, 0, none⟩), .agg bc, undef, .pointer (some ⟨w.heap.size, 0, none⟩), .bool false, .pointer (some ⟨p, 0, none⟩), .bool true, .bool true, .agg bc, .bool true, .bool true, .bool true, .pointer (some ⟨w.heap.size, 6, none⟩), undef, undef, undef, undef, undef, undef, undef, undef, undef, undef], []⟩ (by kernel_rfl) ?_
        with_reducible refine pl_yes (v := .bool true) (by kernel_rfl) (fun v hv => exec_ldB rfl (by kernel_rfl) (by subst hv; exact c6.out.trans (congrArg (fun q => some (Value.bool q)) hcr))) ⟨#[.pointer (some ⟨p, 0, none⟩), .agg bc, undef, .pointer (some ⟨w.heap.size, 0, none⟩), .bool false, .pointer (some ⟨p, 0, none⟩), .bool true, .bool true, .agg bc, .bool true, .bool true, .bool true, .pointer (some ⟨w.heap.size, 6, none⟩), .bool true, undef, undef, undef, undef, undef, undef, undef, undef, undef], []⟩ (by kernel_rfl) ?_
        with_reducible refine pl_yes (v := .bool true) (by kernel_rfl) (fun _ _ => by kernel_rfl) ⟨#[.pointer (some ⟨p, 0, none⟩), .agg bc, undef, .pointer (some ⟨w.heap.size, 0, none⟩), .bool false, .pointer (some ⟨p, 0, none⟩), .bool true, .bool true, .agg bc, .bool true, .bool true, .bool true, .pointer (some ⟨w.heap.size, 6, none⟩), .bool true, .bool true, undef, undef, undef, undef, undef, undef, undef, undef], []⟩ (by kernel_rfl) ?_
        with_reducible refine pl_no (v := undef) (by kernel_rfl) rfl ⟨#[.pointer (some ⟨p, 0, none⟩), .agg bc, undef, .pointer (some ⟨w.heap.size, 0, none⟩), .bool false, .pointer (some ⟨p, 0, none⟩), .bool true, .bool true, .agg bc, .bool true, .bool true, .bool true, .pointer (some ⟨w.heap.size, 6, none⟩), .bool true, .bool true, undef, undef, undef, undef, undef, undef, undef, undef], []⟩ (by kernel_rfl) ?_
        with_reducible refine pl_no (v := undef) (by kernel_rfl) rfl ⟨#[.pointer (some ⟨p, 0, none⟩), .agg bc, undef, .pointer (some ⟨w.heap.size, 0, none⟩), .bool false, .pointer (some ⟨p, 0, none⟩), .bool true, .bool true, .agg bc, .bool true, .bool true, .bool true, .pointer (some ⟨w.heap.size, 6, none⟩), .bool true, .bool true, undef, undef, undef, undef, undef, undef, undef, undef], []⟩ (by kernel_rfl) ?_
        with_reducible refine pl_no (v := undef) (by kernel_rfl) rfl ⟨#[.pointer (some ⟨p, 0, none⟩), .agg bc, undef, .pointer (some ⟨w.heap.size, 0, none⟩), .bool false, .pointer (some ⟨p, 0, none⟩), .bool true, .bool true, .agg bc, .bool true, .bool true, .bool true, .pointer (some ⟨w.heap.size, 6, none⟩), .bool true, .bool true, undef, undef, undef, undef, undef, undef, undef, undef], []⟩ (by kernel_rfl) ?_
        with_reducible refine pl_no (v := undef) (by kernel_rfl) rfl ⟨#[.pointer (some ⟨p, 0, none⟩), .agg bc, undef, .pointer (some ⟨w.heap.size, 0, none⟩), .bool false, .pointer (some ⟨p, 0, none⟩), .bool true, .bool true, .agg bc, .bool true, .bool true, .bool true, .pointer (some ⟨w.heap.size, 6, none⟩), .bool true, .bool true, undef, undef, undef, undef, undef, undef, undef, undef], []⟩ (by kernel_rfl) ?_
        with_reducible refine pl_no (v := undef) (by kernel_rfl) rfl ⟨#[.pointer (some ⟨p, 0, none⟩), .agg bc, undef, .pointer (some ⟨w.heap.size, 0, none⟩), .bool false, .pointer (some ⟨p, 0, none⟩), .bool true, .bool true, .agg bc, .bool true, .bool true, .bool true, .pointer (some ⟨w.heap.size, 6, none⟩), .bool true, .bool true, undef, undef, undef, undef, undef, undef, undef, undef], []⟩ (by kernel_rfl) ?_
        with_reducible refine pl_no (v := undef) (by kernel_rfl) rfl ⟨#[.pointer (some ⟨p, 0, none⟩), .agg bc, undef, .pointer (some ⟨w.heap.size, 0, none⟩), .bool false, .pointer (some ⟨p, 0, none⟩), .bool true, .bool true, .agg bc, .bool true, .bool true, .bool true, .pointer (some ⟨w.heap.size, 6, none⟩), .bool true, .bool true, undef, undef, undef, undef, undef, undef, undef, undef], []⟩ (by kernel_rfl) ?_
        with_reducible refine pl_yes (v := .bool true) (by kernel_rfl) (fun _ _ => by kernel_rfl) ⟨#[.pointer (some ⟨p, 0, none⟩), .agg bc, undef, .pointer (some ⟨w.heap.size, 0, none⟩), .bool false, .pointer (some ⟨p, 0, none⟩), .bool true, .bool true, .agg bc, .bool true, .bool true, .bool true, .pointer (some ⟨w.heap.size, 6, none⟩), .bool true, .bool true, undef, undef, undef, undef, undef, undef, .bool true, undef], []⟩ (by kernel_rfl) ?_
        with_reducible refine pl_yes (v := .bool true) (by kernel_rfl) (fun _ _ => by kernel_rfl) ⟨#[.pointer (some ⟨p, 0, none⟩), .agg bc, undef, .pointer (some ⟨w.heap.size, 0, none⟩), .bool false, .pointer (some ⟨p, 0, none⟩), .bool true, .bool true, .agg bc, .bool true, .bool true, .bool true, .pointer (some ⟨w.heap.size, 6, none⟩), .bool true, .bool true, undef, undef, undef, undef, undef, undef, .bool true, .bool true], []⟩ (by kernel_rfl) ?_
        with_reducible refine pl_yes (v := .bool true) (by kernel_rfl) (fun _ _ => by kernel_rfl) ⟨#[.pointer (some ⟨p, 0, none⟩), .agg bc, undef, .pointer (some ⟨w.heap.size, 0, none⟩), .bool true, .pointer (some ⟨p, 0, none⟩), .bool true, .bool true, .agg bc, .bool true, .bool true, .bool true, .pointer (some ⟨w.heap.size, 6, none⟩), .bool true, .bool true, undef, undef, undef, undef, undef, undef, .bool true, .bool true], []⟩ (by kernel_rfl) ?_
        refine wpList_nil ?_
        clear FA VA EQ
        go_wp2
        refine bodyPost_ret (v := .bool true) ((results_tmp Try.results25 _ _ _).trans (by kernel_rfl)) (by kernel_rfl) ?_
        exact ⟨by rw [HVF.out]; rw [hcr]; simp, L2.out⟩
end Go.Proofs.Ytecaipakaaongaa
