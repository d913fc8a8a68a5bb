/-
  A witness for rows whose first argument is a video memory: it is read, it is of its kinds, it weighs nothing. (The kernel can't reckon these by itself: 12585 cells.)
-/
import Derived.Test.YtokbnffofaeipaaXvArg
import Derived.Test.YtokbnffofaeipaaChecked
import Derived.Handed
set_option linter.unusedSimpArgs false
set_option linter.unusedVariables false
namespace Go.Proofs.Ytokbnffofaeipaa
open Go.ChangeShapes Go.WideShapes Go.ChangeAt Go.RowKit Go.Deep Classical
variable {H : Type}
theorem tU8 (w : World) (enc : TypeId × Value → H) (fuel m : Nat) (hm : m < 256) : DataW.trod enc Try.prog w 0 (fun _ => true) true (fuel + 1) 5 [.int .u8 (m : Nat)] = some (.lit (.int .u8 (m : Nat)), []) := by
  have h : (Lit.int .u8 ((m : Nat) : Int)).wf = true := by simp [Lit.wf, IntKind.min, IntKind.max, IntKind.signed, IntKind.bits]; omega
  simp [DataW.trod, Try.underlying5, h]
theorem tU16 (w : World) (enc : TypeId × Value → H) (fuel m : Nat) (hm : m < 65536) : DataW.trod enc Try.prog w 0 (fun _ => true) true (fuel + 1) 26 [.int .u16 (m : Nat)] = some (.lit (.int .u16 (m : Nat)), []) := by
  have h : (Lit.int .u16 ((m : Nat) : Int)).wf = true := by simp [Lit.wf, IntKind.min, IntKind.max, IntKind.signed, IntKind.bits]; omega
  simp [DataW.trod, Try.underlying26, h]
theorem tB (w : World) (enc : TypeId × Value → H) (fuel : Nat) (b : Bool) : DataW.trod enc Try.prog w 0 (fun _ => true) true (fuel + 1) 4 [.bool b] = some (.lit (.bool b), []) := by
  simp [DataW.trod, Try.underlying4]
theorem mapM_some {α β : Type} (f : α → Option β) (g : α → β) : ∀ l : List α, (∀ x ∈ l, f x = some (g x)) → l.mapM f = some (l.map g)
  | [], _ => rfl
  | x :: l, h => by
    rw [List.mapM_cons, h x (by simp), mapM_some f g l fun y hy => h y (by simp [hy])]
    rfl
theorem drop_take {L : List Value} {k : Nat} {v : Value} (h : L[k]? = some v) : (L.drop k).take 1 = [v] := by
  obtain ⟨hk, e⟩ := List.getElem?_eq_some_iff.1 h
  rw [List.drop_eq_getElem_cons hk, e]
  rfl
theorem wAll (e : TypeId) (g : Nat → DataW H) (hg : ∀ i, DataW.weights Try.prog e (g i) = []) : ∀ l : List Nat, DataW.weightsAll Try.prog e (l.map g) = []
  | [] => by simp [DataW.weightsAll]
  | i :: l => by simp [DataW.weightsAll, hg i, wAll e g hg l]
/-- What is read of a piece of a video memory: some datum, no places, no weight. -/
def Light (w : World) (enc : TypeId × Value → H) (fuel : Nat) (T : TypeId) (L : List Value) : Prop := ∃ d, DataW.trod enc Try.prog w 0 (fun _ => true) true fuel T L = some (d, []) ∧ DataW.weights Try.prog T d = []
theorem tArr (cs : Array Value) (f : Nat → Nat) (F : Fok f) (V : Vid cs f) (w : World) (enc : TypeId × Value → H) (T n o : Nat) (hn : o + n ≤ 12577) (hu : Try.prog.underlying T = some (.array n 5)) (hc : Try.prog.cellsOf T = n) : Light w enc 3 T ((cs.toList.drop o).take (Try.prog.cellsOf T)) := by
  have hs : cs.toList.length = 12585 := by rw [Array.length_toList]; exact V.1
  obtain ⟨L, hL⟩ : ∃ L, L = (cs.toList.drop o).take (Try.prog.cellsOf T) := ⟨_, rfl⟩
  have hlen : L.length = n := by rw [hL, hc, List.length_take, List.length_drop, hs]; omega
  have hat : ∀ k, k < n → L[k]? = some (.int .u8 (f (o + k) : Nat)) := fun k hk => by
    rw [hL, List.getElem?_take, if_pos (by rw [hc]; exact hk), List.getElem?_drop, Array.getElem?_toList]
    exact V.byte _ (by omega)
  rw [← hL]
  have hm := mapM_some (fun i => DataW.trod enc Try.prog w 0 (fun _ => true) true 2 5 ((L.drop (i * Try.prog.cellsOf 5)).take (Try.prog.cellsOf 5))) (fun i => (DataW.lit (.int .u8 (f (o + i) : Nat)), ([] : List MemPlace))) (List.range n) fun i hi => by
    rw [cellsU, Nat.mul_one, drop_take (hat i (List.mem_range.1 hi))]
    exact tU8 w enc 1 _ (F.b _ (by have := List.mem_range.1 hi; omega))
  refine ⟨.agg ((List.range n).map fun i => DataW.lit (.int .u8 (f (o + i) : Nat))), ?_, ?_⟩
  · unfold DataW.trod
    simp only [hu]
    rw [if_pos (by rw [hlen, hc]), hm]
    simp
  · simp only [DataW.weights, hu]
    exact wAll 5 _ (fun i => by simp [DataW.weights]) _
theorem tOne (cs : Array Value) (f : Nat → Nat) (V : Vid cs f) (w : World) (enc : TypeId × Value → H) (T o : Nat) (v : Value) (ho : o < 12585) (hc : Try.prog.cellsOf T = 1) (hv : cel o (f o) = v) (d : DataW H) (ht : DataW.trod enc Try.prog w 0 (fun _ => true) true 3 T [v] = some (d, [])) (hw : DataW.weights Try.prog T d = []) : Light w enc 3 T ((cs.toList.drop o).take (Try.prog.cellsOf T)) := by
  have h := V.2 o ho
  rw [hv, ← Array.getElem?_toList] at h
  rw [hc, drop_take h]
  exact ⟨d, ht, hw⟩
def fldL : List (Nat × Nat) := [(22, 0), (23, 257), (24, 4353), (25, 4385), (5, 256), (26, 12577), (26, 12578), (5, 12579), (4, 12580), (4, 12581), (4, 12582), (5, 12583), (5, 12584)]
theorem fldL_all : ((Try.prog.fieldsOf 28).toList.all fun f => fldL.contains (f.type, f.offset)) = true := by kernel_rfl
theorem light_field (cs : Array Value) (f : Nat → Nat) (F : Fok f) (V : Vid cs f) (w : World) (enc : TypeId × Value → H) (T o : Nat) (h : fldL.contains (T, o) = true) : Light w enc 3 T ((cs.toList.drop o).take (Try.prog.cellsOf T)) := by
  have h := List.contains_iff_mem.1 h
  unfold fldL at h
  simp only [List.mem_cons, List.not_mem_nil, or_false, Prod.mk.injEq] at h
  rcases h with ⟨rfl, rfl⟩ | ⟨rfl, rfl⟩ | ⟨rfl, rfl⟩ | ⟨rfl, rfl⟩ | ⟨rfl, rfl⟩ | ⟨rfl, rfl⟩ | ⟨rfl, rfl⟩ | ⟨rfl, rfl⟩ | ⟨rfl, rfl⟩ | ⟨rfl, rfl⟩ | ⟨rfl, rfl⟩ | ⟨rfl, rfl⟩ | ⟨rfl, rfl⟩
  · exact tArr cs f F V w enc 22 256 0 (by decide) Try.underlying22 (by kernel_rfl)
  · exact tArr cs f F V w enc 23 4096 257 (by decide) Try.underlying23 (by kernel_rfl)
  · exact tArr cs f F V w enc 24 32 4353 (by decide) Try.underlying24 (by kernel_rfl)
  · exact tArr cs f F V w enc 25 8192 4385 (by decide) Try.underlying25 (by kernel_rfl)
  · exact tOne cs f V w enc 5 256 (.int .u8 (f 256 : Nat)) (by decide) (by kernel_rfl) (cel_b _ (by decide)) _ (tU8 w enc 2 _ (F.b _ (by decide))) (by simp [DataW.weights])
  · exact tOne cs f V w enc 26 12577 (.int .u16 (f 12577 : Nat)) (by decide) (by kernel_rfl) rfl _ (tU16 w enc 2 _ (F.v)) (by simp [DataW.weights])
  · exact tOne cs f V w enc 26 12578 (.int .u16 (f 12578 : Nat)) (by decide) (by kernel_rfl) rfl _ (tU16 w enc 2 _ (F.t)) (by simp [DataW.weights])
  · exact tOne cs f V w enc 5 12579 (.int .u8 (f 12579 : Nat)) (by decide) (by kernel_rfl) rfl _ (tU8 w enc 2 _ (F.x)) (by simp [DataW.weights])
  · exact tOne cs f V w enc 4 12580 (.bool (f 12580 != 0)) (by decide) (by kernel_rfl) rfl _ (tB w enc 2 _) (by simp [DataW.weights])
  · exact tOne cs f V w enc 4 12581 (.bool (f 12581 != 0)) (by decide) (by kernel_rfl) rfl _ (tB w enc 2 _) (by simp [DataW.weights])
  · exact tOne cs f V w enc 4 12582 (.bool (f 12582 != 0)) (by decide) (by kernel_rfl) rfl _ (tB w enc 2 _) (by simp [DataW.weights])
  · exact tOne cs f V w enc 5 12583 (.int .u8 (f 12583 : Nat)) (by decide) (by kernel_rfl) rfl _ (tU8 w enc 2 _ (F.buf)) (by simp [DataW.weights])
  · exact tOne cs f V w enc 5 12584 (.int .u8 (f 12584 : Nat)) (by decide) (by kernel_rfl) rfl _ (tU8 w enc 2 _ (F.io)) (by simp [DataW.weights])
theorem light_fields (w : World) (enc : TypeId × Value → H) (L : List Value) : ∀ fs : List Field, (∀ f ∈ fs, Light w enc 3 f.type ((L.drop f.offset).take (Try.prog.cellsOf f.type))) →
    ∃ xs : List (DataW H × List MemPlace), fs.mapM (fun f => DataW.trod enc Try.prog w 0 (fun _ => true) true 3 f.type ((L.drop f.offset).take (Try.prog.cellsOf f.type))) = some xs ∧ xs.flatMap (·.2) = [] ∧ DataW.weightsEach Try.prog (fs.map (·.type)) (xs.map (·.1)) = []
  | [], _ => ⟨[], rfl, rfl, by simp [DataW.weightsEach]⟩
  | f :: fs, h => by
    obtain ⟨d, h1, h2⟩ := h f (by simp)
    obtain ⟨xs, h3, h4, h5⟩ := light_fields w enc L fs fun g hg => h g (by simp [hg])
    refine ⟨(d, []) :: xs, ?_, by simp [h4], by simp [DataW.weightsEach, h2, h5]⟩
    rw [List.mapM_cons, h1, h3]
    rfl
theorem light_vid (cs : Array Value) (f : Nat → Nat) (F : Fok f) (V : Vid cs f) (w : World) (enc : TypeId × Value → H) : Light w enc 4 28 cs.toList := by
  obtain ⟨xs, h1, h2, h3⟩ := light_fields w enc cs.toList (Try.prog.fieldsOf 28).toList fun fl hf => light_field cs f F V w enc fl.type fl.offset (List.all_eq_true.1 fldL_all fl hf)
  have hu : Try.prog.underlying 28 = some (.struct (Try.prog.fieldsOf 28)) := by kernel_rfl
  refine ⟨.agg (xs.map (·.1)), ?_, ?_⟩
  · unfold DataW.trod
    simp only [hu]
    rw [if_pos (by rw [Array.length_toList, V.1, cellsVid]), h1]
    simp [h2]
  · simp only [DataW.weights, hu]
    exact h3
def rep (n : Nat) (x : TypeId) : List TypeId := List.replicate n x
theorem rep_len (n : Nat) (x : TypeId) : (rep n x).length = n := List.length_replicate
theorem rep_lt (n i : Nat) (x : TypeId) (l : List TypeId) (h : i < n) : (rep n x ++ l)[i]? = some x := by
  rw [List.getElem?_append_left (by rw [rep_len]; exact h)]
  unfold rep
  rw [List.getElem?_replicate, if_pos h]
theorem rep_ge (n i : Nat) (x : TypeId) (l : List TypeId) : (rep n x ++ l)[n + i]? = l[i]? := by
  rw [List.getElem?_append_right (by rw [rep_len]; omega), rep_len, Nat.add_sub_cancel_left]
def kinds13 : List TypeId := rep 12577 5 ++ [26, 26, 5, 4, 4, 4, 5, 5]
set_option maxRecDepth 1000000 in
theorem kinds13_is : Try.prog.cellTypes Try.prog.depth 28 = some kinds13 := by kernel_rfl
theorem kinds13_len : kinds13.length = 12585 := by unfold kinds13; rw [List.length_append, rep_len]; rfl
theorem okU8 (w : World) (base m : Nat) (hm : m < 256) : Cell.okWide Try.prog w .any base 5 (.int .u8 (m : Nat)) := by
  unfold Cell.okWide Cell.ok
  simp only [Try.underlying5]
  refine ⟨trivial, ?_⟩
  simp [IntKind.has, IntKind.min, IntKind.max, IntKind.signed, IntKind.bits]
  omega
theorem okU16 (w : World) (base m : Nat) (hm : m < 65536) : Cell.okWide Try.prog w .any base 26 (.int .u16 (m : Nat)) := by
  unfold Cell.okWide Cell.ok
  simp only [Try.underlying26]
  refine ⟨trivial, ?_⟩
  simp [IntKind.has, IntKind.min, IntKind.max, IntKind.signed, IntKind.bits]
  omega
theorem okB (w : World) (base : Nat) (b : Bool) : Cell.okWide Try.prog w .any base 4 (.bool b) := by
  unfold Cell.okWide Cell.ok
  simp only [Try.underlying4]
set_option maxRecDepth 1000000 in
theorem ok_vid (cs : Array Value) (f : Nat → Nat) (F : Fok f) (V : Vid cs f) (w : World) (base : Nat) : Value.okWide Try.prog w .any base 28 (.agg cs) := by
  have hu : Try.prog.underlying 28 = some (.struct (Try.prog.fieldsOf 28)) := by kernel_rfl
  unfold Value.okWide
  simp only [hu]
  refine ⟨cs, rfl, by rw [V.1, cellsVid], kinds13, kinds13_is, ⟨1, by rw [kinds13_len, V.1]⟩, fun i v hv => ?_⟩
  have hi : i < 12585 := by rw [← V.1]; exact (Array.getElem?_eq_some_iff.1 hv).1
  rw [V.2 i hi] at hv
  cases hv
  rw [kinds13_len, Nat.mod_eq_of_lt hi]
  unfold kinds13
  by_cases h1 : i < 12577
  · rw [rep_lt _ _ _ _ h1, cel_b _ h1]
    exact ⟨5, rfl, okU8 w base (f i) (F.b _ h1)⟩
  · have : i = 12577 ∨ i = 12578 ∨ i = 12579 ∨ i = 12580 ∨ i = 12581 ∨ i = 12582 ∨ i = 12583 ∨ i = 12584 := by omega
    clear h1 hi
    rcases this with rfl | rfl | rfl | rfl | rfl | rfl | rfl | rfl
    · exact ⟨26, rep_ge 12577 0 _ _, okU16 w base _ F.v⟩
    · exact ⟨26, rep_ge 12577 1 _ _, okU16 w base _ F.t⟩
    · exact ⟨5, rep_ge 12577 2 _ _, okU8 w base _ F.x⟩
    · exact ⟨4, rep_ge 12577 3 _ _, okB w base _⟩
    · exact ⟨4, rep_ge 12577 4 _ _, okB w base _⟩
    · exact ⟨4, rep_ge 12577 5 _ _, okB w base _⟩
    · exact ⟨5, rep_ge 12577 6 _ _, okU8 w base _ F.buf⟩
    · exact ⟨5, rep_ge 12577 7 _ _, okU8 w base _ F.io⟩
def repV (n : Nat) (x : Value) : List Value := List.replicate n x
theorem repV_lt (n i : Nat) (x : Value) (l : List Value) (h : i < n) : (repV n x ++ l)[i]? = some x := by
  rw [List.getElem?_append_left (by unfold repV; rw [List.length_replicate]; exact h)]
  unfold repV
  rw [List.getElem?_replicate, if_pos h]
theorem repV_ge (n i : Nat) (x : Value) (l : List Value) : (repV n x ++ l)[n + i]? = l[i]? := by
  rw [List.getElem?_append_right (by unfold repV; rw [List.length_replicate]; omega)]
  unfold repV
  rw [List.length_replicate, Nat.add_sub_cancel_left]
/-- A video memory of zeros. -/
def zeroV : Array Value := (repV 12577 (.int .u8 0) ++ ([.int .u16 0, .int .u16 0, .int .u8 0, .bool false, .bool false, .bool false, .int .u8 0, .int .u8 0] : List Value)).toArray
set_option maxRecDepth 1000000 in
theorem zeroV_vid : Vid zeroV (fun _ => 0) := by
  refine ⟨by unfold zeroV repV; rw [List.size_toArray, List.length_append, List.length_replicate]; rfl, fun i hi => ?_⟩
  unfold zeroV
  rw [List.getElem?_toArray]
  by_cases h1 : i < 12577
  · rw [repV_lt _ _ _ _ h1, cel_b _ h1]
    rfl
  · have : i = 12577 ∨ i = 12578 ∨ i = 12579 ∨ i = 12580 ∨ i = 12581 ∨ i = 12582 ∨ i = 12583 ∨ i = 12584 := by omega
    clear h1 hi
    rcases this with rfl | rfl | rfl | rfl | rfl | rfl | rfl | rfl
    · exact repV_ge 12577 0 _ _
    · exact repV_ge 12577 1 _ _
    · exact repV_ge 12577 2 _ _
    · exact repV_ge 12577 3 _ _
    · exact repV_ge 12577 4 _ _
    · exact repV_ge 12577 5 _ _
    · exact repV_ge 12577 6 _ _
    · exact repV_ge 12577 7 _ _
theorem zeroV_ok : Fok (fun _ => 0) := ⟨fun _ _ => by decide, by decide, by decide, by decide, by decide, by decide, by decide, by decide, by decide⟩
set_option maxRecDepth 1000000 in
theorem witV {enc : TypeId × Value → H} {os : Os} (f : FuncId) (fn : Func) (s : ChangeSpec) (ts : List TypeId) (rest : List Value) (Z : Array Value) (fz : Nat → Nat) (FZ : Fok fz) (VZ : Vid Z fz) (i : Input) (hi : i = ⟨#[], (Value.agg Z :: rest).toArray, []⟩)
    (hf : Try.prog.funcs[f]? = some fn) (hp : fn.params.toList = 28 :: ts) (hvars : s.vars = []) (hb : fn.body.isSome = true) (ho : fn.ours = false) (hfr : fn.nfree = 0) (hin : Try.prog.inits.idxOf? f = none) (hlen : rest.length = ts.length)
    (hv : (World.plainHolding Try.prog os i).variablesB Try.prog = true)
    (hr : ((World.plainHolding Try.prog os i).heap.toList.drop Try.prog.globals.size).take ((begin Try.prog (fun _ _ => 0) default).world.heap.size - Try.prog.globals.size) = (begin Try.prog (fun _ _ => 0) default).world.heap.toList.drop Try.prog.globals.size)
    (hok : ((List.range ts.length).all fun j => match ts[j]?, rest[j]? with | some t, some v => Value.okWideB Try.prog (World.plainHolding Try.prog os i) t v | _, _ => false) = true)
    (hrest : (match DataW.trodAll enc Try.prog (World.plainHolding Try.prog os i).memory 0 (fun _ => true) true 8 ts rest with | some x => x.2.isEmpty && (DataW.weightsEach Try.prog ts x.1).all (· ≤ reachBytes) | none => false) = true) :
    ∃ (w : World) (tape : Tape) (i : Input), w.os = os ∧ (w.forCall tape i).Shaped Try.prog ∧ i.vars = [] ∧ Input.okWide Try.prog (w.forCall tape i) .any w.heap.size f i ∧
      s.pre6 enc Try.prog fn [] false (w.forCall tape i).memory i.args ∧ ({ modest := false } : Assume).holds Try.prog (lone (Frame.enter Try.prog f i.args .normal) [] (w.forCall tape i)) := by
  refine ⟨World.holding Try.prog os i, fun _ _ => 0, ⟨#[], i.args, []⟩, rfl, World.shaped_of_B hv hr, rfl, ?_, ?_, ?_⟩
  · refine ⟨fun o ho => by simp at ho, fun gv hg => by simp at hg, hin, fn, hf, hb, ho, hfr, ?_, fun j t v hj hvj => ?_⟩
    · rw [← Array.length_toList (xs := fn.params), hp, hi]
      simp [hlen]
    · rw [← Array.getElem?_toList, hp] at hj
      have hvj : (Value.agg Z :: rest)[j]? = some v := by rw [hi] at hvj; simpa using hvj
      cases j with
      | zero =>
        simp at hj hvj
        subst hj hvj
        exact ok_vid Z fz FZ VZ _ _
      | succ j =>
        simp only [List.getElem?_cons_succ] at hj hvj
        have hjl : j < ts.length := (List.getElem?_eq_some_iff.1 hj).1
        have := List.all_eq_true.1 hok j (List.mem_range.2 hjl)
        rw [hj, hvj] at this
        exact Value.okWide_of_okWideB this
  · obtain ⟨d, hd, hw⟩ := light_vid Z fz FZ VZ (World.plainHolding Try.prog os i).memory enc
    split at hrest
    · rename_i x hx
      rw [Bool.and_eq_true] at hrest
      have hx2 : x.2 = [] := List.isEmpty_iff.1 hrest.1
      have hW : DataW.Whole enc Try.prog fn.params.toList s.vars false (World.plainHolding Try.prog os i).memory i.args.toList (d :: x.1) [] [] := by
        refine ⟨[], [], ?_, ?_, rfl, fun b off h => by simp at h, fun h => by cases h⟩
        · have ea : i.args.toList = Value.agg Z :: rest := by rw [hi]
          have h2 := DataW.TrodAll_of_trodAll hx
          rw [hx2] at h2
          rw [hp, ea]
          exact trodAll_cons_mk (p := []) (p' := []) (v := Value.agg Z) ⟨4, hd⟩ h2
        · rw [hvars]; exact rfl
      refine ⟨⟨d :: x.1, [], [], hW, rfl⟩, by kernel_rfl, d :: x.1, [], [], hW, ?_⟩
      have hvt : (OpenSpec.ofChange s).bare.plain.varTypes Try.prog = [] := by
        show (s.vars.filterMap _) = []
        rw [hvars]
        rfl
      rw [hvt, List.append_nil, List.append_nil, hp]
      simp only [DataW.weightsEach, hw, List.nil_append]
      exact hrest.2
    · cases hrest
  · simp only [Assume.holds]
    exact ⟨by simp, by simp, fun h => by simp at h, by simp, by simp⟩
end Go.Proofs.Ytokbnffofaeipaa
