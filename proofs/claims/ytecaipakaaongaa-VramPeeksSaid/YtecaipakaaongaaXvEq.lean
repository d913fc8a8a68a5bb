/-
  A video memory is equal to itself; arrays of bytes held against each other.
-/
import Derived.Test.YtecaipakaaongaaXvSpec
import Derived.ChangeKeysEq
import Derived.Laws.StructEq
set_option linter.unusedSimpArgs false
set_option linter.unusedVariables false
namespace Go.Proofs.Ytecaipakaaongaa
open Go.RowKit Classical
theorem part_u8 (xs : Array Value) (i : Nat) (v : Value) (h : xs[i]? = some v) (w : World) : (part 5 xs i).run Try.prog w = .ok v w := by
  simp [part, h, go_sem]
theorem eqItems_u8 (d : Nat) (xs ys : Array Value) (f g : Nat → Nat) (w : World) : ∀ (is : List Nat), (∀ i ∈ is, xs[i]? = some (.int .u8 (f i : Nat)) ∧ ys[i]? = some (.int .u8 (g i : Nat))) →
    (Op.eqItems (d + 1) 5 1 xs ys is).run Try.prog w = .ok (is.all fun i => f i == g i) w
  | [], _ => by simp [Op.eqItems]
  | i :: is, h => by
    obtain ⟨h1, h2⟩ := h i (by simp)
    have ih := eqItems_u8 d xs ys f g w is fun j hj => h j (by simp [hj])
    have e : (((f i : Nat) : Int) == ((g i : Nat) : Int)) = (f i == g i) := by
      rw [Bool.eq_iff_iff]; simp; omega
    simp only [Op.eqItems, Nat.mul_one, Sem.run_bind, part_u8 xs i _ h1, part_u8 ys i _ h2, Result.andThen_ok, run_equalIn_int w d 5 .u8 .u8 _ _ Try.underlying5]
    rw [e]
    cases hq : (f i == g i)
    · simp [hq]
    · simp [hq, ih]
theorem eqArr (d T n : Nat) (hu : Try.prog.underlying T = some (.array n 5)) (xs ys : Array Value) (f g : Nat → Nat) (hx : ∀ i, i < n → xs[i]? = some (.int .u8 (f i : Nat))) (hy : ∀ i, i < n → ys[i]? = some (.int .u8 (g i : Nat))) (w : World) :
    (Op.equalIn (d + 2) T (.agg xs) (.agg ys)).run Try.prog w = .ok ((List.range n).all fun i => f i == g i) w := by
  have hm : (Try.prog.info? 5).map (·.size) = some 1 := by kernel_rfl
  obtain ⟨i, hi, _⟩ := Option.map_eq_some_iff.1 hm
  rw [run_equalIn_array w (d + 1) xs ys hu hi, show Try.prog.cellsOf 5 = 1 by kernel_rfl]
  exact eqItems_u8 d xs ys f g w _ fun i hi => ⟨hx i (List.mem_range.1 hi), hy i (List.mem_range.1 hi)⟩
theorem eqFields_all (d : Nat) (xs ys : Array Value) (w : World) : ∀ (fs : List Field), (∀ f ∈ fs, f.name ≠ "_" ∧ ∃ v, (part f.type xs f.offset).run Try.prog w = .ok v w ∧ ∃ u, (part f.type ys f.offset).run Try.prog w = .ok u w ∧ (Op.equalIn d f.type v u).run Try.prog w = .ok true w) →
    (Op.eqFields d xs ys fs).run Try.prog w = .ok true w
  | [], _ => by simp [Op.eqFields]
  | f :: fs, h => by
    obtain ⟨hn, v, p1, u, p2, p3⟩ := h f (by simp)
    have ih := eqFields_all d xs ys w fs fun g hg => h g (by simp [hg])
    simp only [Op.eqFields, hn, ne_eq, not_false_eq_true, if_true, Sem.run_bind, p1, p2, p3, Result.andThen_ok]
    simpa using ih
theorem goodA (a : Array Value) (f : Nat → Nat) (V : Vid a f) (w : World) (T n o : Nat) (hn : o + n ≤ 12577) (hu : Try.prog.underlying T = some (.array n 5)) (hs : (sizeOf T).run Try.prog w = .ok n w) (hg : (isAgg T).run Try.prog w = .ok true w) (_h : True = True) :
    ∃ v, (part T a o).run Try.prog w = .ok v w ∧ (Op.equalIn 9999 T v v).run Try.prog w = .ok true w := by
  have hx : ∀ i, i < n → (a.extract o (o + n))[i]? = some (.int .u8 (f (o + i) : Nat)) := fun i hi => by
    rw [Array.getElem?_extract, if_pos (by rw [V.1]; omega)]
    exact V.byte _ (by omega)
  refine ⟨.agg (a.extract o (o + n)), ?_, ?_⟩
  · simp only [part, Sem.run_bind, hg, Result.andThen_ok, if_true, hs, Sem.run_pure, Sem.run_ite]
  · rw [eqArr 9997 T n hu _ _ (fun i => f (o + i)) (fun i => f (o + i)) hx hx w]
    simp
theorem goodS (a : Array Value) (f : Nat → Nat) (V : Vid a f) (w : World) (T o : Nat) (v : Value) (ho : o < 12585) (hg : (isAgg T).run Try.prog w = .ok false w) (hv : cel o (f o) = v) : (part T a o).run Try.prog w = .ok v w := by
  have := V.2 o ho
  rw [hv] at this
  simp only [part, Sem.run_bind, hg, Result.andThen_ok, this, Sem.run_pure, Sem.run_ite, Bool.false_eq_true, if_false]
def fldV : List (Nat × Nat) := [(22, 0), (23, 257), (24, 4353), (25, 4385), (5, 256), (26, 12577), (26, 12578), (5, 12579), (4, 12580), (4, 12581), (4, 12582), (5, 12583), (5, 12584)]
theorem fldV_all : ((Try.prog.fieldsOf 28).toList.all fun f => (f.name != "_") && fldV.contains (f.type, f.offset)) = true := by kernel_rfl
theorem good (a : Array Value) (f : Nat → Nat) (V : Vid a f) (w : World) (T o : Nat) (h : fldV.contains (T, o) = true) : ∃ v, (part T a o).run Try.prog w = .ok v w ∧ (Op.equalIn 9999 T v v).run Try.prog w = .ok true w := by
  have h := List.contains_iff_mem.1 h
  unfold fldV at h
  simp only [List.mem_cons, List.not_mem_nil, or_false, Prod.mk.injEq] at h
  rcases h with ⟨rfl, rfl⟩ | ⟨rfl, rfl⟩ | ⟨rfl, rfl⟩ | ⟨rfl, rfl⟩ | ⟨rfl, rfl⟩ | ⟨rfl, rfl⟩ | ⟨rfl, rfl⟩ | ⟨rfl, rfl⟩ | ⟨rfl, rfl⟩ | ⟨rfl, rfl⟩ | ⟨rfl, rfl⟩ | ⟨rfl, rfl⟩ | ⟨rfl, rfl⟩
  · exact goodA a f V w 22 256 0 (by decide) Try.underlying22 (by kernel_rfl) (by kernel_rfl) (by kernel_rfl)
  · exact goodA a f V w 23 4096 257 (by decide) Try.underlying23 (by kernel_rfl) (by kernel_rfl) (by kernel_rfl)
  · exact goodA a f V w 24 32 4353 (by decide) Try.underlying24 (by kernel_rfl) (by kernel_rfl) (by kernel_rfl)
  · exact goodA a f V w 25 8192 4385 (by decide) Try.underlying25 (by kernel_rfl) (by kernel_rfl) (by kernel_rfl)
  · exact ⟨.int .u8 (f 256 : Nat), goodS a f V w 5 256 _ (by decide) (by kernel_rfl) (cel_b _ (by decide)), by rw [run_equalIn_int w 9998 5 _ .u8 _ _ Try.underlying5]; simp⟩
  · exact ⟨.int .u16 (f 12577 : Nat), goodS a f V w 26 12577 _ (by decide) (by kernel_rfl) rfl, by rw [run_equalIn_int w 9998 26 _ .u16 _ _ Try.underlying26]; simp⟩
  · exact ⟨.int .u16 (f 12578 : Nat), goodS a f V w 26 12578 _ (by decide) (by kernel_rfl) rfl, by rw [run_equalIn_int w 9998 26 _ .u16 _ _ Try.underlying26]; simp⟩
  · exact ⟨.int .u8 (f 12579 : Nat), goodS a f V w 5 12579 _ (by decide) (by kernel_rfl) rfl, by rw [run_equalIn_int w 9998 5 _ .u8 _ _ Try.underlying5]; simp⟩
  · exact ⟨.bool (f 12580 != 0), goodS a f V w 4 12580 _ (by decide) (by kernel_rfl) rfl, by rw [run_equalIn_bool' w 9998 4 _ _ Try.underlying4]; simp⟩
  · exact ⟨.bool (f 12581 != 0), goodS a f V w 4 12581 _ (by decide) (by kernel_rfl) rfl, by rw [run_equalIn_bool' w 9998 4 _ _ Try.underlying4]; simp⟩
  · exact ⟨.bool (f 12582 != 0), goodS a f V w 4 12582 _ (by decide) (by kernel_rfl) rfl, by rw [run_equalIn_bool' w 9998 4 _ _ Try.underlying4]; simp⟩
  · exact ⟨.int .u8 (f 12583 : Nat), goodS a f V w 5 12583 _ (by decide) (by kernel_rfl) rfl, by rw [run_equalIn_int w 9998 5 _ .u8 _ _ Try.underlying5]; simp⟩
  · exact ⟨.int .u8 (f 12584 : Nat), goodS a f V w 5 12584 _ (by decide) (by kernel_rfl) rfl, by rw [run_equalIn_int w 9998 5 _ .u8 _ _ Try.underlying5]; simp⟩
theorem eqVid (a b : Array Value) (f : Nat → Nat) (V : Vid a f) (V2 : Vid b f) (w : World) : (binOp .eql 28 (.agg a) (.agg b)).run Try.prog w = .ok (.bool true) w := by
  obtain rfl : a = b := V.ext V2 fun _ _ => rfl
  rw [run_eql_struct, run_equalIn_struct w 9999 28 a a (by kernel_rfl) (by kernel_rfl), eqFields_all 9999 a a w _ fun fl hf => ?_]
  · rfl
  · have := List.all_eq_true.1 fldV_all fl hf
    simp only [Bool.and_eq_true] at this
    obtain ⟨v, h1, h2⟩ := good a f V w fl.type fl.offset this.2
    exact ⟨by simpa using this.1, v, h1, v, h1, h2⟩
theorem vrun_exec_binOp (P : Program) (w : World) (ρ : Operand → Value) (dst : Option Tmp) (ty : TypeId) (pos : String) (after : Array Edge) (guard : Option (Nat × Bool)) (op : BinOp) (t z : TypeId) (x y : Operand) :
    (execOp ρ { dst, op := .binOp op t x y z, type := ty, pos, after, guard }).run P w = ((eqGuard op t x y (ρ x) (ρ y)).run P w).andThen fun _ v' => ((binOp op t (ρ x) (ρ y)).run P v').andThen fun r v'' => .ok (.value r) v'' := by
  unfold execOp
  simp only [Sem.run_bind, Sem.run_pure]
  cases (eqGuard op t x y (ρ x) (ρ y)).run P w <;> rfl
theorem exec_eqVid {ρ : Operand → Value} {o : Oper} {x y : Operand} {z : TypeId} {a b : Array Value} {f : Nat → Nat} {w : World} (ho : o.op = .binOp .eql 28 x y z) (hx : ρ x = .agg a) (hy : ρ y = .agg b) (V : Vid a f) (V2 : Vid b f) : (execOp ρ o).run Try.prog w = .ok (.value (.bool true)) w := by
  obtain ⟨dst, o, ty, pos, after, guard⟩ := o
  simp only at ho
  subst ho
  rw [vrun_exec_binOp, hx, hy, run_eqGuard_agg w .eql 28 _ _ _ _ (by kernel_rfl), Result.andThen_ok, eqVid a b f V V2 w]
  rfl
end Go.Proofs.Ytecaipakaaongaa
