/-
  A world that differs in one block; bytes copied into a video memory.
-/
import Derived.Test.YtecaipakaaongaaXvLeaf
import Derived.Laws.CopyOwn
set_option linter.unusedSimpArgs false
set_option linter.unusedVariables false
namespace Go.Proofs.Ytecaipakaaongaa
open Go.RowKit Classical
structure Onl (b : Nat) (w w' : World) : Prop where
  os : w'.os = w.os
  tape : w'.tape = w.tape
  output : w'.output = w.output
  size : w'.heap.size = w.heap.size
  block : ∀ k, k ≠ b → w'.heap[k]? = w.heap[k]?
theorem Onl.refl (b : Nat) (w : World) : Onl b w w := ⟨rfl, rfl, rfl, rfl, fun _ _ => rfl⟩
theorem Onl.trans {b : Nat} {u v w : World} (h : Onl b u v) (k : Onl b v w) : Onl b u w := ⟨k.os.trans h.os, k.tape.trans h.tape, k.output.trans h.output, k.size.trans h.size, fun j hj => (k.block j hj).trans (h.block j hj)⟩
theorem Onl.drew {b : Nat} {u v : World} (h : Onl b u v) : Onl b u v.drew := ⟨h.os, h.tape, h.output, h.size, h.block⟩
theorem Onl.setCell {b : Nat} {u v : World} (h : Onl b u v) (i : Nat) (x : Value) : Onl b u (v.setCell ⟨b, i, none⟩ x) := by
  have k : Below b v (v.setCell ⟨b, i, none⟩ x) := (Below.refl b v).setCell (p := ⟨b, i, none⟩) (Nat.le_refl _) x
  exact ⟨k.os.trans h.os, k.tape.trans h.tape, k.output.trans h.output, (World.size_setCell v ⟨b, i, none⟩ x).trans h.size, fun j hj => (Below.heap_setCell v ⟨b, i, none⟩ x j hj).trans (h.block j hj)⟩
theorem Onl.setRow {b : Nat} {u v : World} (h : Onl b u v) (cs : Array Value) : Onl b u (v.setRow b cs) :=
  ⟨h.os, h.tape, h.output, (by simp [World.setRow] : (v.setRow b cs).heap.size = v.heap.size).trans h.size, fun j hj => (setRow_other v b j cs hj).trans (h.block j hj)⟩
theorem Onl.below {b B : Nat} {u v : World} (h : Onl b u v) (hB : B ≤ b) : Below B u v := ⟨h.os, h.tape, h.output, by rw [h.size]; exact Nat.le_refl _, fun k hk => h.block k (by omega)⟩
theorem Onl.cell {b : Nat} {u v : World} (h : Onl b u v) {p : Addr} (hp : p.block ≠ b) : v.cell? p = u.cell? p := by simp [World.cell?, h.block _ hp]
theorem Onl.blk {b b' : Nat} {u v : World} {cs : Array Value} {t : TypeId} (h : Onl b u v) (k : Blk u b' cs t) (hp : b' ≠ b) : Blk v b' cs t := (h.block _ hp).trans k
def srcC (n : Nat) (src : Nat → Nat) : List Value := (List.range n).map fun k => Value.int .u8 (src k : Nat)
theorem srcC_len (n : Nat) (src : Nat → Nat) : (srcC n src).length = n := by simp [srcC]
theorem srcC_at (n : Nat) (src : Nat → Nat) (k : Nat) (h : k < n) : (srcC n src)[k]? = some (.int .u8 (src k : Nat)) := by
  unfold srcC; rw [List.getElem?_map, List.getElem?_range h]; rfl
theorem srcC_one (n : Nat) (src : Nat → Nat) : ∀ v ∈ srcC n src, v.oneCell' = true := by
  intro v hv
  unfold srcC at hv
  obtain ⟨k, _, rfl⟩ := List.mem_map.1 hv
  rfl
theorem Vid.cpyV {cs : Array Value} {f : Nat → Nat} (V : Vid cs f) (off n : Nat) (src : Nat → Nat) (hn : off + n ≤ 12577) :
    Vid (cs.toList.take off ++ (srcC n src ++ cs.toList.drop (off + (srcC n src).length))).toArray (cpy f off n src) := by
  have hl := V.1
  have hs := srcC_len n src
  refine ⟨by simp [hs, hl]; omega, fun i hi => ?_⟩
  rw [List.getElem?_toArray]
  unfold cpy
  by_cases h1 : i < off
  · rw [List.getElem?_append_left (by simp; omega), List.getElem?_take, if_pos h1, if_neg (by omega), Array.getElem?_toList]
    exact V.2 i hi
  · rw [List.getElem?_append_right (by simp; omega)]
    have e : (cs.toList.take off).length = off := by simp; omega
    rw [e]
    by_cases h2 : i < off + n
    · rw [List.getElem?_append_left (by omega), srcC_at _ _ _ (by omega), if_pos (by omega), cel_b _ (by omega)]
    · rw [List.getElem?_append_right (by omega), hs, List.getElem?_drop, if_neg (by omega), Array.getElem?_toList, show off + n + (i - off - n) = i by omega]
      exact V.2 i hi
theorem Fok.cpyF {f : Nat → Nat} (F : Fok f) (off n : Nat) (src : Nat → Nat) (hn : off + n ≤ 12577) (hs : ∀ k, k < n → src k < 256) : Fok (cpy f off n src) := by
  refine ⟨fun j hj => ?_, ?_, ?_, ?_, ?_, ?_, ?_, ?_, ?_⟩
  · unfold cpy
    split
    · exact hs _ (by omega)
    · exact F.b j hj
  all_goals
    unfold cpy
    rw [if_neg (by omega)]
    first | exact F.v | exact F.t | exact F.x | exact F.w | exact F.wide | exact F.grey | exact F.buf | exact F.io
/-- copy into a video memory: the run of the builtin. -/
theorem wp_copyV {P : Program} {w : World} {o : Oper} {a : Act} {K : Act → World → Prop} {Q : Exit → Act → World → Prop} (d s : Operand) (dT sT : TypeId)
    (ho : o.op = .call { callee := .builtin .copy, args := #[d, s], argTypes := #[dT, sT] }) (elem : TypeId) (hu : P.underlying dT = some (.slice elem)) (hsz : (P.info? elem).map (·.size) = some 1)
    (b off dLen dCap sLen sCap : Nat) (sp : Option Addr) (hd : a.eval d = .slice (some ⟨b, off, none⟩) dLen dCap) (hs : a.eval s = .slice sp sLen sCap)
    (cs : Array Value) (f : Nat → Nat) (t : TypeId) (V : Vid cs f) (hB : Blk w b cs t) (n : Nat) (src : Nat → Nat) (hn : n = Nat.min sLen dLen)
    (hsrc : 0 < n → ∃ ad : Addr, sp = some ad ∧ ∀ j, j < n → w.cell? (ad.add j) = some (.int .u8 (src j : Nat))) (hfit : off + n ≤ 12577)
    (h : ∀ w' cs', Blk w' b cs' t → Vid cs' (cpy f off n src) → Onl b w w' → K (a.put o.dst (goInt n)) w') : Oper.wp P o a w K Q := by
  by_cases h0 : n = 0
  · subst h0
    have hrun := run_copy_none (P := P) w dT sT o.type elem (some ⟨b, off, none⟩) sp dLen dCap sLen sCap hu hsz hn.symm
    unfold Oper.wp
    simp [execOp, ho, resolve, invoke, builtin, hd, hs, hrun, Result.andThen]
    have e : cpy f off 0 src = f := by
      funext j
      unfold cpy
      rw [if_neg (by omega)]
    exact h w cs hB (by rw [e]; exact V) (Onl.refl _ _)
  · obtain ⟨ad, rfl, hsrc2⟩ := hsrc (by omega)
    have hrun := run_copy_row (P := P) w dT sT o.type elem b off dLen dCap ad sLen sCap cs t (srcC n src) hu hsz hB (by rw [srcC_len]; exact hn)
      (fun j v hv => by
        by_cases hj : j < n
        · rw [srcC_at _ _ _ hj] at hv; rw [← hv]; exact hsrc2 j hj
        · rw [List.getElem?_eq_none (by rw [srcC_len]; omega)] at hv; cases hv)
      (by rw [srcC_len, V.1]; omega) (srcC_one n src)
    unfold Oper.wp
    simp [execOp, ho, resolve, invoke, builtin, hd, hs, hrun, Result.andThen]
    rw [srcC_len]
    exact h _ _ (setRow_heap w b _ _ t _ hB) (by have := V.cpyV off n src hfit; rw [srcC_len] at this; exact this) ((Onl.refl b w).setRow _)
theorem wpList_copyV {P : Program} {w : World} {ops : Array Oper} {rest : List Oper} {o : Oper} {a : Act} {Q : Exit → Act → World → Prop} (hgd : o.guard = none) (d s : Operand) (dT sT : TypeId)
    (ho : o.op = .call { callee := .builtin .copy, args := #[d, s], argTypes := #[dT, sT] }) (elem : TypeId) (hu : P.underlying dT = some (.slice elem)) (hsz : (P.info? elem).map (·.size) = some 1)
    (b off dLen dCap sLen sCap : Nat) (sp : Option Addr) (hd : a.eval d = .slice (some ⟨b, off, none⟩) dLen dCap) (hs : a.eval s = .slice sp sLen sCap)
    (cs : Array Value) (f : Nat → Nat) (t : TypeId) (V : Vid cs f) (hB : Blk w b cs t) (n : Nat) (src : Nat → Nat) (hn : n = Nat.min sLen dLen)
    (hsrc : 0 < n → ∃ ad : Addr, sp = some ad ∧ ∀ j, j < n → w.cell? (ad.add j) = some (.int .u8 (src j : Nat))) (hfit : off + n ≤ 12577)
    (h : ∀ w' cs', Blk w' b cs' t → Vid cs' (cpy f off n src) → Onl b w w' → wpList P ops Q rest (a.put o.dst (goInt n)) w') : wpList P ops Q (o :: rest) a w :=
  wpList_plain hgd fun K hK => wp_copyV d s dT sT ho elem hu hsz b off dLen dCap sLen sCap sp hd hs cs f t V hB n src hn hsrc hfit fun w' cs' h1 h2 h3 => hK _ _ (h w' cs' h1 h2 h3)
theorem step_copyV {P : Program} {ops : Array Oper} {w : World} {o : Oper} {a : Act} {K : Act → World → Prop} {Q : Exit → Act → World → Prop} {E : Prop} (hgd : o.guard = none) (d s : Operand) (dT sT : TypeId)
    (ho : o.op = .call { callee := .builtin .copy, args := #[d, s], argTypes := #[dT, sT] }) (elem : TypeId) (hu : P.underlying dT = some (.slice elem)) (hsz : (P.info? elem).map (·.size) = some 1)
    (b off dLen dCap sLen sCap : Nat) (sp : Option Addr) (hd : a.eval d = .slice (some ⟨b, off, none⟩) dLen dCap) (hs : a.eval s = .slice sp sLen sCap)
    (cs : Array Value) (f : Nat → Nat) (t : TypeId) (V : Vid cs f) (hB : Blk w b cs t) (n : Nat) (src : Nat → Nat) (hn : n = Nat.min sLen dLen)
    (hsrc : 0 < n → ∃ ad : Addr, sp = some ad ∧ ∀ j, j < n → w.cell? (ad.add j) = some (.int .u8 (src j : Nat))) (hfit : off + n ≤ 12577)
    (h : ∀ w' cs', Blk w' b cs' t → Vid cs' (cpy f off n src) → Onl b w w' → K (a.put o.dst (goInt n)) w') : if Region.wanted o (yielded ops a.tmps) = true then Oper.wp P o a w K Q else E := by
  have hw : Region.wanted o (yielded ops a.tmps) = true := by simp [Region.wanted, hgd]
  rw [if_pos hw]
  exact wp_copyV d s dT sT ho elem hu hsz b off dLen dCap sLen sCap sp hd hs cs f t V hB n src hn hsrc hfit h
theorem max2i {P : Program} (w : World) (ats : Array TypeId) (ty : TypeId) (a b : Int) : (Builtin.max_ ats ty #[.int .i64 a, .int .i64 b]).run P w = .ok (.int .i64 (max a b)) w := by
  unfold Builtin.max_
  simp only [List.foldlM_cons, List.foldlM_nil, Builtin.max2, Sem.run_bind, Sem.run_pure, Result.andThen_ok, gt_iff_lt]
  rw [show (if a < b then b else a) = max a b by omega]
end Go.Proofs.Ytecaipakaaongaa
