/-
  The law IsaShapes by what both Shape and Cycles answer; conditions: the letters lie in their variable.
-/
import Derived.Test.YtlolfmpgljpjoaaDoorIShp
import Derived.Test.YtlolfmpgljpjoaaDoorICyc
import Derived.Test.YtlolfmpgljpjoaaDoorIAlike
import Derived.Test.YtlolfmpgljpjoaaDoorIRCyc
import Derived.ArgAppend
set_option linter.unusedSimpArgs false
set_option linter.unusedVariables false
namespace Go.Proofs.YtlolfmpgljpjoaaDoor
open Go.RowKit
def r90 (n : Nat) : List Nat := (List.range n).map fun i => 90 + i
def fil90 (l : List Nat) (i : Nat) : List Nat := r90 i ++ l.drop i
theorem r90_length (n : Nat) : (r90 n).length = n := by simp [r90]
theorem fil90_length {l : List Nat} {i : Nat} (h : i ≤ l.length) : (fil90 l i).length = l.length := by simp [fil90, r90_length]; omega
theorem fil90_end (l : List Nat) : fil90 l l.length = r90 l.length := by simp [fil90]
theorem fil90_set {l : List Nat} {i : Nat} (h : i < l.length) : (ints (fil90 l i)).toArray.setIfInBounds i (.int .i64 (90 + (i : Int))) = (ints (fil90 l (i + 1))).toArray := by
  simp only [List.setIfInBounds_toArray]
  congr 1
  have e : fil90 l (i + 1) = (fil90 l i).set i (90 + i) := by
    unfold fil90
    rw [List.set_append_right _ _ (by rw [r90_length]; exact Nat.le_refl _), r90_length, Nat.sub_self, List.drop_eq_getElem_cons h, List.set_cons_zero]
    simp [r90, List.range_succ]
  rw [e]
  simp [ints, List.map_set]
theorem r90_at {n j : Nat} (h : j < n) : (r90 n).getD j 0 = 90 + j := by simp [r90, h]
theorem Cel.other {w : World} {g m : Nat} {l : List Nat} (h : Cel w g l) (hn : g ≠ m) (i : Nat) (v : Value) : Cel (w.setCell ⟨m, i, none⟩ v) g l := fun j hj =>
  (World.cell?_of_block (w := w) (a := ⟨g, j, none⟩) (Below.heap_setCell w ⟨m, i, none⟩ v g hn)).trans (h j hj)
theorem Cel.below {w w' : World} {g B : Nat} {l : List Nat} (h : Cel w g l) (hB : g < B) (hb : Below B w w') : Cel w' g l := fun j hj => (hb.cell (p := ⟨g, j, none⟩) hB).trans (h j hj)
theorem wpList_full {ops : Array Oper} {rest : List Oper} {o : Oper} {a : Act} {Q : Exit → Act → World → Prop} (hgd : o.guard = none) (s x : Operand)
    (ho : o.op = .call { callee := .builtin .append, args := #[s, x], argTypes := #[35, 35] }) {l m : List Nat} {g : Nat} {W : World} (hB : Blk W g (ints l).toArray 39)
    (hs : a.eval s = .slice (some ⟨g, 0, none⟩) l.length l.length) (hx : a.eval x = .slice (some ⟨W.heap.size, 0, none⟩) m.length m.length) (hm : 0 < m.length) (hlm : l.length + m.length ≤ 100)
    (h : ∀ v' w', Acs w' W.heap.size v' (l ++ m) → Below W.heap.size W w' → wpList Tryd.prog ops Q rest (a.put o.dst v') w') : wpList Tryd.prog ops Q (o :: rest) a (W.alloc (.cells (ints m).toArray 39)) := by
  obtain ⟨i0, hi, hz0, hz1, hz2⟩ := info_parts Tryd.infoAcc
  have hN : Blk (W.alloc (.cells (ints m).toArray 39)) W.heap.size (ints m).toArray 39 := Blk.new W _ _
  have cells : ∀ (g' : Nat) (l' : List Nat), Blk (W.alloc (.cells (ints m).toArray 39)) g' (ints l').toArray 39 → ∀ j u, (ints l')[j]? = some u → (W.alloc (.cells (ints m).toArray 39)).cell? ((⟨g', 0, none⟩ : Addr).add j) = some u := by
    intro g' l' hb j u hu
    have := hb.cell j
    rw [List.getElem?_toArray, hu] at this
    by_cases hj : j = 0
    · subst hj; simpa [Addr.add] using this
    · simpa [Addr.add, hj] using this
  refine wpList_append_grows (W.alloc (.cells (ints m).toArray 39)) hgd s x 35 ho 39 i0 (.int .i64 0) 1 8 (by kernel_rfl) hi hz0 hz1 hz2 rfl (by decide) (some ⟨g, 0, none⟩) l.length l.length (ints l) hs (fun h => by cases h) (by simp [ints]) (fun b hb => by cases hb; exact cells g l (hB.old _)) ⟨W.heap.size, 0, none⟩ m.length m.length (ints m) hx (by simp [ints]) (cells W.heap.size m hN) (ints_one m) (by omega) (by unfold maxLen; omega) (by omega) ?_
  intro v' w' h1 h2
  have hb : Below (W.alloc (.cells (ints m).toArray 39)).heap.size (W.alloc (.cells (ints m).toArray 39)) w' := (Below.refl _ _).grown h2 (Nat.le_refl _) (by simp)
  refine h v' w' ?_ (((Below.refl _ _).alloc (Nat.le_refl _) _).trans (hb.mono (by simp)))
  have : Acs w' (W.alloc (.cells (ints m).toArray 39)).heap.size v' (l ++ m) := by unfold Acs; rw [List.length_append, ints_append]; exact h1
  exact this.lower (by simp)
set_option maxRecDepth 100000 in
set_option maxHeartbeats 4000000 in
theorem law_isaShapes (k : Nat) (hk : k < 256) (cr tk : Bool) (w : World) (T : LTab w) :
    Calls Tryd.prog 5 #[.int .u8 (k : Nat), .bool cr, .bool tk] w fun e w' => e = .returned (.bool true) ∧ Below w.heap.size w w' := by
  have h1 := (shp_length k hk cr tk).2
  have h8 := (shp_length k hk cr tk).1
  have SO := Hid.mk2 (fun W => shape_own k hk cr tk W)
  have RS := Hid.mk2 (fun W (hW : Below w.heap.size w W) => rshape_any k hk cr tk W (T.below hW))
  have CY := Hid.mk2 (fun W => cycles_any k hk cr tk W)
  clear T
  generalize shQ k cr tk = l at *
  go_enter Tryd.func5, Tryd.ntmps5
  go_upto_region 4 with (first
    | (go_at_call 9; go_must (refine (SO.out _).mono ?_; rintro e w1 ⟨ga, rfl, hga, BA, hb1⟩))
    | (go_at_call 10; go_must (refine (RS.out _ hb1).mono ?_; rintro e w2 ⟨vb, rfl, own, hb2⟩; obtain ⟨gb, capb, rfl, hgb, hgl, hcap, cb, -⟩ := own.form (by omega)))
    | (go_at_call 11; go_must (refine (CY.out _).mono ?_; rintro e w3 ⟨rfl, hb3⟩)))
  have hla := BA.lt
  have hs2 := hb2.size
  have BA3 := (BA.below hla hb2).below (by omega) hb3
  have CB : Cel w2 gb l := cb
  have CB3 := CB.below hgl hb3
  have hB2 := hb1.trans (hb2.mono hb1.size)
  have hB3 := hB2.trans (hb3.mono hB2.size)
  have hne : ga ≠ gb := by omega
  have hsz := hb3.size
  clear BA own hb1 hb2 hb3 cb CB hB2 CY RS
  go_upto_region 6 with (go_at_call 12; go_must (refine (alike_true l (by omega) ga _ gb _ _ (Cel.of_blk BA3) CB3).mono ?_; rintro e w4 ⟨rfl, m4, rfl⟩))
  have BA4 : Blk (w3.drewN m4) ga (ints (fil90 l 0)).toArray 39 := BA3
  have CB4 : Cel (w3.drewN m4) gb l := CB3
  have hB4 : Below w.heap.size w (w3.drewN m4) := hB3.trans ⟨rfl, rfl, rfl, Nat.le_refl _, fun _ _ => rfl⟩
  generalize w3.drewN m4 = W4 at *
  clear BA3 CB3 hB3
  go_wp2
  go_loopw [10] (fun i wr => ∃ j : Nat, j ≤ l.length ∧ i = .int .i64 j ∧ Blk wr ga (ints (fil90 l j)).toArray 39 ∧ Cel wr gb l ∧ Below w.heap.size w wr) (fun i _ => l.length - (intOf i).toNat)
  case atStart => exact ⟨0, by omega, rfl, BA4, CB4, hB4⟩
  case round =>
    clear BA4 CB4 hB4
    obtain ⟨j, hj, rfl, BA, CB, hB⟩ := hrel
    by_cases hjl : j = l.length
    · subst hjl
      rw [fil90_end] at BA
      have hgb2 : gb < wr.heap.size := cell_ltx (CB 0 (by omega))
      have hga2 := BA.lt
      have e90 := r90_length l.length
      go_upto_region 11 with (at_builtin; go_must (refine wpList_full (l := r90 l.length) (m := [80, 81]) rfl _ _ rfl BA (by rw [e90]; rfl) rfl (by simp) (by rw [e90]; simp; omega) ?_; intro vm w5 own5 hb5; obtain ⟨gm, capm, rfl, hgm, hgml, hcapm, cm, -⟩ := own5.form (by simp)))
      have CM : Cel w5 gm (r90 l.length ++ [80, 81]) := cm
      have BA5 := BA.below hga2 hb5
      have CB5 := CB.below hgb2 hb5
      have hB5 := hB.trans (hb5.mono hB.size)
      have hs5 := hb5.size
      clear BA CB hB hb5 own5 cm
      go_upto_region 12 with (go_at_call 9; go_must (refine (SO.out _).mono ?_; rintro e w6 ⟨gc, rfl, hgc, BC, hb6⟩))
      have BA6 := BA5.below (by omega) hb6
      have CB6 := CB5.below (by omega) hb6
      have CM6 := CM.below hgml hb6
      have hB6 := hB5.trans (hb6.mono hB5.size)
      have hs6 := hb6.size
      have hlc := BC.lt
      clear BA5 CB5 CM hB5 hb6
      go_upto_region 13 with (at_builtin; go_must (refine wpList_full (l := l) (m := [82]) rfl _ _ rfl BC rfl rfl (by simp) (by simp; omega) ?_; intro vd w7 own7 hb7; obtain ⟨gd, capd, rfl, hgd, hgdl, hcapd, cd, -⟩ := own7.form (by simp)))
      have BA7 := BA6.below (by omega) hb7
      have CB7 := CB6.below (by omega) hb7
      have hB7 := hB6.trans (hb7.mono hB6.size)
      have BC7 := Cel.of_blk (BC.below hlc hb7)
      have xm : w7.cell? ⟨gm, l.length, none⟩ = some (.int .i64 80) := by
        have := (CM6.below (by omega) hb7) l.length (by simp [e90])
        rw [this]
        simp [List.getD, List.getElem?_append_right, e90]
      have xd : w7.cell? ⟨gd, l.length, none⟩ = some (.int .i64 82) := by
        have := cd l.length (by simp)
        rw [this]
        simp
      clear BA6 CB6 CM6 hB6 hb7 own7 cd BC
      go_upto_region 15 with (go_at_call 12; go_must (refine (alike_true l (by omega) gc _ gb _ _ BC7 CB7).mono ?_; rintro e w8 ⟨rfl, m8, rfl⟩))
      have CA : Cel (w7.drewN m8) ga (r90 l.length) := Cel.of_blk BA7
      have hB8 : Below w.heap.size w (w7.drewN m8) := hB7.trans ⟨rfl, rfl, rfl, Nat.le_refl _, fun _ _ => rfl⟩
      generalize w7.drewN m8 = W8 at *
      clear BA7 CB7 BC7 hB7 xm xd
      go_wp2
      go_loop [14] (fun i => ∃ q : Nat, q ≤ l.length ∧ i = .int .i64 q) (fun i => l.length - (intOf i).toNat)
      case atStart => exact ⟨0, by omega, rfl⟩
      case round =>
        obtain ⟨q, hq, rfl⟩ := hrel
        by_cases hql : q = l.length
        · subst hql
          go_wp2
          go_ret
          exact ⟨rfl, hB8⟩
        · have hlt : (q : Int) < l.length := by omega
          have cq := CA q (by rw [e90]; omega)
          rw [r90_at (by omega)] at cq
          go_wp2
          go_round
          case rel => exact ⟨q + 1, by omega, by go_num⟩
          case measure => simp [intOf]; omega
    · have hlt : (j : Int) < l.length := by omega
      have hf := BA.free j
      have hc := Cel.of_blk BA j (by rw [fil90_length hj]; omega)
      have BS := BA.set j (.int .i64 (90 + (j : Int)))
      rw [fil90_set (by omega)] at BS
      have CS := CB.other (m := ga) (Ne.symm hne) j (.int .i64 (90 + (j : Int)))
      have hBS := hB.setCell (p := ⟨ga, j, none⟩) hga (.int .i64 (90 + (j : Int)))
      clear BA CB
      go_wp2
      go_roundw
      case rel => exact ⟨j + 1, by omega, by go_num, BS, CS, hBS⟩
      case measure => simp [intOf]; omega
end Go.Proofs.YtlolfmpgljpjoaaDoor
