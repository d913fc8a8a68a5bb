/-
  What clone, turnedMisc and the document's piece answer; conditions: the list's bytes lie in its slice.
-/
import Derived.Test.YtpdbndkckioamaaDoorCnvPre
import Derived.OwnWalk
import Derived.Laws.AppendOwn
import Derived.Laws.CopyOwn
import Derived.WalkKit
import Derived.WalkSpells
import Derived.WalkLawsBesides
set_option linter.unusedSimpArgs false
set_option linter.unusedVariables false
namespace Go.Proofs.YtpdbndkckioamaaDoor
open Go.RowKit
theorem vals_one (l : List Nat) : ∀ u ∈ vals l, u.oneCell' = true := by
  intro u hu
  simp only [vals, List.mem_map] at hu
  obtain ⟨n, _, rfl⟩ := hu
  rfl
theorem row_of {w : World} {base n : Nat} {v : Value} {xs : List Value} (l : List Nat) (hx : xs = vals l) (h : w.ownsRow base 5 1 v n xs) : ∃ a cap, v = .slice a n cap ∧ Row w a l := by
  obtain ⟨hlen, h⟩ := h
  rcases h with ⟨rfl, rfl⟩ | ⟨g, cap, cur, rfl, _, hh, hn, _, hs, ht⟩
  · refine ⟨none, 0, rfl, .inl ?_⟩
    rw [hx] at hlen
    simpa [vals] using hlen
  · refine ⟨_, cap, rfl, .inr ⟨g, 0, rfl, fun i hi => ?_⟩⟩
    rw [Nat.zero_add, cell_of_row w g i cur _ (0, 0) hh]
    have hl : l.length = n := by rw [hx] at hlen; simpa [vals] using hlen
    have e : cur.toList.take n = vals l := by rw [← hx, ← ht, Nat.mul_one]
    have e2 : (cur.toList.take n)[i]? = some (.int .u8 (l.getD i 0 : Nat)) := by rw [e]; simp [vals, hi]
    rw [List.getElem?_take, if_pos (by omega)] at e2
    simpa using e2
theorem vals_len (l : List Nat) : (vals l).length = l.length := by simp [vals]
theorem splice_full (cur cs : List Value) (h : cs.length = cur.length) : splice cur 0 cs = cs := by
  simp [splice, h]
/-- The bytes lie in the slice, in a block from B on. -/
def RowF (B : Nat) (w : World) (a : Option Addr) (l : List Nat) : Prop := l = [] ∨ ∃ b off, a = some ⟨b, off, none⟩ ∧ B ≤ b ∧ ∀ i, i < l.length → w.cell? ⟨b, off + i, none⟩ = some (.int .u8 (l.getD i 0 : Nat))
/-- What clone and piece are to answer. -/
def ListOk (B n : Nat) (l : List Nat) (e : Ending) (w' : World) : Prop := ∃ a' k, e = .returned (.slice a' n k) ∧ RowF B w' a' l
theorem RowF.row {B : Nat} {w : World} {a : Option Addr} {l : List Nat} (h : RowF B w a l) : Row w a l := by
  rcases h with h | ⟨b, off, e, _, hc⟩
  · exact .inl h
  · exact .inr ⟨b, off, e, hc⟩
theorem RowF.of_own {B g : Nat} {w : World} {l : List Nat} (h : Own w g l) (hg : B ≤ g) : RowF B w (some ⟨g, 0, none⟩) l := .inr ⟨g, 0, rfl, hg, fun i hi => by rw [Nat.zero_add]; exact h.cell i hi⟩
theorem RowF.mono {B B' : Nat} {w : World} {a : Option Addr} {l : List Nat} (h : RowF B w a l) (hB : B' ≤ B) : RowF B' w a l := by
  rcases h with h | ⟨b, off, e, hb, hc⟩
  · exact .inl h
  · exact .inr ⟨b, off, e, Nat.le_trans hB hb, hc⟩
theorem RowF.below {B : Nat} {w w' : World} {a : Option Addr} {l : List Nat} (h : RowF B w a l) (hb : Below w.heap.size w w') : RowF B w' a l := by
  rcases h with h | ⟨b, off, e, h2, hc⟩
  · exact .inl h
  · exact .inr ⟨b, off, e, h2, fun j hj => (hb.cell (p := ⟨b, off + j, none⟩) (cell_lt (p := ⟨b, off + j, none⟩) (hc j hj))).trans (hc j hj)⟩
theorem RowF.put {B m : Nat} {w : World} {a : Option Addr} {l : List Nat} (h : RowF B w a l) (hm : m < B) (i : Nat) (v : Value) : RowF B (w.setCell ⟨m, i, none⟩ v) a l := by
  rcases h with h | ⟨b, off, e, h2, hc⟩
  · exact .inl h
  · refine .inr ⟨b, off, e, h2, fun t ht => ?_⟩
    rw [World.cell?_setCell_far w ⟨m, i, none⟩ ⟨b, off + t, none⟩ v (by show m ≠ b; omega)]
    exact hc t ht
theorem RowF.puts {B m : Nat} {a : Option Addr} {l : List Nat} (hm : m < B) : ∀ (vs : List Value) (o : Nat) {w : World}, RowF B w a l → RowF B (w.setCells m o vs) a l
  | [], _, _, h => h
  | v :: vs, o, _, h => RowF.puts hm vs (o + 1) (h.put hm o v)
set_option maxHeartbeats 400000 in
theorem clone_any (n : Nat) (l : List Nat) (hn : l.length = n) (hlen : n ≤ 140737488351232) (a : Option Addr) (cap : Nat) (w : World) (hrow : Row w a l) :
    Calls Tryd.prog 37 #[.slice a n cap] w fun e w' => ListOk w.heap.size n l e w' ∧ Below w.heap.size w w' := by
  by_cases h0 : n = 0
  · obtain rfl : l = [] := List.eq_nil_of_length_eq_zero (hn.trans h0)
    subst h0
    clear hrow
    go_enter Tryd.func37, Tryd.ntmps37
    go_wp2
    go_ret
    exact ⟨⟨_, _, rfl, .inl rfl⟩, Below.refl _ _⟩
  · have h0' : ((n : Int) == 0) = false := by rw [beq_eq_false_iff_ne]; omega
    obtain ⟨b, off, rfl, hc⟩ := hrow.resolve_left (fun e => h0 (by rw [← hn, e]; rfl))
    have HC : Hid (∀ i, i < l.length → w.cell? ⟨b, off + i, none⟩ = some (.int .u8 (l.getD i 0 : Nat))) := hc
    have HL : Hid (l.length = n) := hn
    obtain ⟨i0, hi, hz0, hz1, hz2⟩ := info_parts Tryd.infoU8
    clear hrow hc hn
    go_enter Tryd.func37, Tryd.ntmps37
    go_upto_region 4 with (at_make; refine wpList_make_full _ rfl _ _ 22 rfl w.heap.size 5 i0 (.int .u8 0) 1 Tryd.underlying22 hi hz0 hz1 .i64 .i64 _ _ n rfl rfl rfl rfl (by rw [hz2]; omega) (by unfold maxLen; omega) (Nat.le_refl _) ?_; intro w1 hown hgrow)
    have ho := Own.of_row (List.replicate n 0) (vals_zero _) hown
    have hb := (Below.refl w.heap.size w).grown hgrow (Nat.le_refl _) (by simp)
    clear hown hgrow hi hz0 hz1 hz2
    have HO : Hid (w1.heap[w.heap.size]? = some (.cells (vals (List.replicate n 0)).toArray 5 (0, 0))) := ho
    have F1 : Hid ((vals l).length = Nat.min n n) := by unfold Hid; rw [vals_len, HL.out]; exact (Nat.min_self n).symm
    have F2 : Hid (0 < (vals l).length → (some ⟨w.heap.size, 0, none⟩ : Option Addr) = some ⟨w.heap.size, 0, none⟩ ∧ ∃ ad, (some ⟨b, off, none⟩ : Option Addr) = some ad ∧ ∀ j v, (vals l)[j]? = some v → w1.cell? (ad.add j) = some v) := by
      intro _
      refine ⟨rfl, _, rfl, fun j v hv => ?_⟩
      have hj : j < l.length := by have := (List.getElem?_eq_some_iff.1 hv).1; rwa [vals_len] at this
      have h1 := HC.out j hj
      have h2 := (hb.cell (p := ⟨b, off + j, none⟩) (cell_lt h1)).trans h1
      rw [Addr.add_lit, h2]
      simp [vals, hj] at hv
      rw [← hv]
      simp [hj]
    have F3 : Hid (0 + (vals l).length ≤ (vals (List.replicate n 0)).length) := by unfold Hid; rw [vals_len, vals_len, HL.out]; simp
    clear ho
    go_wp2_with (refine wpList_copy_splice rfl _ _ 22 22 rfl 5 (by kernel_rfl) (by kernel_rfl) (some ⟨w.heap.size, 0, none⟩) (some ⟨b, off, none⟩) n n n cap rfl rfl w.heap.size 0 (vals (List.replicate n 0)) 5 HO.out (vals l) F1.out F2.out F3.out (vals_one l) w.heap.size w hb (Nat.le_refl _) ?_; intro w5 hg5 hb6)
    have hg := hg5.out
    rw [splice_full _ _ (by rw [vals_len, vals_len, HL.out]; simp)] at hg
    go_ret
    exact ⟨⟨_, _, rfl, RowF.of_own (show Own w5 w.heap.size l from hg) (Nat.le_refl _)⟩, hb6⟩
/-- Misc in another format. -/
def tmN (c : CF) (f : Int) : Int := if c.fmt ≠ 2 ∧ f = 2 then (if c.nr = 0 then 0 else 1) else if c.fmt = 2 ∧ f ≠ 2 ∧ c.misc = 1 then 0 else c.misc
/-- A list of bytes that the call made. -/
def Tx (w : World) (base : Nat) (v : Value) (l : List Nat) : Prop := w.ownsRow base 5 1 v l.length (vals l)
theorem wpList_appN {ops : Array Oper} {rest : List Oper} {o : Oper} {a : Act} {Q : Exit → Act → World → Prop} (hgd : o.guard = none) (s x : Operand)
    (ho : o.op = .call { callee := .builtin .append, args := #[s, x], argTypes := #[22, 22] }) {l : List Nat} {v : Value} {W w0 : World} {base : Nat} (c : Nat) {cs : Array Value} (hown : Tx W base v l) (hb : Below base w0 W) (hbase : base ≤ W.heap.size)
    (hs : a.eval s = v) (hx : a.eval x = .slice (some ⟨W.heap.size, 0, none⟩) 1 1) (hcs : cs = #[.int .u8 (c : Int)]) (hlm : l.length ≤ 17592186044416)
    (h : ∀ v' w', Tx w' base v' (l ++ [c]) → Below base w0 w' → base ≤ w'.heap.size → wpList Tryd.prog ops Q rest (a.put o.dst v') w') : wpList Tryd.prog ops Q (o :: rest) a (W.alloc (.cells cs 5)) := by
  subst hcs
  obtain ⟨i0, hi, hz0, hz1, hz2⟩ := info_parts Tryd.infoU8
  refine wpList_append_own (W.alloc (.cells #[.int .u8 (c : Int)] 5)) hgd s x 22 ho base 5 i0 _ 1 1 (by kernel_rfl) hi hz0 hz1 hz2 rfl (by decide) v l.length (vals l) hs (World.ownsRow.alloc hown _) ⟨W.heap.size, 0, none⟩ 1 1 (vals [c]) hx rfl ?_ (vals_one _) (by unfold maxLen; omega) (by omega) (by simp; omega) ?_
  · intro j u hu
    have hj : j = 0 := by have := (List.getElem?_eq_some_iff.1 hu).1; simp [vals] at this; omega
    subst hj
    simp [vals] at hu
    subst hu
    simp [Addr.add]
  · intro v' w' h1 h2 _
    refine h v' w' ?_ ((hb.alloc hbase _).grown h2 (by simp; omega) (fun k hk => (World.ownsRow.lt hown k hk).1)) ?_
    · unfold Tx; rw [List.length_append, show vals (l ++ [c]) = vals l ++ vals [c] by simp [vals]]; exact h1
    · have := h2.size; simp at this; omega
set_option maxHeartbeats 400000 in
theorem turned_any (cs : Array Value) (c : CF) (C : IsC cs c) (f : Int) (w : World) :
    Calls Tryd.prog 36 #[.agg cs, .int .i64 f] w fun e w' => e = .returned (.int .i64 (tmN c f)) ∧ Below w.heap.size w w' := by
  have hsz := C.size
  go_enter Tryd.func36, Tryd.ntmps36
  go_upto_region 1 with fail
  have hb0 : Below w.heap.size w (w.alloc (.cells cs 25)) := (Below.refl _ _).alloc (Nat.le_refl _) _
  have b0 : Blk (w.alloc (.cells cs 25)) w.heap.size cs 25 := Blk.new w cs _
  generalize w.alloc (.cells cs 25) = W at *
  have d0 := (b0.cell 0).trans C.h0
  have d10 := (b0.cell 10).trans C.h10
  obtain ⟨a18, k18, e18⟩ := C.h18
  have d18 := (b0.cell 18).trans e18
  have mr := C.mr
  clear hsz
  by_cases h2 : c.fmt = 2
  · rw [h2] at d0
    by_cases f2 : f = 2
    · have H : Hid (tmN c f = c.misc) := by unfold Hid tmN; rw [if_neg (fun h => h.1 h2), if_neg (fun h => h.2.1 f2)]
      subst f2
      go_wp2
      go_ret
      exact ⟨by rw [H.out]; rfl, hb0⟩
    · have f2' : (f != 2) = true := by simpa using f2
      by_cases m1 : c.misc = 1
      · have H : Hid (tmN c f = 0) := by unfold Hid tmN; rw [if_neg (fun h => h.1 h2), if_pos ⟨h2, f2, m1⟩]
        rw [m1] at d10
        go_wp2
        go_ret
        exact ⟨by rw [H.out]; rfl, hb0⟩
      · have H : Hid (tmN c f = c.misc) := by unfold Hid tmN; rw [if_neg (fun h => h.1 h2), if_neg (fun h => m1 h.2.2)]
        have m1' : (c.misc == 1) = false := by rw [beq_eq_false_iff_ne]; exact m1
        go_wp2
        go_ret
        exact ⟨by rw [H.out]; rfl, hb0⟩
  · have h2' : (c.fmt != 2) = true := by simpa using h2
    have h2'' : (c.fmt == 2) = false := by rw [beq_eq_false_iff_ne]; exact h2
    by_cases f2 : f = 2
    · subst f2
      by_cases r0 : c.nr = 0
      · have H : Hid (tmN c 2 = 0) := by unfold Hid tmN; rw [if_pos ⟨h2, rfl⟩, if_pos r0]
        rw [r0] at d18
        go_wp2
        go_ret
        exact ⟨by rw [H.out]; rfl, hb0⟩
      · have H : Hid (tmN c 2 = 1) := by unfold Hid tmN; rw [if_pos ⟨h2, rfl⟩, if_neg r0]
        by_cases r1 : c.nr = 1
        · rw [r1] at d18
          go_wp2
          go_ret
          exact ⟨retN (by rw [H.out]), hb0⟩
        · have r2 : ¬ (c.nr : Int) ≤ 1 := by omega
          go_wp2
          go_ret
          exact ⟨retN (by rw [H.out]), hb0⟩
    · have f2' : (f == 2) = false := by rw [beq_eq_false_iff_ne]; exact f2
      have H : Hid (tmN c f = c.misc) := by unfold Hid tmN; rw [if_neg (fun h => f2 h.2), if_neg (fun h => h2 h.1)]
      go_wp2
      go_ret
      exact ⟨by rw [H.out]; rfl, hb0⟩
theorem Tx.rowF {w : World} {base : Nat} {v : Value} {l : List Nat} (h : Tx w base v l) : ∃ a k, v = .slice a l.length k ∧ RowF base w a l := by
  obtain ⟨a, k, e, hr⟩ := row_of l rfl h
  refine ⟨a, k, e, ?_⟩
  rcases hr with hr | ⟨b, off, ea, hc⟩
  · exact .inl hr
  · refine .inr ⟨b, off, ea, ?_, hc⟩
    exact (World.ownsRow.lt h b (by rw [e, ea]; rfl)).1
set_option maxRecDepth 100000 in
set_option maxHeartbeats 800000 in
theorem piece_any (n : Nat) (l : List Nat) (hn : l.length = n) (hlen : n ≤ 17592186044416) (a : Option Addr) (cap : Nat) (w : World) (hrow : Row w a l) :
    Calls Tryd.prog 30 #[.slice a n cap, .int .i64 0, .int .i64 n] w fun e w' => ListOk w.heap.size n l e w' ∧ Below w.heap.size w w' := by
  have HL : Hid (l.length = n) := hn
  have HR : Hid (Row w a l) := hrow
  clear hn hrow
  go_enter Tryd.func30, Tryd.ntmps30
  go_upto_region 3 with fail
  go_loopw [7, 8] (fun v x wr => ∃ i : Nat, i ≤ n ∧ x = .int .i64 i ∧ Tx wr w.heap.size v (l.take i) ∧ Below w.heap.size w wr ∧ w.heap.size ≤ wr.heap.size) (fun _ x _ => n - (intOf x).toNat)
  case atStart => exact ⟨0, by omega, rfl, ⟨rfl, .inl ⟨rfl, rfl⟩⟩, Below.refl _ _, Nat.le_refl _⟩
  case round =>
    obtain ⟨i, hi, rfl, hT, hb, hs⟩ := hrel
    by_cases h : i < n
    · rcases HR.out with e | ⟨b, off, rfl, hc⟩
      · have := HL.out; rw [e] at this; simp at this; omega
      have hc1 := hc i (by rw [HL.out]; exact h)
      have hcell := (hb.cell (p := ⟨b, off + i, none⟩) (cell_lt hc1)).trans hc1
      have HT : Hid (l.take (i + 1) = l.take i ++ [l.getD i 0]) := by
        unfold Hid
        have hh : i < l.length := by rw [HL.out]; exact h
        rw [List.take_add_one]; simp [hh]
      have HLi : Hid ((l.take i).length = i) := by unfold Hid; rw [List.length_take, HL.out]; omega
      clear hc hc1 HR
      have TT : Hid _ := hT
      clear hT
      generalize l.getD i 0 = y at *
      go_wp2_with (refine wpList_appN rfl _ _ rfl y TT.out hb hs rfl rfl rfl (by rw [HLi.out]; omega) ?_; intro v' w' hT' hb' hs')
      go_roundw
      case rel => exact ⟨i + 1, by omega, by go_num, by rw [HT.out]; exact hT', hb', hs'⟩
      case measure => simp [intOf]; omega
    · obtain rfl : i = n := by omega
      have e : l.take i = l := List.take_of_length_le (by rw [HL.out]; exact Nat.le_refl _)
      rw [e] at hT
      obtain ⟨a', k, rfl, hF⟩ := hT.rowF
      rw [HL.out]
      go_wp2
      go_ret
      exact ⟨⟨_, _, rfl, hF⟩, hb⟩
end Go.Proofs.YtpdbndkckioamaaDoor
