/-
  Turns in memory of the call's own; the contract of copied; conditions: the list is in memory and not too long.
-/
import Derived.Test.YtkebkbiabdlomaaDoorXTB
import Derived.OwnWalk
import Derived.Laws.AppendOwn
set_option linter.unusedSimpArgs false
set_option linter.unusedVariables false
namespace Go.Proofs.YtkebkbiabdlomaaDoor
open Go.RowKit Classical
/-- The cells of the first n of a list. -/
def tcells (q : Nat → TuE) : Nat → List Value
  | 0 => []
  | k + 1 => tcells q k ++ (q k).cells.toList
theorem tcells_len (q : Nat → TuE) : ∀ n, (tcells q n).length = n * 5
  | 0 => rfl
  | n + 1 => by rw [tcells, List.length_append, tcells_len q n]; simp [TuE.cells]; omega
theorem tcells_congr {q r : Nat → TuE} : ∀ n, (∀ i, i < n → q i = r i) → tcells q n = tcells r n
  | 0, _ => rfl
  | n + 1, h => by rw [tcells, tcells, tcells_congr n (fun i hi => h i (by omega)), h n (by omega)]
theorem tcells_at {q : Nat → TuE} {i j : Nat} {v : Value} : ∀ n, i < n → (q i).cells.toList[j]? = some v → (tcells q n)[i * 5 + j]? = some v
  | 0, h, _ => absurd h (by omega)
  | n + 1, h, hv => by
    have hj : j < 5 := by have := (List.getElem?_eq_some_iff.1 hv).1; simpa [TuE.cells] using this
    rw [tcells]
    by_cases hi : i < n
    · rw [List.getElem?_append_left (by rw [tcells_len]; omega)]
      exact tcells_at n hi hv
    · obtain rfl : i = n := by omega
      rw [List.getElem?_append_right (by rw [tcells_len]; omega), tcells_len, show i * 5 + j - i * 5 = j by omega]
      exact hv
theorem TuE.cells_ones (t : TuE) : ∀ v ∈ t.cells.toList, v.oneCell' = true := by
  intro v hv
  simp [TuE.cells] at hv
  rcases hv with rfl | rfl | rfl | rfl | rfl <;> rfl
theorem tcells_one (q : Nat → TuE) : ∀ n, ∀ v ∈ tcells q n, v.oneCell' = true
  | 0 => by simp [tcells]
  | n + 1 => by
    intro v hv
    rcases List.mem_append.1 hv with h | h
    · exact tcells_one q n v h
    · exact TuE.cells_ones _ v h
/-- The value v is a list of n turns, in memory from block base on. -/
def Tus (w : World) (base : Nat) (v : Value) (q : Nat → TuE) (n : Nat) : Prop := w.ownsRow base 25 5 v n (tcells q n)
theorem Tryd.infoTurn : (Tryd.prog.info? 25).map (fun i => (i.zero, i.size, i.bytes)) = some (some (.agg #[.int .u32 0, .int .u8 0, .int .u8 0, .bool false, .bool false]), 5, 8) := by kernel_rfl
theorem Tus.keep {w w' : World} {base : Nat} {v : Value} {q : Nat → TuE} {n : Nat} (h : Tus w base v q n) (hb : Below w.heap.size w w') : Tus w' base v q n := by
  obtain ⟨h1, h2⟩ := h
  refine ⟨h1, ?_⟩
  rcases h2 with h | ⟨g, cap, cur, e, hb', hh, hr⟩
  · exact .inl h
  · exact .inr ⟨g, cap, cur, e, hb', (hb.block g (Array.getElem?_eq_some_iff.1 hh).1).trans hh, hr⟩
theorem Tus.tu {w : World} {base : Nat} {v : Value} {q : Nat → TuE} {n : Nat} (h : Tus w base v q n) (hok : ∀ i, i < n → (q i).Ok) :
    ∃ a b cap, v = .slice a n cap ∧ n ≤ cap ∧ Tu w a n q b 0 ∧ (0 < n → base ≤ b ∧ ∀ j, w.frozen? ⟨b, j, none⟩ = false) := by
  obtain ⟨h1, h2⟩ := h
  rcases h2 with ⟨e, h⟩ | ⟨g, cap, cur, e, hb', hh, h3, h4, h5, h6⟩
  · subst h
    exact ⟨none, 0, 0, e, Nat.le_refl _, ⟨fun h => absurd h (by omega), fun i h => absurd h (by omega), fun i h => absurd h (by omega)⟩, fun h => absurd h (by omega)⟩
  · refine ⟨some ⟨g, 0, none⟩, g, cap, e, h3, ⟨fun _ => ⟨rfl, (Array.getElem?_eq_some_iff.1 hh).1⟩, fun i hi j x hx => ?_, hok⟩, fun _ => ⟨hb', fun j => frozen_of_row w g j cur _ hh⟩⟩
    have hj : j < 5 := by have := (List.getElem?_eq_some_iff.1 hx).1; simpa [TuE.cells] using this
    rw [cell_of_row w g _ cur _ (0, 0) hh, Nat.zero_add]
    have := tcells_at n hi hx
    rw [← h6, List.getElem?_take, if_pos (by omega)] at this
    rw [← Array.getElem?_toList, this]
/-- append, of turns that lie in a block just made. -/
theorem wpList_appT {ops : Array Oper} {rest : List Oper} {o : Oper} {a : Act} {Q : Exit → Act → World → Prop} (hgd : o.guard = none) (s x : Operand)
    (ho : o.op = .call { callee := .builtin .append, args := #[s, x], argTypes := #[22, 22] }) {q q' r : Nat → TuE} {n m : Nat} {v : Value} {W w0 : World} {base : Nat} {cs : Array Value} (hown : Tus W base v q n) (hb : Below base w0 W) (hbase : base ≤ W.heap.size)
    (hs : a.eval s = v) (hx : a.eval x = .slice (some ⟨W.heap.size, 0, none⟩) m m) (hcs : cs.toList = tcells r m) (hq : tcells q' (n + m) = tcells q n ++ tcells r m) (hlm : n + m ≤ 17592186044416)
    (h : ∀ v' w', Tus w' base v' q' (n + m) → Below base w0 w' → base ≤ w'.heap.size → wpList Tryd.prog ops Q rest (a.put o.dst v') w') : wpList Tryd.prog ops Q (o :: rest) a (W.alloc (.cells cs 25)) := by
  obtain ⟨i0, hi, hz0, hz1, hz2⟩ := info_parts Tryd.infoTurn
  have hB : Blk (W.alloc (.cells cs 25)) W.heap.size cs 25 := Blk.new W _ _
  refine wpList_append_own (W.alloc (.cells cs 25)) hgd s x 22 ho base 25 i0 _ 5 8 (by kernel_rfl) hi hz0 hz1 hz2 rfl (by decide) v n (tcells q n) hs (World.ownsRow.alloc hown _) ⟨W.heap.size, 0, none⟩ m m (tcells r m) hx (tcells_len r m) ?_ (tcells_one r m) (by unfold maxLen; omega) (by omega) (by simp; omega) ?_
  · intro j u hu
    have := hB.cell j
    rw [← Array.getElem?_toList, hcs, hu] at this
    by_cases hj : j = 0
    · subst hj; simpa [Addr.add] using this
    · simpa [Addr.add, hj] using this
  · intro v' w' h1 h2 _
    have hb' : Below base w0 w' := (hb.alloc hbase _).grown h2 (by simp; omega) (fun k hk => by
      rcases hown.2 with ⟨h, _⟩ | ⟨g, cap, cur, e, hg, _⟩
      · rw [h] at hk; cases hk
      · rw [e] at hk; cases hk; exact hg)
    refine h v' w' ?_ hb' ?_
    · unfold Tus; rw [hq]; exact h1
    · have := h2.size; simp at this; omega
set_option maxRecDepth 100000 in
set_option maxHeartbeats 1000000 in
theorem copied_any (w : World) (a : Option Addr) (len cap : Nat) (q : Nat → TuE) (b o : Nat) (hlen : len ≤ 17592186044415) (T : Tu w a len q b o) :
    Calls Tryd.prog 6 #[.slice a len cap] w fun e w' => ∃ v, Tus w' w.heap.size v q len ∧ e = .returned v ∧ Below w.heap.size w w' := by
  go_enter Tryd.func6, Tryd.ntmps6
  go_upto_region 3 with fail
  go_loopw [3, 4] (fun x i wr => ∃ k : Nat, k ≤ len ∧ i = .int .i64 k ∧ Tus wr w.heap.size x q k ∧ Below w.heap.size w wr) (fun _ i _ => len - (intOf i).toNat)
  case atStart => exact ⟨0, by omega, rfl, World.ownsRow_nil _ _ _ _, Below.refl _ _⟩
  case round =>
    obtain ⟨k, hk, rfl, hu, hb⟩ := hrel
    by_cases hlt : k < len
    · obtain ⟨rfl, hb1⟩ := T.at_ (by omega)
      obtain ⟨t, et⟩ : ∃ t, q k = t := ⟨_, rfl⟩
      have R : Hid (wr.rangeAt b (o + k * 5) [.int .u32 t.bu, .int .u8 t.one, .int .u8 t.two, .bool t.fl, .bool t.rs]) := fun j v hv => (hb.cell (p := ⟨b, o + k * 5 + j, none⟩) hb1).trans (T.cells k hlt j v (by rw [et]; exact hv))
      have EQ : Hid (tcells q (k + 1) = tcells q k ++ tcells (fun _ => t) 1) := by unfold Hid; rw [← et]; rfl
      have H1 : Hid (Tu _ _ _ _ _ _) := T
      have HU : Hid (Tus _ _ _ _ _) := hu
      clear T et hu
      have hk9 : (k : Int) + 1 ≤ 9223372036854775807 := by omega
      go_wp2_with (first
        | (refine wpList_load_mid rfl 25 _ rfl b (o + k * 5) rfl [.int .u32 t.bu, .int .u8 t.one, .int .u8 t.two, .bool t.fl, .bool t.rs] _ R.out Tryd.underlying25 rfl (by kernel_rfl) ?_)
        | (at_builtin; refine wpList_appT rfl _ _ rfl HU.out hb hb.size rfl rfl (r := fun _ => t) (m := 1) rfl EQ.out (by omega) ?_; intro v' Wx hux hbx hsx; clear R HU hb; have hb := hbx; clear hbx))
      go_roundw
      case rel => exact ⟨k + 1, by omega, by go_num, hux, hb⟩
      case measure => simp [intOf]; omega
    · obtain rfl : k = len := by omega
      go_wp2
      go_ret
      exact ⟨_, hu, rfl, hb⟩
end Go.Proofs.YtkebkbiabdlomaaDoor
