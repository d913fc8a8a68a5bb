/-
  Blocks of the law, append.
-/
import Derived.Test.YtpnalcbpdejpjaaXcEqM
import Derived.Test.YtpnalcbpdejpjaaXcLaw0
import Derived.Test.YtpnalcbpdejpjaaXcKeys
import Derived.BigQuiet
import Derived.Deep.QuietTactic
import Derived.Deep.DeepAppendRoom
import Derived.ArgAppend
set_option linter.unusedSimpArgs false
set_option linter.unusedVariables false
namespace Go.Proofs.Ytpnalcbpdejpjaa
open Go.RowKit Classical
/-- A micro-op. -/
structure Mi where
  kd : Int
  op : Int
  md : Int
  arg : Int
  fl : Int
  num : Int
  cyc : Int
def Mi.cells (q : Mi) : Array Value := #[.int .u8 q.kd, .int .i64 q.op, .int .i64 q.md, .int .u16 q.arg, .int .u8 q.fl, .int .i64 q.num, .int .i64 q.cyc]
def mflat (l : List Mi) : List Value := l.flatMap fun m => m.cells.toList
theorem mflat_one (l : List Mi) : ∀ u ∈ mflat l, u.oneCell' = true := fun u hu => by
  unfold mflat at hu
  obtain ⟨m, -, h⟩ := List.mem_flatMap.1 hu
  simp [Mi.cells] at h
  rcases h with rfl | rfl | rfl | rfl | rfl | rfl | rfl <;> rfl
/-- A list of micro-ops that can be read. -/
def RowM (w : World) (a : Option Addr) (n : Nat) (l : List Mi) : Prop := n = 0 ∨ ∃ b off, a = some ⟨b, off, none⟩ ∧ ∀ j, j < n * 7 → w.cell? ⟨b, off + j, none⟩ = (mflat l)[j]?
theorem RowM.of {w : World} {a : Option Addr} {n c : Nat} {l : List Mi} (h : Ls w a n c (mflat l)) : RowM w a n l := by
  by_cases h0 : n = 0
  · exact .inl h0
  · rcases h.2.2 with ⟨-, e, -⟩ | ⟨ad, e, h2⟩
    · exact absurd e h0
    · obtain ⟨b, off, spot⟩ := ad
      obtain ⟨u, hu⟩ : ∃ u, (mflat l)[0]? = some u := ⟨_, List.getElem?_eq_getElem (by rw [h.1]; omega)⟩
      have hspot : spot = none := by simpa [Addr.add] using World.cell?_spot (h2 0 u hu)
      subst hspot
      refine .inr ⟨b, off, e, fun j hj => ?_⟩
      obtain ⟨u, hu⟩ : ∃ u, (mflat l)[j]? = some u := ⟨_, List.getElem?_eq_getElem (by rw [h.1]; exact hj)⟩
      have := h2 j u hu
      rw [Addr.add_lit] at this
      rw [this, hu]
theorem mflat_len : ∀ l : List Mi, (mflat l).length = l.length * 7
  | [] => rfl
  | m :: l => by
    have e : mflat (m :: l) = m.cells.toList ++ mflat l := by simp [mflat]
    rw [e, List.length_append, mflat_len l, List.length_cons]
    show 7 + l.length * 7 = (l.length + 1) * 7
    omega
theorem mflat_app (l k : List Mi) : mflat (l ++ k) = mflat l ++ mflat k := by simp [mflat]
theorem mflat_at {l : List Mi} {j : Nat} {m : Mi} (h : l[j]? = some m) (t : Nat) (ht : t < 7) : (mflat l)[j * 7 + t]? = m.cells[t]? := by
  obtain ⟨hj, rfl⟩ := List.getElem?_eq_some_iff.1 h
  have e : l = l.take j ++ l[j] :: l.drop (j + 1) := by rw [List.getElem_cons_drop, List.take_append_drop]
  have e2 : mflat l = mflat (l.take j) ++ (l[j].cells.toList ++ mflat (l.drop (j + 1))) := by
    have e3 : mflat (l[j] :: l.drop (j + 1)) = l[j].cells.toList ++ mflat (l.drop (j + 1)) := by simp only [mflat, List.flatMap_cons]
    rw [← e3, ← mflat_app, ← e]
  rw [e2, List.getElem?_append_right (by rw [mflat_len, List.length_take]; omega), mflat_len, List.length_take, Nat.min_eq_left (by omega), Nat.add_sub_cancel_left, List.getElem?_append_left (by show t < 7; exact ht)]
  simp
set_option maxRecDepth 100000 in
set_option maxHeartbeats 4000000 in
/-- Two blocks that say the same, their lists wherever they lie. -/
theorem blocks_yes (pc tag : Int) (s : ByteArray) (ni lo hi : Int) (l : List Mi) (n c1 c2 : Nat) (a1 a2 : Option Addr) (w : World) (hn : l.length = n) (hn9 : n ≤ 2932031007317) (R1 : RowM w a1 n l) (R2 : RowM w a2 n l) :
    Calls Try.prog 18 #[.agg #[.int .u16 pc, .int .i64 tag, .string s, .int .i64 ni, .slice a1 n c1, .int .i64 lo, .int .i64 hi], .agg #[.int .u16 pc, .int .i64 tag, .string s, .int .i64 ni, .slice a2 n c2, .int .i64 lo, .int .i64 hi]] w fun e w' => e = .returned (.bool true) ∧ Below w.heap.size w w' := by
  have HR1 : Hid (RowM w a1 n l) := R1
  have HR2 : Hid (RowM w a2 n l) := R2
  have HN : Hid (l.length = n) := hn
  clear R1 R2 hn
  go_enter Try.func18, Try.ntmps18
  go_upto_region 1 with fail
  have hb0 : Below w.heap.size w ((w.alloc (.cells #[.int .u16 pc, .int .i64 tag, .string s, .int .i64 ni, .slice a1 n c1, .int .i64 lo, .int .i64 hi] 34)).alloc (.cells #[.int .u16 pc, .int .i64 tag, .string s, .int .i64 ni, .slice a2 n c2, .int .i64 lo, .int .i64 hi] 34)) := ((Below.refl _ _).alloc (Nat.le_refl _) _).alloc (by simp) _
  have P1 : Blk ((w.alloc (.cells #[.int .u16 pc, .int .i64 tag, .string s, .int .i64 ni, .slice a1 n c1, .int .i64 lo, .int .i64 hi] 34)).alloc (.cells #[.int .u16 pc, .int .i64 tag, .string s, .int .i64 ni, .slice a2 n c2, .int .i64 lo, .int .i64 hi] 34)) w.heap.size #[.int .u16 pc, .int .i64 tag, .string s, .int .i64 ni, .slice a1 n c1, .int .i64 lo, .int .i64 hi] 34 := (Blk.new w #[.int .u16 pc, .int .i64 tag, .string s, .int .i64 ni, .slice a1 n c1, .int .i64 lo, .int .i64 hi] 34).old _
  have P2 : Blk ((w.alloc (.cells #[.int .u16 pc, .int .i64 tag, .string s, .int .i64 ni, .slice a1 n c1, .int .i64 lo, .int .i64 hi] 34)).alloc (.cells #[.int .u16 pc, .int .i64 tag, .string s, .int .i64 ni, .slice a2 n c2, .int .i64 lo, .int .i64 hi] 34)) (w.heap.size + 1) #[.int .u16 pc, .int .i64 tag, .string s, .int .i64 ni, .slice a2 n c2, .int .i64 lo, .int .i64 hi] 34 := by
    have := Blk.new (w.alloc (.cells #[.int .u16 pc, .int .i64 tag, .string s, .int .i64 ni, .slice a1 n c1, .int .i64 lo, .int .i64 hi] 34)) #[.int .u16 pc, .int .i64 tag, .string s, .int .i64 ni, .slice a2 n c2, .int .i64 lo, .int .i64 hi] 34
    simpa using this
  generalize (w.alloc (.cells #[.int .u16 pc, .int .i64 tag, .string s, .int .i64 ni, .slice a1 n c1, .int .i64 lo, .int .i64 hi] 34)).alloc (.cells #[.int .u16 pc, .int .i64 tag, .string s, .int .i64 ni, .slice a2 n c2, .int .i64 lo, .int .i64 hi] 34) = W at *
  have x0 := P1.cell 0; have x1 := P1.cell 1; have x2 := P1.cell 2; have x3 := P1.cell 3; have x4 := P1.cell 4; have x5 := P1.cell 5; have x6 := P1.cell 6
  have y0 := P2.cell 0; have y1 := P2.cell 1; have y2 := P2.cell 2; have y3 := P2.cell 3; have y4 := P2.cell 4; have y5 := P2.cell 5; have y6 := P2.cell 6
  simp at x0 x1 x2 x3 x4 x5 x6 y0 y1 y2 y3 y4 y5 y6
  clear P1 P2
  go_upto_region 4 with fail
  clear x0 x1 x2 x3 x5 x6 y0 y1 y2 y3 y5 y6
  go_loopw [5] (fun i wr => ∃ m : Nat, m ≤ n ∧ i = .int .i64 (m : Nat) ∧ Below W.heap.size W wr) (fun i _ => n - (intOf i).toNat)
  case atStart => exact ⟨0, Nat.zero_le _, rfl, Below.refl _ _⟩
  case round =>
    obtain ⟨m, hm, rfl, hb⟩ := hrel
    have x4' := (hb.cell (p := ⟨w.heap.size, 4, none⟩) (cell_lt x4)).trans x4
    have y4' := (hb.cell (p := ⟨w.heap.size + 1, 4, none⟩) (cell_lt y4)).trans y4
    have X4 : Hid (W.cell? ⟨w.heap.size, 4, none⟩ = some (.slice a1 n c1) ∧ W.cell? ⟨w.heap.size + 1, 4, none⟩ = some (.slice a2 n c2)) := ⟨x4, y4⟩
    clear x4 y4
    by_cases hlt : m < n
    · obtain ⟨g1, o1, rfl, r1⟩ := HR1.out.resolve_left (by omega)
      obtain ⟨g2, o2, rfl, r2⟩ := HR2.out.resolve_left (by omega)
      have hbw : Below w.heap.size w wr := hb0.trans (hb.mono hb0.size)
      have hml : m < l.length := by rw [HN.out]; exact hlt
      obtain ⟨q, hq⟩ : ∃ q, l[m]? = some q := ⟨_, List.getElem?_eq_getElem hml⟩
      have e1 : ∀ t, t < 7 → wr.cell? ⟨g1, o1 + (m * 7 + t), none⟩ = q.cells[t]? := fun t ht => by
        have h9 := r1 (m * 7 + t) (by omega)
        rw [mflat_at hq t ht] at h9
        obtain ⟨u, hu⟩ : ∃ u, q.cells[t]? = some u := ⟨_, Array.getElem?_eq_getElem (by show t < 7; exact ht)⟩
        rw [hu] at h9 ⊢
        exact (hbw.cell (p := ⟨g1, o1 + (m * 7 + t), none⟩) (cell_lt h9)).trans h9
      have e2 : ∀ t, t < 7 → wr.cell? ⟨g2, o2 + (m * 7 + t), none⟩ = q.cells[t]? := fun t ht => by
        have h9 := r2 (m * 7 + t) (by omega)
        rw [mflat_at hq t ht] at h9
        obtain ⟨u, hu⟩ : ∃ u, q.cells[t]? = some u := ⟨_, Array.getElem?_eq_getElem (by show t < 7; exact ht)⟩
        rw [hu] at h9 ⊢
        exact (hbw.cell (p := ⟨g2, o2 + (m * 7 + t), none⟩) (cell_lt h9)).trans h9
      have qN : ∀ W : World, (binOp .neq 54 (.agg #[.int .u8 q.kd, .int .i64 q.op, .int .i64 q.md, .int .u16 q.arg, .int .u8 q.fl, .int .i64 q.num, .int .i64 q.cyc]) (.agg #[.int .u8 q.kd, .int .i64 q.op, .int .i64 q.md, .int .u16 q.arg, .int .u8 q.fl, .int .i64 q.num, .int .i64 q.cyc])).run Try.prog W = .ok (.bool false) W := fun W => neqMic W _ _ _ _ _ _ _
      have e1x0 : wr.cell? ⟨g1, o1 + m * 7, none⟩ = some (.int .u8 q.kd) := by have h9 := e1 0 (by decide); first | (rw [← Nat.add_assoc] at h9; exact h9) | exact h9
      have e1x1 : wr.cell? ⟨g1, o1 + m * 7 + 1, none⟩ = some (.int .i64 q.op) := by have h9 := e1 1 (by decide); first | (rw [← Nat.add_assoc] at h9; exact h9) | exact h9
      have e1x2 : wr.cell? ⟨g1, o1 + m * 7 + 2, none⟩ = some (.int .i64 q.md) := by have h9 := e1 2 (by decide); first | (rw [← Nat.add_assoc] at h9; exact h9) | exact h9
      have e1x3 : wr.cell? ⟨g1, o1 + m * 7 + 3, none⟩ = some (.int .u16 q.arg) := by have h9 := e1 3 (by decide); first | (rw [← Nat.add_assoc] at h9; exact h9) | exact h9
      have e1x4 : wr.cell? ⟨g1, o1 + m * 7 + 4, none⟩ = some (.int .u8 q.fl) := by have h9 := e1 4 (by decide); first | (rw [← Nat.add_assoc] at h9; exact h9) | exact h9
      have e1x5 : wr.cell? ⟨g1, o1 + m * 7 + 5, none⟩ = some (.int .i64 q.num) := by have h9 := e1 5 (by decide); first | (rw [← Nat.add_assoc] at h9; exact h9) | exact h9
      have e1x6 : wr.cell? ⟨g1, o1 + m * 7 + 6, none⟩ = some (.int .i64 q.cyc) := by have h9 := e1 6 (by decide); first | (rw [← Nat.add_assoc] at h9; exact h9) | exact h9
      have e2x0 : wr.cell? ⟨g2, o2 + m * 7, none⟩ = some (.int .u8 q.kd) := by have h9 := e2 0 (by decide); first | (rw [← Nat.add_assoc] at h9; exact h9) | exact h9
      have e2x1 : wr.cell? ⟨g2, o2 + m * 7 + 1, none⟩ = some (.int .i64 q.op) := by have h9 := e2 1 (by decide); first | (rw [← Nat.add_assoc] at h9; exact h9) | exact h9
      have e2x2 : wr.cell? ⟨g2, o2 + m * 7 + 2, none⟩ = some (.int .i64 q.md) := by have h9 := e2 2 (by decide); first | (rw [← Nat.add_assoc] at h9; exact h9) | exact h9
      have e2x3 : wr.cell? ⟨g2, o2 + m * 7 + 3, none⟩ = some (.int .u16 q.arg) := by have h9 := e2 3 (by decide); first | (rw [← Nat.add_assoc] at h9; exact h9) | exact h9
      have e2x4 : wr.cell? ⟨g2, o2 + m * 7 + 4, none⟩ = some (.int .u8 q.fl) := by have h9 := e2 4 (by decide); first | (rw [← Nat.add_assoc] at h9; exact h9) | exact h9
      have e2x5 : wr.cell? ⟨g2, o2 + m * 7 + 5, none⟩ = some (.int .i64 q.num) := by have h9 := e2 5 (by decide); first | (rw [← Nat.add_assoc] at h9; exact h9) | exact h9
      have e2x6 : wr.cell? ⟨g2, o2 + m * 7 + 6, none⟩ = some (.int .i64 q.cyc) := by have h9 := e2 6 (by decide); first | (rw [← Nat.add_assoc] at h9; exact h9) | exact h9
      obtain ⟨kd, op, md, arg, fl, num, cyc⟩ := q
      clear e1 e2 hq hml hbw
      have hlti : (m : Int) < (n : Int) := by omega
      go_upto_region 6 with fail
      go_quiet (fail)
      go_wp2
      go_roundw
      case rel => first | exact ⟨m + 1, by omega, by go_num, below_drawsX hb _⟩ | ((repeat apply Exists.intro); refine ⟨?_, rfl⟩; exact ⟨m + 1, by omega, by go_num, below_drawsX hb _⟩)
      case measure => simp [intOf]; omega
    · obtain rfl : m = n := by omega
      go_wp2
      go_ret
      exact ⟨rfl, hb0.trans (hb.mono hb0.size)⟩
/-- append of one micro-op that lies in a block just made; the list that was stays, and what else lies in memory. -/
theorem wpList_appMicO {ops : Array Oper} {rest : List Oper} {o : Oper} {a : Act} {Q : Exit → Act → World → Prop} (hgd : o.guard = none) (s x : Operand)
    (ho : o.op = .call { callee := .builtin .append, args := #[s, x], argTypes := #[32, 32] }) {cells : List Value} {n : Nat} {v : Value} {W : World} {base : Nat} {cs : Array Value} (hown : W.ownsRow base 54 7 v n cells) (hbase : base ≤ W.heap.size)
    (hs : a.eval s = v) (hx : a.eval x = .slice (some ⟨W.heap.size, 0, none⟩) 1 1) (hcs : cs.size = 7) (h1 : ∀ u ∈ cs.toList, u.oneCell' = true) (hlm : n ≤ 2932031007317)
    (h : ∀ v' w', w'.ownsRow base 54 7 v' (n + 1) (cells ++ cs.toList) → w'.ownsRow base 54 7 v n cells → (∀ k, k < W.heap.size → v.ownBlock ≠ some k → w'.heap[k]? = W.heap[k]?) → Below base W w' → wpList Try.prog ops Q rest (a.put o.dst v') w') : wpList Try.prog ops Q (o :: rest) a (W.alloc (.cells cs 54)) := by
  obtain ⟨i0, hi, hz0, hz1, hz2⟩ := info_parts Try.infoMi
  have hB : Blk (W.alloc (.cells cs 54)) W.heap.size cs 54 := Blk.new W _ _
  have hN : ∀ j u, cs.toList[j]? = some u → (W.alloc (.cells cs 54)).cell? ((⟨W.heap.size, 0, none⟩ : Addr).add j) = some u := by
    intro j u hu
    have := hB.cell j
    rw [← Array.getElem?_toList, hu] at this
    by_cases hj : j = 0
    · subst hj; simpa [Addr.add] using this
    · simpa [Addr.add, hj] using this
  have hcl := hown.1
  have ha1 : Below base W (W.alloc (.cells cs 54)) := (Below.refl _ _).alloc hbase _
  obtain ⟨ad, c, rfl, hform⟩ := orow_form hown
  by_cases hroom : n + 1 ≤ c
  · cases ad with
    | none => have := (orow_none hown).2; omega
    | some ad =>
      obtain ⟨g, rfl⟩ := orow_where hown
      refine wpList_append_own_spare (W.alloc (.cells cs 54)) hgd s x 32 ho base 54 i0 7 (by kernel_rfl) hi hz1 g n c cells hs (World.ownsRow.alloc hown _) ⟨W.heap.size, 0, none⟩ 1 1 cs.toList hx (by rw [Array.length_toList, hcs]) hN h1 hroom ?_
      intro w' r1 r2
      refine h _ w' r1 (orow_prefix r1 hcl) (fun k hk hne => (r2.block k (by simp; omega) (fun e => hne e.symm)).trans (Below.heap_alloc W _ k hk)) (ha1.grown r2 (by simp; omega) (fun k hk => ?_))
      cases hk; exact (orow_base hown).1
  · refine wpList_append_grows (W.alloc (.cells cs 54)) hgd s x 32 ho 54 i0 _ 7 48 (by kernel_rfl) hi hz0 hz1 hz2 rfl (by decide) ad n c cells hs (fun e => by subst e; exact orow_none hown) hcl (fun b hb j u hu => ?_) ⟨W.heap.size, 0, none⟩ 1 1 cs.toList hx (by rw [Array.length_toList, hcs]) hN h1 (by omega) (by unfold maxLen; omega) (by omega) ?_
    · subst hb
      obtain ⟨g, rfl⟩ := orow_where hown
      have hj : j < n * 7 := by have := (List.getElem?_eq_some_iff.1 hu).1; omega
      have := orow_cell (World.ownsRow.alloc hown (.cells cs 54)) j hj
      rw [hu] at this
      rw [Addr.add_lit, Nat.zero_add]; exact this
    · intro v' w' r1 r2
      have hb2 : Below (W.alloc (.cells cs 54)).heap.size (W.alloc (.cells cs 54)) w' := (Below.refl _ _).grown r2 (Nat.le_refl _) (fun k hk => by cases hk)
      exact h v' w' (orow_lower r1 (by simp; omega)) (orow_keep (World.ownsRow.alloc hown _) hb2) (fun k hk _ => (r2.block k (by simp; omega) (by simp)).trans (Below.heap_alloc W _ k hk)) (ha1.trans (hb2.mono (by simp; omega)))
/-- append of one micro-op that lies in a block just made; the list that was stays, and what else lies in memory. -/
theorem wpList_appKeyO {ops : Array Oper} {rest : List Oper} {o : Oper} {a : Act} {Q : Exit → Act → World → Prop} (hgd : o.guard = none) (s x : Operand)
    (ho : o.op = .call { callee := .builtin .append, args := #[s, x], argTypes := #[41, 41] }) {cells : List Value} {n : Nat} {v : Value} {W : World} {base : Nat} {cs : Array Value} (hown : W.ownsRow base 24 2 v n cells) (hbase : base ≤ W.heap.size)
    (hs : a.eval s = v) (hx : a.eval x = .slice (some ⟨W.heap.size, 0, none⟩) 1 1) (hcs : cs.size = 2) (h1 : ∀ u ∈ cs.toList, u.oneCell' = true) (hlm : n ≤ 2932031007317)
    (h : ∀ v' w', w'.ownsRow base 24 2 v' (n + 1) (cells ++ cs.toList) → w'.ownsRow base 24 2 v n cells → (∀ k, k < W.heap.size → v.ownBlock ≠ some k → w'.heap[k]? = W.heap[k]?) → Below base W w' → wpList Try.prog ops Q rest (a.put o.dst v') w') : wpList Try.prog ops Q (o :: rest) a (W.alloc (.cells cs 24)) := by
  obtain ⟨i0, hi, hz0, hz1, hz2⟩ := info_parts Try.infoKey
  have hB : Blk (W.alloc (.cells cs 24)) W.heap.size cs 24 := Blk.new W _ _
  have hN : ∀ j u, cs.toList[j]? = some u → (W.alloc (.cells cs 24)).cell? ((⟨W.heap.size, 0, none⟩ : Addr).add j) = some u := by
    intro j u hu
    have := hB.cell j
    rw [← Array.getElem?_toList, hu] at this
    by_cases hj : j = 0
    · subst hj; simpa [Addr.add] using this
    · simpa [Addr.add, hj] using this
  have hcl := hown.1
  have ha1 : Below base W (W.alloc (.cells cs 24)) := (Below.refl _ _).alloc hbase _
  obtain ⟨ad, c, rfl, hform⟩ := orow_form hown
  by_cases hroom : n + 1 ≤ c
  · cases ad with
    | none => have := (orow_none hown).2; omega
    | some ad =>
      obtain ⟨g, rfl⟩ := orow_where hown
      refine wpList_append_own_spare (W.alloc (.cells cs 24)) hgd s x 41 ho base 24 i0 2 (by kernel_rfl) hi hz1 g n c cells hs (World.ownsRow.alloc hown _) ⟨W.heap.size, 0, none⟩ 1 1 cs.toList hx (by rw [Array.length_toList, hcs]) hN h1 hroom ?_
      intro w' r1 r2
      refine h _ w' r1 (orow_prefix r1 hcl) (fun k hk hne => (r2.block k (by simp; omega) (fun e => hne e.symm)).trans (Below.heap_alloc W _ k hk)) (ha1.grown r2 (by simp; omega) (fun k hk => ?_))
      cases hk; exact (orow_base hown).1
  · refine wpList_append_grows (W.alloc (.cells cs 24)) hgd s x 41 ho 24 i0 _ 2 16 (by kernel_rfl) hi hz0 hz1 hz2 rfl (by decide) ad n c cells hs (fun e => by subst e; exact orow_none hown) hcl (fun b hb j u hu => ?_) ⟨W.heap.size, 0, none⟩ 1 1 cs.toList hx (by rw [Array.length_toList, hcs]) hN h1 (by omega) (by unfold maxLen; omega) (by omega) ?_
    · subst hb
      obtain ⟨g, rfl⟩ := orow_where hown
      have hj : j < n * 2 := by have := (List.getElem?_eq_some_iff.1 hu).1; omega
      have := orow_cell (World.ownsRow.alloc hown (.cells cs 24)) j hj
      rw [hu] at this
      rw [Addr.add_lit, Nat.zero_add]; exact this
    · intro v' w' r1 r2
      have hb2 : Below (W.alloc (.cells cs 24)).heap.size (W.alloc (.cells cs 24)) w' := (Below.refl _ _).grown r2 (Nat.le_refl _) (fun k hk => by cases hk)
      exact h v' w' (orow_lower r1 (by simp; omega)) (orow_keep (World.ownsRow.alloc hown _) hb2) (fun k hk _ => (r2.block k (by simp; omega) (by simp)).trans (Below.heap_alloc W _ k hk)) (ha1.trans (hb2.mono (by simp; omega)))
end Go.Proofs.Ytpnalcbpdejpjaa
