/-
  The entries of a cache: plain.
-/
import Derived.Test.YtpnalcbpdejpjaaXcMarks
set_option linter.unusedSimpArgs false
set_option linter.unusedVariables false
namespace Go.Proofs.Ytpnalcbpdejpjaa
open Go.RowKit Classical
/-- What a slot of a cache holds. -/
structure En where
  slot : Nat
  pc : Int
  tag : Int
  s : ByteArray
  ni : Int
  oa : Option Addr
  on : Nat
  oc : Nat
  lo : Int
  hi : Int
  f : Int
  sz : Int
def En.key (e : En) : Array Value := #[.int .u16 e.pc, .int .i64 e.tag]
def En.held (e : En) : Array Value := #[.int .u16 e.pc, .int .i64 e.tag, .string e.s, .int .i64 e.ni, .slice e.oa e.on e.oc, .int .i64 e.lo, .int .i64 e.hi, .int .i64 e.f, .int .i64 e.sz]
def En.cells (e : En) : Array Value := #[.int .i64 (e.slot : Nat), .int .u16 e.pc, .int .i64 e.tag, .int .u16 e.pc, .int .i64 e.tag, .string e.s, .int .i64 e.ni, .slice e.oa e.on e.oc, .int .i64 e.lo, .int .i64 e.hi, .int .i64 e.f, .int .i64 e.sz]
def eflat (l : List En) : List Value := l.flatMap fun e => e.cells.toList
theorem eflat_app (l k : List En) : eflat (l ++ k) = eflat l ++ eflat k := by simp [eflat]
theorem eflat_cons (e : En) (l : List En) : eflat (e :: l) = e.cells.toList ++ eflat l := by simp [eflat]
theorem eflat_len : ∀ l : List En, (eflat l).length = l.length * 12
  | [] => rfl
  | m :: l => by
    rw [eflat_cons, List.length_append, eflat_len l, List.length_cons]
    show 12 + l.length * 12 = (l.length + 1) * 12
    omega
theorem eflat_split {l : List En} {j : Nat} {m : En} (h : l[j]? = some m) : eflat l = eflat (l.take j) ++ (m.cells.toList ++ eflat (l.drop (j + 1))) := by
  obtain ⟨hj, rfl⟩ := List.getElem?_eq_some_iff.1 h
  have e : l = l.take j ++ l[j] :: l.drop (j + 1) := by rw [List.getElem_cons_drop, List.take_append_drop]
  rw [← eflat_cons, ← eflat_app, ← e]
theorem eflat_at {l : List En} {j : Nat} {m : En} (h : l[j]? = some m) (t : Nat) (ht : t < 12) : (eflat l)[j * 12 + t]? = m.cells[t]? := by
  obtain ⟨hj, -⟩ := List.getElem?_eq_some_iff.1 h
  rw [eflat_split h, List.getElem?_append_right (by rw [eflat_len, List.length_take]; omega), eflat_len, List.length_take, Nat.min_eq_left (by omega), Nat.add_sub_cancel_left, List.getElem?_append_left (by show t < 12; exact ht)]
  simp
/-- Cells laid over others. -/
def setL (l : List Value) (o : Nat) : List Value → List Value
  | [] => l
  | v :: vs => setL (l.set o v) (o + 1) vs
theorem setL_app : ∀ (vs a b c : List Value), b.length = vs.length → setL (a ++ (b ++ c)) a.length vs = a ++ (vs ++ c)
  | [], a, b, c, h => by
    have : b = [] := List.eq_nil_of_length_eq_zero h
    subst this; rfl
  | v :: vs, a, [], c, h => by simp at h
  | v :: vs, a, x :: b, c, h => by
    rw [setL, List.set_append_right _ _ (Nat.le_refl _), Nat.sub_self]
    have e : a ++ ((x :: b) ++ c).set 0 v = (a ++ [v]) ++ (b ++ c) := by simp
    have := setL_app vs (a ++ [v]) b c (by simpa using h)
    rw [List.length_append] at this
    rw [e]
    rw [show a.length + 1 = a.length + [v].length from rfl, this]
    simp
theorem eflat_set {l : List En} {j : Nat} {m : En} (h : l[j]? = some m) (x : En) : setL (eflat l) (j * 12) x.cells.toList = eflat (l.set j x) := by
  obtain ⟨hj, -⟩ := List.getElem?_eq_some_iff.1 h
  have hl : (eflat (l.take j)).length = j * 12 := by rw [eflat_len, List.length_take, Nat.min_eq_left (by omega)]
  have e4 : l.set j x = l.take j ++ x :: l.drop (j + 1) := List.set_eq_take_append_cons_drop ▸ (by rw [if_pos hj])
  rw [eflat_split h, e4, eflat_app, eflat_cons, ← hl]
  exact setL_app _ _ _ _ (by rfl)
theorem orow_setCells {base s n g cap : Nat} {T : TypeId} : ∀ (vs : List Value) (o : Nat) (w : World) (cells : List Value), w.ownsRow base T s (.slice (some ⟨g, 0, none⟩) n cap) n cells → o + vs.length ≤ n * s → (w.setCells g o vs).ownsRow base T s (.slice (some ⟨g, 0, none⟩) n cap) n (setL cells o vs)
  | [], _, _, _, h, _ => h
  | v :: vs, o, w, cells, h, hl => by
    rw [List.length_cons] at hl
    exact orow_setCells vs (o + 1) _ _ (orow_set h o (by omega) v) (by omega)
theorem ints_set (A : List Nat) (i v : Nat) : (ints A).set i (.int .i64 ((v : Nat) : Int)) = ints (A.set i v) := by
  unfold ints; rw [List.map_set]
/-- Which slot has which entry. -/
structure Cv (N : Nat) (A : List Nat) (es : List En) : Prop where
  len : A.length = N
  e : ∀ (i : Nat) (x : En), es[i]? = some x → x.slot < N ∧ A[x.slot]? = some (i + 1)
  a : ∀ (s v : Nat), A[s]? = some v → v = 0 ∨ ∃ x : En, es[v - 1]? = some x ∧ x.slot = s ∧ 1 ≤ v
theorem Cv.none (N : Nat) : Cv N (List.replicate N 0) [] := ⟨by simp, fun i x h => by simp at h, fun s v h => .inl (by
  have := List.mem_of_getElem? h
  exact List.eq_of_mem_replicate this)⟩
theorem Cv.take {N : Nat} {A : List Nat} {es : List En} (h : Cv N A es) {s i : Nat} (hs : A[s]? = some (i + 1)) :
    ∃ x l, es[i]? = some x ∧ x.slot = s ∧ es[es.length - 1]? = some l ∧ l.slot < N ∧ i < es.length ∧ Cv N ((A.set l.slot (i + 1)).set s 0) ((es.set i l).take (es.length - 1)) := by
  rcases h.a s (i + 1) hs with e0 | ⟨x, hx, hxs, -⟩
  · omega
  rw [Nat.add_sub_cancel] at hx
  have hi : i < es.length := (List.getElem?_eq_some_iff.1 hx).1
  obtain ⟨l, hl⟩ : ∃ l, es[es.length - 1]? = some l := ⟨_, List.getElem?_eq_getElem (by omega)⟩
  obtain ⟨hlN, hlA⟩ := h.e _ _ hl
  rw [show es.length - 1 + 1 = es.length by omega] at hlA
  have hsN : s < N := by rw [← h.len]; exact (List.getElem?_eq_some_iff.1 hs).1
  have hAl : l.slot < A.length := by rw [h.len]; exact hlN
  have hls : i ≠ es.length - 1 → l.slot ≠ s := fun hne e => by
    rw [e, hs] at hlA; have := Option.some.inj hlA; omega
  refine ⟨x, l, hx, hxs, hl, hlN, hi, by simp [h.len], fun j y hy => ?_, fun t v hv => ?_⟩
  · rw [List.getElem?_take] at hy
    split at hy
    · next hj =>
      by_cases hji : j = i
      · subst hji
        rw [List.getElem?_set_self hi] at hy
        obtain rfl := Option.some.inj hy
        refine ⟨hlN, ?_⟩
        rw [List.getElem?_set_ne (fun e => hls (by omega) e.symm), List.getElem?_set_self hAl]
      · rw [List.getElem?_set_ne (fun e => hji e.symm)] at hy
        obtain ⟨h1, h2⟩ := h.e j y hy
        refine ⟨h1, ?_⟩
        have n1 : y.slot ≠ s := fun e => by rw [e, hs] at h2; have := Option.some.inj h2; omega
        have n2 : y.slot ≠ l.slot := fun e => by rw [e, hlA] at h2; have := Option.some.inj h2; omega
        rw [List.getElem?_set_ne (fun e => n1 e.symm), List.getElem?_set_ne (fun e => n2 e.symm)]
        exact h2
    · cases hy
  · by_cases hts : t = s
    · subst hts
      rw [List.getElem?_set_self (by simp [h.len]; exact hsN)] at hv
      exact .inl (Option.some.inj hv).symm
    · rw [List.getElem?_set_ne (fun e => hts e.symm)] at hv
      by_cases htl : t = l.slot
      · subst htl
        rw [List.getElem?_set_self hAl] at hv
        obtain rfl := Option.some.inj hv
        have hne : i ≠ es.length - 1 := fun e => by
          subst e
          rw [hl] at hx
          obtain rfl := Option.some.inj hx
          exact hts hxs
        refine .inr ⟨l, ?_, rfl, by omega⟩
        rw [Nat.add_sub_cancel, List.getElem?_take, if_pos (by omega), List.getElem?_set_self hi]
      · rw [List.getElem?_set_ne (fun e => htl e.symm)] at hv
        rcases h.a t v hv with e0 | ⟨y, hy, hys, hv1⟩
        · exact .inl e0
        · refine .inr ⟨y, ?_, hys, hv1⟩
          have hlt : v - 1 < es.length := (List.getElem?_eq_some_iff.1 hy).1
          have n1 : v - 1 ≠ i := fun e => by rw [e, hx] at hy; obtain rfl := Option.some.inj hy; exact hts (hys.symm.trans hxs)
          have n2 : v - 1 ≠ es.length - 1 := fun e => by rw [e, hl] at hy; obtain rfl := Option.some.inj hy; exact htl hys.symm
          rw [List.getElem?_take, if_pos (by omega), List.getElem?_set_ne (fun e => n1 e.symm)]
          exact hy
theorem Cv.put {N : Nat} {A : List Nat} {es : List En} (h : Cv N A es) {x : En} (hs : A[x.slot]? = some 0) : Cv N (A.set x.slot (es.length + 1)) (es ++ [x]) := by
  have hsN : x.slot < A.length := (List.getElem?_eq_some_iff.1 hs).1
  refine ⟨by simp [h.len], fun j y hy => ?_, fun t v hv => ?_⟩
  · by_cases hj : j < es.length
    · rw [List.getElem?_append_left hj] at hy
      obtain ⟨h1, h2⟩ := h.e j y hy
      refine ⟨h1, ?_⟩
      rw [List.getElem?_set_ne (fun e => by rw [← e, hs] at h2; have := Option.some.inj h2; omega)]
      exact h2
    · have hjl : j = es.length := by
        have := (List.getElem?_eq_some_iff.1 hy).1
        rw [List.length_append, List.length_singleton] at this
        omega
      subst hjl
      rw [List.getElem?_append_right (Nat.le_refl _), Nat.sub_self] at hy
      obtain rfl : x = y := by simpa using hy
      exact ⟨by rw [← h.len]; exact hsN, List.getElem?_set_self hsN⟩
  · by_cases ht : t = x.slot
    · subst ht
      rw [List.getElem?_set_self hsN] at hv
      obtain rfl := Option.some.inj hv
      exact .inr ⟨x, by rw [Nat.add_sub_cancel, List.getElem?_append_right (Nat.le_refl _), Nat.sub_self]; rfl, rfl, by omega⟩
    · rw [List.getElem?_set_ne (fun e => ht e.symm)] at hv
      rcases h.a t v hv with e0 | ⟨y, hy, hys, hv1⟩
      · exact .inl e0
      · exact .inr ⟨y, by rw [List.getElem?_append_left (List.getElem?_eq_some_iff.1 hy).1]; exact hy, hys, hv1⟩
/-- A cache in memory: its block q, the slots' row, the entries' row, the marks. -/
structure Ca (base q ga kA m k N : Nat) (fv : Value) (A : List Nat) (es : List En) (cnt : Int → Int) (w : World) : Prop where
  b : Blk w q #[.slice (some ⟨ga, 0, none⟩) N kA, fv, .map (some m)] 88
  a : w.ownsRow base 3 1 (.slice (some ⟨ga, 0, none⟩) N kA) N (ints A)
  f : w.ownsRow base 113 12 fv es.length (eflat es)
  mr : Mk w m k cnt
  v : Cv N A es
  hq : base ≤ q
  hm : base ≤ m
theorem Ca.on {base q ga kA m k N : Nat} {fv : Value} {A : List Nat} {es : List En} {cnt : Int → Int} {w w' : World} (h : Ca base q ga kA m k N fv A es cnt w) (hb : Below w.heap.size w w') : Ca base q ga kA m k N fv A es cnt w' :=
  ⟨h.b.below h.b.lt hb, orow_keep h.a hb, orow_keep h.f hb, h.mr.on hb, h.v, h.hq, h.hm⟩
end Go.Proofs.Ytpnalcbpdejpjaa
