/-
  Plain facts for the laws of xlate; Translate as they call it.
-/
import Derived.Test.YtfdiplgjiidnbaaDoorXlApp
set_option linter.unusedSimpArgs false
set_option linter.unusedVariables false
namespace Go.Proofs.YtfdiplgjiidnbaaDoor
open Go.RowKit Classical
theorem or15 (p : Nat) (h : p < 65536) : ∃ P : Nat, bits .or .u16 (p : Int) 32768 = (P : Int) ∧ 32768 ≤ P ∧ P < 65536 := by
  refine ⟨p ||| 32768, ?_, Nat.right_le_or, ?_⟩
  · show IntKind.u16.wrap ((BitVec.ofInt 16 (p : Int) ||| BitVec.ofInt 16 32768).toNat : Nat) = _
    rw [show BitVec.ofInt 16 (p : Int) = BitVec.ofNat 16 p from rfl, show BitVec.ofInt 16 32768 = BitVec.ofNat 16 32768 from rfl, BitVec.toNat_or, BitVec.toNat_ofNat, BitVec.toNat_ofNat, Nat.mod_eq_of_lt h, wrap16]
    have : p ||| 32768 < 2 ^ 16 := Nat.or_lt_two_pow h (by decide)
    show (((p ||| 32768 : Nat) : Int)) % 65536 = _
    omega
  · exact Nat.or_lt_two_pow (n := 16) h (by decide)
theorem trE_bank (P n s : Nat) (tag : Int) (hP : 32768 ≤ P) (hP6 : P < 65536) (h1 : 1 ≤ s) (h6 : s ≤ 64) (t0 : 0 ≤ tag) (t1 : tag ≤ 127) (hn : n ≤ 8192 - P % 8192) : trE P tag ((s : Nat) : Int) n = 0 := by
  unfold trE
  rw [if_neg (by omega)]
  have hl : lieI ((P : Nat) : Int) tag = true := by
    unfold lieI
    rw [if_neg (by omega), if_neg (by omega)]
    simp; omega
  rw [hl, if_neg (by decide)]
  have he : endI ((P : Nat) : Int) tag = ((P / 8192 + 1) * 8192 : Nat) := by
    unfold endI sizeI; rw [if_neg (by omega)]; omega
  rw [he, if_neg (by omega)]
theorem cutL_bar {tag : Int} {L : List Nat} : ∀ (f at' off num cyc : Nat), ∀ p ∈ cutL tag L f at' off num cyc, barI ((opN p.k : Nat) : Int) = false
  | 0, _, _, _, _, _, h => by simp [cutL] at h
  | f + 1, at', off, num, cyc, p, h => by
    rw [cutL] at h
    by_cases h1 : off < L.length
    · rw [if_pos h1] at h
      by_cases h2 : inB (L.getD off 0) at' tag (L.length - off) = true
      · rw [if_pos h2] at h
        have hb : barI ((opN (L.getD off 0) : Nat) : Int) = false := by
          unfold inB inI at h2
          simp only [Bool.and_eq_true, Bool.not_eq_true'] at h2
          exact h2.1
        by_cases h3 : endsI (kdN (L.getD off 0) : Nat) = true
        · rw [if_pos h3] at h
          simp only [List.mem_singleton] at h
          rw [h]; exact hb
        · rw [if_neg h3] at h
          rcases List.mem_cons.1 h with h | h
          · rw [h]; exact hb
          · exact cutL_bar f _ _ _ _ p h
      · rw [if_neg h2] at h; cases h
    · rw [if_neg h1] at h; cases h
theorem rc_first : ∀ k, k < 256 → barI ((opN k : Nat) : Int) = false → rcp (mdN k) (kdN k) 0 ≠ 0 := by decide +kernel
theorem livL_bar {L : List Nat} : ∀ ps : List Pc, (∀ p ∈ ps, barI ((opN p.k : Nat) : Int) = false) → ∀ p ∈ livL L ps, barI ((opN p.k : Nat) : Int) = false
  | [], _, _, h => by cases h
  | p :: ps, H, q, h => by
    rw [livL] at h
    rcases List.mem_cons.1 h with h | h
    · rw [h]; exact H p (List.mem_cons_self ..)
    · exact livL_bar ps (fun x hx => H x (List.mem_cons_of_mem _ hx)) q h
theorem mics_some {L : List Nat} {p : Pc} (h8 : p.k < 256) (hb : barI ((opN p.k : Nat) : Int) = false) : 0 < (p.mics L).length := by
  unfold Pc.mics Pc.kinds Pc.rc
  have := rc_first p.k h8 hb
  rw [List.length_map, List.takeWhile_cons_of_pos (by simpa using this)]
  simp
theorem mcs_some {L : List Nat} {ps : List Pc} (h8 : ∀ p ∈ ps, Pok L p) (hb : ∀ p ∈ ps, barI ((opN p.k : Nat) : Int) = false) : (decide (0 < (((mcs L ps).length : Nat) : Int))) = decide (0 < ((ps.length : Nat) : Int)) := by
  cases ps with
  | nil => rfl
  | cons p ps =>
    have e : mcs L (p :: ps) = p.mics L ++ mcs L ps := by simp [mcs]
    have := mics_some (L := L) (h8 p (List.mem_cons_self ..)).k8 (hb p (List.mem_cons_self ..))
    rw [e, List.length_append, List.length_cons]
    simp; omega
/-- What a block says besides where its list lies. -/
structure Bk where
  s : ByteArray
  ni : Int
  lo : Int
  hi : Int
  l : List Mic
/-- The block that Translate makes of this code in a bank. -/
def bkOf (P : Nat) (tag : Int) (s : Nat) (L : List Nat) : Bk := ⟨strB (bts L (trP P tag (s : Nat) L)), (((trP P tag (s : Nat) L).length : Nat) : Int), ((lst (trP P tag (s : Nat) L) : Nat) : Int), mst L (trP P tag (s : Nat) L), mcs L (trP P tag (s : Nat) L)⟩
theorem trP_ok {P : Nat} {tag : Int} {s : Nat} {L : List Nat} (hP : P < 65536) (hs : s ≤ 64) (hB : Byts L) : ∀ p ∈ trP P tag (s : Nat) L, Pok L p := livL_ok _ (cutL_ok hB _ _ _ _ _ hP (by show 0 + ((s : Nat) : Int).toNat ≤ 64; omega) (by omega))
theorem bk_len {P : Nat} {tag : Int} {s : Nat} {L : List Nat} (hs : s ≤ 64) : (bkOf P tag s L).l.length ≤ 256 := by
  have h1 := mcs_len L (trP P tag (s : Nat) L)
  have h2 : (trP P tag (s : Nat) L).length ≤ 64 := by
    unfold trP; rw [livL_length]; have := cutL_len tag L ((s : Nat) : Int).toNat P 0 0 0; omega
  show (mcs L (trP P tag (s : Nat) L)).length ≤ 256
  omega
theorem bk_some {P : Nat} {tag : Int} {s : Nat} {L : List Nat} (hP : P < 65536) (hs : s ≤ 64) (hB : Byts L) : (decide (0 < (((bkOf P tag s L).l.length : Nat) : Int))) = decide (0 < (bkOf P tag s L).ni) :=
  mcs_some (trP_ok hP hs hB) (livL_bar _ (cutL_bar _ _ _ _ _))
/-- Translate, as the laws call it. -/
theorem tr_bank (P s : Nat) (tag : Int) (L : List Nat) (a : Option Addr) (b o cap : Nat) (w : World) (hP : 32768 ≤ P) (hP6 : P < 65536) (h1 : 1 ≤ s) (h6 : s ≤ 64) (t0 : 0 ≤ tag) (t1 : tag ≤ 127) (hn : L.length ≤ 8192 - P % 8192) (HA : CodeAt w a cap L b o) (T : Tabs w) (RT : Rtab w) :
    Calls Tryd.prog 8 #[.int .u16 (P : Nat), .int .i64 tag, .slice a L.length cap, .int .i64 (s : Nat)] w fun e w' => ∃ va vc, e = .returned (.tuple #[.agg #[.int .u16 (P : Nat), .int .i64 tag, .string (bkOf P tag s L).s, .int .i64 (bkOf P tag s L).ni, .slice va (bkOf P tag s L).l.length vc, .int .i64 (bkOf P tag s L).lo, .int .i64 (bkOf P tag s L).hi], .int .i64 0]) ∧
      w'.ownsRow w.heap.size 35 7 (.slice va (bkOf P tag s L).l.length vc) (bkOf P tag s L).l.length (mflat (bkOf P tag s L).l) ∧ Below w.heap.size w w' := by
  refine (translate_any P tag (s : Nat) L a b o cap w hP6 HA T RT).mono ?_
  have hE := trE_bank P L.length s tag hP hP6 h1 h6 t0 t1 hn
  rintro e w' ⟨ops, ps, rfl, hps, hr, hb⟩
  rw [hE, if_pos rfl] at hps
  rw [hE, if_pos rfl, if_pos rfl]
  subst hps
  obtain ⟨va, vc, rfl, -⟩ := orow_form hr
  exact ⟨va, vc, rfl, hr, hb⟩
theorem CodeAt.take {w : World} {a : Option Addr} {cap : Nat} {L : List Nat} {b o : Nat} (h : CodeAt w a cap L b o) (m : Nat) : CodeAt w a cap (L.take m) b o :=
  ⟨h.at'.imp (fun e => by rw [e]; simp) id, fun i hi => by
    rw [List.length_take] at hi
    have := h.c i (by omega)
    rw [this]
    simp [List.getD, List.getElem?_take, show i < m by omega], h.lt, by rw [List.length_take]; have := h.le; omega, h.m, fun x hx => h.by' x (List.mem_of_mem_take hx)⟩
/-- A micro-op with another operand; a list whose first ones have been marked. -/
def Mic.putA (q : Mic) (x : Int) : Mic := ⟨q.kd, q.op, q.md, x, q.fl, q.num, q.cyc⟩
def mkA (l : List Mic) : Nat → List Mic
  | 0 => l
  | m + 1 => match (mkA l m)[m]? with
    | some q => (mkA l m).set m (q.putA (((40000 + m : Nat) : Int)))
    | none => mkA l m
theorem mkA_len (l : List Mic) : ∀ m, (mkA l m).length = l.length
  | 0 => rfl
  | m + 1 => by
    rw [mkA]
    split
    · rw [List.length_set]; exact mkA_len l m
    · exact mkA_len l m
theorem mkA_succ {l : List Mic} {m : Nat} {q : Mic} (h : (mkA l m)[m]? = some q) : mkA l (m + 1) = (mkA l m).set m (q.putA (((40000 + m : Nat) : Int))) := by
  rw [mkA, h]
theorem mkA_at (l : List Mic) : ∀ m i, i < m → i < l.length → ∃ q, (mkA l m)[i]? = some q ∧ q.arg = (((40000 + i : Nat) : Int))
  | 0, i, h, _ => absurd h (by omega)
  | m + 1, i, h, hl => by
    rcases (show i < m ∨ i = m by omega) with h1 | rfl
    · obtain ⟨q, e1, e2⟩ := mkA_at l m i h1 hl
      refine ⟨q, ?_, e2⟩
      rw [mkA]
      split
      · rw [List.getElem?_set_ne (by omega)]; exact e1
      · exact e1
    · obtain ⟨q, hq⟩ : ∃ q, (mkA l i)[i]? = some q := ⟨_, List.getElem?_eq_getElem (by rw [mkA_len]; exact hl)⟩
      rw [mkA_succ hq]
      exact ⟨_, List.getElem?_set_self (by rw [mkA_len]; exact hl), rfl⟩
theorem mflat_set {l : List Mic} {m : Nat} {q : Mic} (h : l[m]? = some q) (x : Int) : (mflat l).set (m * 7 + 3) (.int .u16 x) = mflat (l.set m (q.putA x)) := by
  obtain ⟨hj, rfl⟩ := List.getElem?_eq_some_iff.1 h
  have e : l = l.take m ++ l[m] :: l.drop (m + 1) := by rw [List.getElem_cons_drop, List.take_append_drop]
  have e3 : ∀ q : Mic, mflat (l.take m ++ q :: l.drop (m + 1)) = mflat (l.take m) ++ (q.cells.toList ++ mflat (l.drop (m + 1))) := fun q => by rw [mflat_app]; simp [mflat]
  have e4 : l.set m (l[m].putA x) = l.take m ++ l[m].putA x :: l.drop (m + 1) := List.set_eq_take_append_cons_drop ▸ (by rw [if_pos hj])
  have e5 : mflat l = mflat (l.take m) ++ (l[m].cells.toList ++ mflat (l.drop (m + 1))) := by rw [← e3, ← e]
  rw [e4, e3, e5, List.set_append_right _ _ (by rw [mflat_len, List.length_take]; omega), mflat_len, List.length_take, Nat.min_eq_left (by omega), Nat.add_sub_cancel_left, List.set_append_left _ _ (by show 3 < 7; decide)]
  rfl
end Go.Proofs.YtfdiplgjiidnbaaDoor
