/-
  Plain facts for XlatePrefix.
  copied and same of the laws of xlate.
  Translate of too long a code, and of four bytes.
  Operations of a drawn region by hand.
-/
import Derived.Test.YtfdiplgjiidnbaaDoorXlOwnS
import Derived.Laws.MakeOwn
import Derived.BigQuiet
import Derived.Deep.QuietTactic
set_option linter.unusedSimpArgs false
set_option linter.unusedVariables false
namespace Go.Proofs.YtfdiplgjiidnbaaDoor
open Go.RowKit Classical
/-- How many bytes instructions have. -/
def lns : List Pc → Nat
  | [] => 0
  | p :: ps => lnN p.k + lns ps
theorem lns_snoc : ∀ (ps : List Pc) (p : Pc), lns (ps ++ [p]) = lns ps + lnN p.k
  | [], p => by simp [lns]
  | q :: ps, p => by simp only [List.cons_append, lns, lns_snoc ps p]; omega
theorem cutL_take (tag : Int) (L : List Nat) : ∀ (f r at' off num cyc : Nat), r ≤ f → cutL tag L r at' off num cyc = (cutL tag L f at' off num cyc).take r
  | f, 0, at', off, num, cyc, _ => by simp [cutL]
  | 0, r + 1, _, _, _, _, h => absurd h (by omega)
  | f + 1, r + 1, at', off, num, cyc, h => by
    rw [cutL, cutL]
    by_cases h1 : off < L.length
    · rw [if_pos h1, if_pos h1]
      by_cases h2 : inB (L.getD off 0) at' tag (L.length - off) = true
      · rw [if_pos h2, if_pos h2]
        by_cases h3 : endsI (kdN (L.getD off 0) : Nat) = true
        · rw [if_pos h3, if_pos h3]; simp
        · rw [if_neg h3, if_neg h3, cutL_take tag L f r _ _ _ _ (by omega)]; rfl
      · rw [if_neg h2, if_neg h2]; rfl
    · rw [if_neg h1, if_neg h1]; rfl
theorem livL_bts (L : List Nat) : ∀ ps, bts L (livL L ps) = bts L ps
  | [] => rfl
  | p :: ps => by
    have e : bts L (livL L (p :: ps)) = (p.put (p.lvo (livS L ps))).bytes L ++ bts L (livL L ps) := by simp [bts, livL]
    have e2 : bts L (p :: ps) = p.bytes L ++ bts L ps := by simp [bts]
    rw [e, e2, livL_bts L ps]; rfl
theorem livL_lst (L : List Nat) : ∀ ps, lst (livL L ps) = lst ps
  | [] => rfl
  | p :: ps => by rw [livL, lst, lst, livL_lst L ps]; rfl
theorem livL_mst (L : List Nat) : ∀ ps, mst L (livL L ps) = mst L ps
  | [] => rfl
  | p :: ps => by rw [livL, mst, mst, livL_mst L ps]; rfl
theorem cutL_bts {tag : Int} {L : List Nat} (hB : Byts L) : ∀ (f at' off num cyc i : Nat), bts L ((cutL tag L f at' off num cyc).take i) = (L.drop off).take (lns ((cutL tag L f at' off num cyc).take i))
  | f, at', off, num, cyc, 0 => by simp [bts, lns]
  | 0, at', off, num, cyc, i + 1 => by simp [cutL, bts, lns]
  | f + 1, at', off, num, cyc, i + 1 => by
    rw [cutL]
    by_cases h1 : off < L.length
    · rw [if_pos h1]
      by_cases h2 : inB (L.getD off 0) at' tag (L.length - off) = true
      · rw [if_pos h2]
        by_cases h3 : endsI (kdN (L.getD off 0) : Nat) = true
        · rw [if_pos h3]
          simp [bts, lns, Pc.bytes]
        · rw [if_neg h3, List.take_succ_cons]
          have ih := cutL_bts (tag := tag) hB f ((at' + lnN (L.getD off 0)) % 65536) (off + lnN (L.getD off 0)) (num + 1) (cyc + cyN (L.getD off 0)) i
          have e : ∀ x : List Pc, bts L (⟨L.getD off 0, at', off, num, cyc, 0⟩ :: x) = (L.drop off).take (lnN (L.getD off 0)) ++ bts L x := fun x => by simp [bts, Pc.bytes]
          rw [e, ih, lns, List.take_add, List.drop_drop]
      · rw [if_neg h2]; simp [bts, lns]
    · rw [if_neg h1]; simp [bts, lns]
theorem cutL_off {tag : Int} {L : List Nat} : ∀ (f at' off num cyc i : Nat) (p : Pc), (cutL tag L f at' off num cyc)[i]? = some p → p.off = off + lns ((cutL tag L f at' off num cyc).take i) ∧ (i + 1 < (cutL tag L f at' off num cyc).length → endsI (kdN p.k : Nat) = false)
  | 0, at', off, num, cyc, i, p, h => by simp [cutL] at h
  | f + 1, at', off, num, cyc, i, p, h => by
    rw [cutL] at h ⊢
    by_cases h1 : off < L.length
    · rw [if_pos h1] at h ⊢
      by_cases h2 : inB (L.getD off 0) at' tag (L.length - off) = true
      · rw [if_pos h2] at h ⊢
        by_cases h3 : endsI (kdN (L.getD off 0) : Nat) = true
        · rw [if_pos h3] at h ⊢
          cases i with
          | zero => simp at h; subst h; exact ⟨by simp [lns], fun g => by simp at g⟩
          | succ i => simp at h
        · rw [if_neg h3] at h ⊢
          cases i with
          | zero => simp at h; subst h; exact ⟨by simp [lns], fun _ => by simpa using h3⟩
          | succ i =>
            rw [List.getElem?_cons_succ] at h
            obtain ⟨e1, e2⟩ := cutL_off f _ _ _ _ i p h
            refine ⟨by rw [e1, List.take_succ_cons, lns]; show _ = _ + (lnN (L.getD off 0) + _); omega, fun g => e2 (by rw [List.length_cons] at g; omega)⟩
      · rw [if_neg h2] at h; simp at h
    · rw [if_neg h1] at h; simp at h
/-- A block of its own bytes alone is shorter. -/
theorem cutL_short {tag : Int} {L : List Nat} : ∀ (f at' off num cyc T : Nat), T = off + lns (cutL tag L f at' off num cyc) → 0 < (cutL tag L f at' off num cyc).length → (cutL tag (L.take T) f at' off num cyc).length < (cutL tag L f at' off num cyc).length
  | 0, at', off, num, cyc, T, _, h => by simp [cutL] at h
  | f + 1, at', off, num, cyc, T, hT, h => by
    rw [cutL] at h hT
    rw [cutL, cutL]
    by_cases h1 : off < L.length
    · rw [if_pos h1] at h hT
      by_cases h2 : inB (L.getD off 0) at' tag (L.length - off) = true
      · rw [if_pos h2] at h hT
        have hl := in_len h2
        by_cases h3 : endsI (kdN (L.getD off 0) : Nat) = true
        · rw [if_pos h3] at h hT
          have hT' : T = off + lnN (L.getD off 0) := by rw [hT]; simp [lns]
          have hc : cutL tag (L.take T) (f + 1) at' off num cyc = [] := by
            rw [cutL]
            split
            · next g =>
              rw [List.length_take] at g
              have e : (L.take T).getD off 0 = L.getD off 0 := by simp [List.getD, List.getElem?_take, show off < T by omega]
              rw [e, if_neg]
              intro g2
              have := in_len g2
              rw [List.length_take] at this
              omega
            · rfl
          rw [cutL] at hc
          rw [hc, if_pos h1, if_pos h2, if_pos h3]; simp
        · rw [if_neg h3] at h hT
          rw [if_pos h1, if_pos h2, if_neg h3]
          split
          · next g =>
            rw [List.length_take] at g
            have e : (L.take T).getD off 0 = L.getD off 0 := by simp [List.getD, List.getElem?_take, show off < T by omega]
            rw [e]
            split
            · next g2 =>
              rw [List.length_cons, List.length_cons]
              have hlen := in_len g2
              rw [List.length_take] at hlen
              have hT' : T = (off + lnN (L.getD off 0)) + lns (cutL tag L f ((at' + lnN (L.getD off 0)) % 65536) (off + lnN (L.getD off 0)) (num + 1) (cyc + cyN (L.getD off 0))) := by
                rw [hT, lns]; show off + (lnN (L.getD off 0) + _) = _; omega
              have h0 : 0 < (cutL tag L f ((at' + lnN (L.getD off 0)) % 65536) (off + lnN (L.getD off 0)) (num + 1) (cyc + cyN (L.getD off 0))).length := by
                rcases Nat.eq_zero_or_pos (cutL tag L f ((at' + lnN (L.getD off 0)) % 65536) (off + lnN (L.getD off 0)) (num + 1) (cyc + cyN (L.getD off 0))).length with z | z
                · rw [List.eq_nil_of_length_eq_zero z, lns] at hT'; omega
                · exact z
              have := cutL_short f ((at' + lnN (L.getD off 0)) % 65536) (off + lnN (L.getD off 0)) (num + 1) (cyc + cyN (L.getD off 0)) T hT' h0
              omega
            · simp
          · simp
      · rw [if_neg h2] at h; simp at h
    · rw [if_neg h1] at h; simp at h
theorem lst_le_mst (L : List Nat) : ∀ ps : List Pc, ((lst ps : Nat) : Int) ≤ mst L ps
  | [] => by simp [lst, mst]
  | p :: ps => by
    have := lst_le_mst L ps
    have h2 := (pen_bd L p).1
    rw [lst, mst]; omega
/-- What XlatePrefix asks of two blocks of one code: n instructions, m of the shorter one; where each begins, the least cycles ahead of it. -/
structure Pre (L : List Nat) (s r : Nat) (A B : Bk) (n m T : Nat) (at' le kk : Nat → Nat) : Prop where
  n1 : A.ni = (n : Nat)
  n64 : n ≤ 64
  m1 : B.ni = (m : Nat)
  mn : m = min r n
  T1 : T ≤ L.length
  sA : A.s = strB (L.take T)
  sB : B.s = strB (L.take (at' m))
  al : A.lo = (le n : Nat)
  bl : B.lo = (le m : Nat)
  ah : A.lo ≤ A.hi
  a0 : at' 0 = 0
  l0 : le 0 = 0
  an : at' n = T
  le9 : ∀ i, i ≤ n → le i ≤ 512
  k : ∀ i, i < n → at' i < T ∧ kk i = L.getD (at' i) 0 ∧ kk i < 256 ∧ at' (i + 1) = at' i + lnN (kk i) ∧ le (i + 1) = le i + cyN (kk i) ∧ at' (i + 1) ≤ T ∧ (i + 1 < n → endsI (kdN (kk i) : Nat) = false)
theorem lns_le : ∀ (ps : List Pc) (i : Nat), lns (ps.take i) ≤ lns ps
  | [], i => by simp
  | p :: ps, 0 => by simp [lns]
  | p :: ps, i + 1 => by rw [List.take_succ_cons, lns, lns]; have := lns_le ps i; omega
theorem lst_take_le {L : List Nat} {ps : List Pc} (h : ∀ p ∈ ps, Pok L p) (i : Nat) (hp : ps.length ≤ 64) : lst (ps.take i) ≤ 512 := by
  have h1 := lst_bd (L := L) (ps.take i) (mem_take_of h i)
  have h2 : (ps.take i).length ≤ 64 := by rw [List.length_take]; omega
  omega
theorem pre_of (P : Nat) (tag : Int) (s r : Nat) (L : List Nat) (hP : P < 65536) (hs : s ≤ 64) (hr : r ≤ s) (hB : Byts L) :
    ∃ n m T at' le kk, Pre L s r (bkOf P tag s L) (bkOf P tag r L) n m T at' le kk ∧ (0 < n → (bkOf P tag s (L.take T)).ni < (n : Nat)) ∧ 0 ≤ (bkOf P tag s (L.take T)).ni := by
  have hok : ∀ p ∈ cutL tag L s P 0 0 0, Pok L p := cutL_ok hB _ _ _ _ _ hP (by omega) (by omega)
  have hlen := cutL_len tag L s P 0 0 0
  have hq : cutL tag L r P 0 0 0 = (cutL tag L s P 0 0 0).take r := cutL_take tag L s r P 0 0 0 hr
  have hbt := cutL_bts (tag := tag) hB s P 0 0 0
  have hoff := cutL_off (tag := tag) (L := L) s P 0 0 0
  have hsh := cutL_short (tag := tag) (L := L) s P 0 0 0 (lns (cutL tag L s P 0 0 0)) (by omega)
  have eA : bkOf P tag s L = ⟨strB (bts L (cutL tag L s P 0 0 0)), ((cutL tag L s P 0 0 0).length : Nat), (lst (cutL tag L s P 0 0 0) : Nat), mst L (cutL tag L s P 0 0 0), mcs L (livL L (cutL tag L s P 0 0 0))⟩ := by
    unfold bkOf trP; rw [livL_bts, livL_length, livL_lst, livL_mst]; rfl
  have eB : bkOf P tag r L = ⟨strB (bts L (cutL tag L r P 0 0 0)), ((cutL tag L r P 0 0 0).length : Nat), (lst (cutL tag L r P 0 0 0) : Nat), mst L (cutL tag L r P 0 0 0), mcs L (livL L (cutL tag L r P 0 0 0))⟩ := by
    unfold bkOf trP; rw [livL_bts, livL_length, livL_lst, livL_mst]; rfl
  have eC : (bkOf P tag s (L.take (lns (cutL tag L s P 0 0 0)))).ni = ((cutL tag (L.take (lns (cutL tag L s P 0 0 0))) s P 0 0 0).length : Nat) := by
    unfold bkOf trP; rw [livL_length]; rfl
  refine ⟨(cutL tag L s P 0 0 0).length, min r (cutL tag L s P 0 0 0).length, lns (cutL tag L s P 0 0 0), fun i => lns ((cutL tag L s P 0 0 0).take i), fun i => lst ((cutL tag L s P 0 0 0).take i), fun i => L.getD (lns ((cutL tag L s P 0 0 0).take i)) 0, ?_, fun h => by rw [eC]; have := hsh h; omega, by rw [eC]; omega⟩
  rw [eA, eB, hq]
  have hb := hbt (cutL tag L s P 0 0 0).length
  rw [List.take_of_length_le (Nat.le_refl _), List.drop_zero] at hb
  have hTL : lns (cutL tag L s P 0 0 0) ≤ L.length := by
    rcases Nat.eq_zero_or_pos (cutL tag L s P 0 0 0).length with z | z
    · rw [List.eq_nil_of_length_eq_zero z]; simp [lns]
    · have hi : (cutL tag L s P 0 0 0).length - 1 < (cutL tag L s P 0 0 0).length := by omega
      have he := List.getElem?_eq_getElem hi
      obtain ⟨g1, -⟩ := hoff _ _ he
      have g2 := (hok _ (List.getElem_mem hi)).len
      have g3 := take_snoc he
      rw [List.take_of_length_le (by omega)] at g3
      have g4 := congrArg lns g3
      rw [lns_snoc] at g4
      omega
  generalize hps : cutL tag L s P 0 0 0 = ps at *
  have hm : (ps.take r).take (min r ps.length) = ps.take r := by rw [List.take_of_length_le]; rw [List.length_take]; omega
  have hm2 : ps.take (min r ps.length) = ps.take r := by rw [List.take_eq_take_iff]; omega
  refine ⟨rfl, by omega, by simp [List.length_take], rfl, hTL, by rw [hb], ?_, by simp, by show (lst (ps.take r) : Int) = _; rw [hm2], lst_le_mst L ps, by simp [lns], by simp [lst], by simp, fun i _ => lst_take_le hok i (by omega), fun i hi => ?_⟩
  · show strB (bts L (ps.take r)) = _
    have := hbt r
    rw [List.drop_zero] at this
    rw [this, hm2]
  · have he := List.getElem?_eq_getElem hi
    obtain ⟨g1, g2⟩ := hoff i _ he
    have g3 := hok _ (List.getElem_mem hi)
    have g4 := take_snoc he
    have g5 := lns_snoc (ps.take i) ps[i]
    have g6 := lst_snoc (ps.take i) ps[i]
    rw [← g4] at g5 g6
    have g7 : L.getD (lns (ps.take i)) 0 = ps[i].k := by rw [g3.k, g1, Nat.zero_add]
    have g8 := lns_le ps (i + 1)
    have g9 := (ln_bd _ g3.k8).1
    exact ⟨by omega, rfl, by rw [g7]; exact g3.k8, by rw [g7]; exact g5, by rw [g7]; exact g6, g8, fun h => by rw [g7]; exact g2 h⟩
end Go.Proofs.YtfdiplgjiidnbaaDoor
namespace Go.Proofs.YtfdiplgjiidnbaaDoor
open Go.RowKit Classical
/-- Bytes somewhere in memory. -/
def RowAt (w : World) (a : Option Addr) (L : List Nat) : Prop := L = [] ∨ ∃ b o, a = some ⟨b, o, none⟩ ∧ Code w b o L
theorem RowAt.on {w w' : World} {a : Option Addr} {L : List Nat} (h : RowAt w a L) (hb : Below w.heap.size w w') : RowAt w' a L := h.imp id fun ⟨b, o, e, c⟩ => ⟨b, o, e, c.at hb⟩
theorem CodeAt.row {w : World} {a : Option Addr} {cap : Nat} {L : List Nat} {b o : Nat} (h : CodeAt w a cap L b o) : RowAt w a L := h.at'.imp id fun e => ⟨b, o, e, h.c⟩
theorem RowAt.drewN {w : World} {a : Option Addr} {L : List Nat} (h : RowAt w a L) (m : Nat) : RowAt (w.drewN m) a L := h
theorem RowAt.take {w : World} {a : Option Addr} {L : List Nat} (h : RowAt w a L) (m : Nat) : RowAt w a (L.take m) := h.imp (fun e => by rw [e]; simp) fun ⟨b, o, e, c⟩ => ⟨b, o, e, fun i hi => by
    rw [List.length_take] at hi
    rw [c i (by omega)]
    simp [List.getD, List.getElem?_take, show i < m by omega]⟩
set_option maxHeartbeats 400000 in
theorem same_x (L : List Nat) (n m : Nat) (hn : L.length = n) (hm : L.length = m) (hlen : n ≤ 140737488355328) (a b : Option Addr) (capa capb : Nat) (w : World) (ra : RowAt w a L) (rb : RowAt w b L) :
    Calls Tryd.prog 11 #[.slice a n capa, .slice b m capb] w fun e w' => e = .returned (.bool true) ∧ ∃ m, w' = w.drewN m := by
  subst hn
  subst hm
  have hne : ((L.length : Int) != (L.length : Int)) = false := by simp
  go_enter Tryd.func11, Tryd.ntmps11
  go_wp2
  go_loopw [5] (fun i wr => ∃ k : Nat, k ≤ L.length ∧ i = .int .i64 k ∧ ∃ m, wr = w.drewN m) (fun i _ => L.length - (intOf i).toNat)
  case atStart => exact ⟨0, Nat.zero_le _, rfl, 0, rfl⟩
  case round =>
    obtain ⟨k, hk, rfl, m, rfl⟩ := hrel
    by_cases hkl : k < L.length
    · rcases ra with rfl | ⟨ab, aoff, rfl, ca⟩
      · simp at hkl
      rcases rb with rfl | ⟨bb, boff, rfl, cb⟩
      · simp at hkl
      have cak := ca k hkl
      have cbk := cb k hkl
      have hee : (((L.getD k 0 : Nat) : Int) != ((L.getD k 0 : Nat) : Int)) = false := by simp
      clear ca cb
      generalize L.getD k 0 = y at *
      have hki : (k : Int) < (L.length : Int) := by omega
      go_wp2
      go_quiet (fail)
      go_wp2
      go_roundw
      case rel => exact ⟨k + 1, by omega, by go_num, _, rfl⟩
      case measure => simp [intOf]; omega
    · go_wp2
      go_ret
      exact ⟨rfl, m, rfl⟩
theorem made_zeroB (n : Nat) : (madeCells (Value.int .u8 0).cells (n * 1)).toList = vals (List.replicate n 0) := by
  apply List.ext_getElem
  · simp [madeCells, vals]
  · intro i h1 h2
    simp [madeCells, Value.cells, Nat.mod_one, vals]
theorem copy_stepX (L : List Nat) (k : Nat) (hk : k < L.length) : (vals (L.take k ++ List.replicate (L.length - k) 0)).set k (.int .u8 ((L.getD k 0 : Nat) : Int)) = vals (L.take (k + 1) ++ List.replicate (L.length - (k + 1)) 0) := by
  have e : L.getD k 0 = L[k] := by simp [List.getD, List.getElem?_eq_getElem hk]
  rw [e, show L.length - k = (L.length - (k + 1)) + 1 by omega, List.replicate_succ, vals_app, vals_app, List.set_append_right _ _ (by rw [vals_len, List.length_take]; omega), vals_len, List.length_take, Nat.min_eq_left (by omega), Nat.sub_self, List.take_add_one, List.getElem?_eq_getElem hk, vals_app]
  simp [vals]
theorem orow_code {w : World} {base g n cap : Nat} {L : List Nat} (h : w.ownsRow base 5 1 (.slice (some ⟨g, 0, none⟩) n cap) n (vals L)) (hl : L.length = n) : Code w g 0 L := fun i hi => by
  rw [Nat.zero_add, orow_cell h i (by omega)]
  simp [vals, List.getD, List.getElem?_eq_getElem hi]
set_option maxHeartbeats 800000 in
theorem copied_x (L : List Nat) (n : Nat) (hn : L.length = n) (hlen : n ≤ 140737488351232) (a : Option Addr) (cap : Nat) (w : World) (hrow : RowAt w a L) :
    Calls Tryd.prog 10 #[.slice a n cap] w fun e w' => e = .returned (.slice (some ⟨w.heap.size, 0, none⟩) n n) ∧ Code w' w.heap.size 0 L ∧ Below w.heap.size w w' := by
  subst hn
  obtain ⟨i0, hi, hz0, hz1, hz2⟩ := info_parts Tryd.infoU8
  go_enter Tryd.func10, Tryd.ntmps10
  go_wp2_with (at_make; refine wpList_make_full _ rfl _ _ 23 rfl w.heap.size 5 i0 (.int .u8 0) 1 Tryd.underlying23 hi hz0 hz1 .i64 .i64 _ _ L.length rfl rfl rfl rfl (by rw [hz2]; omega) (by unfold maxLen; omega) (Nat.le_refl _) ?_; intro w1 hown hgrow)
  rw [made_zeroB] at hown
  have hb := (Below.refl w.heap.size w).grown hgrow (Nat.le_refl _) (by simp)
  clear hgrow hi hz0 hz1 hz2
  go_loopw [4] (fun i wr => ∃ k : Nat, k ≤ L.length ∧ i = .int .i64 k ∧ wr.ownsRow w.heap.size 5 1 (.slice (some ⟨w.heap.size, 0, none⟩) L.length L.length) L.length (vals (L.take k ++ List.replicate (L.length - k) 0)) ∧ Below w.heap.size w wr) (fun i _ => L.length - (intOf i).toNat)
  case atStart => exact ⟨0, Nat.zero_le _, rfl, by simpa using hown, hb⟩
  case round =>
    obtain ⟨k, hk, rfl, hor, hbr⟩ := hrel
    by_cases hkl : k < L.length
    · rcases hrow with rfl | ⟨b, off, rfl, hc⟩
      · simp at hkl
      have hB : b < w.heap.size := cell_lt (hc k hkl)
      have hcell : wr.cell? ⟨b, off + k, none⟩ = some (.int .u8 (L.getD k 0 : Nat)) := (hbr.cell (p := ⟨b, off + k, none⟩) hB).trans (hc k hkl)
      have hfr := orow_free hor k
      have hold : wr.cell? ⟨w.heap.size, k, none⟩ = some (.int .u8 0) := by
        rw [orow_cell hor k (by omega)]
        simp [vals, List.getElem?_append_right, List.length_take, Nat.min_eq_left hk, List.getElem?_replicate]; omega
      have hset := orow_set hor k (by omega) (.int .u8 (L.getD k 0 : Nat))
      have hbs := hbr.setCell (p := ⟨w.heap.size, k, none⟩) (Nat.le_refl _) (.int .u8 (L.getD k 0 : Nat))
      rw [copy_stepX L k hkl] at hset
      have HS : Hid _ := hset
      clear hc hor hbr hown hb hset
      generalize L.getD k 0 = y at *
      go_wp2
      go_roundw
      case rel => exact ⟨k + 1, by omega, by go_num, HS.out, hbs⟩
      case measure => simp [intOf]; omega
    · have e : L.take k ++ List.replicate (L.length - k) 0 = L := by
        rw [List.take_of_length_le (by omega), show L.length - k = 0 by omega]; simp
      rw [e] at hor
      go_wp2
      go_ret
      exact ⟨rfl, orow_code hor rfl, hbr⟩
end Go.Proofs.YtfdiplgjiidnbaaDoor
namespace Go.Proofs.YtfdiplgjiidnbaaDoor
open Go.RowKit Classical
theorem tr_long (P N s : Nat) (W : World) (b : Nat) (v : Value) (hP : 32768 ≤ P) (hP6 : P < 65536) (h1 : 1 ≤ s) (h6 : s ≤ 64) (hN : 8192 - P % 8192 = N) (T : Tabs W) (RT : Rtab W) (hc : Code W b 0 (List.replicate (N + 1) 0)) (hlt : b < W.heap.size + 1) (hv : v = Value.slice (some ⟨b, 0, none⟩) (N + 1) (N + 1)) :
    Calls Tryd.prog 8 #[.int .u16 (P : Nat), .int .i64 0, v, .int .i64 (s : Nat)] W fun e w' => (∃ x y z, e = .returned (.tuple #[.agg #[.int .u16 0, .int .i64 0, .string (strB []), .int .i64 0, .slice x y z, .int .i64 0, .int .i64 0], .int .i64 131])) ∧ Below W.heap.size W w' := by
  subst hv
  have CA : CodeAt W (some ⟨b, 0, none⟩) (N + 1) (List.replicate (N + 1) 0) b 0 := ⟨.inr rfl, hc, hlt, by simp, by omega, fun x hx => by rw [List.eq_of_mem_replicate hx]; decide⟩
  have := translate_any P 0 (s : Nat) (List.replicate (N + 1) 0) (some ⟨b, 0, none⟩) b 0 (N + 1) W hP6 CA T RT
  rw [List.length_replicate] at this
  refine this.mono ?_
  have hE : trE P 0 ((s : Nat) : Int) (List.replicate (N + 1) 0).length = 131 := by
    rw [List.length_replicate]
    unfold trE
    rw [if_neg (by omega)]
    have hl : lieI ((P : Nat) : Int) 0 = true := by
      unfold lieI
      rw [if_neg (by omega), if_neg (by omega)]
      simp; omega
    rw [hl, if_neg (by simp)]
    have he : endI ((P : Nat) : Int) 0 = ((P / 8192 + 1) * 8192 : Nat) := by
      unfold endI sizeI; rw [if_neg (by omega)]; omega
    rw [he, if_pos (by omega)]
  rintro e w' ⟨ops, ps, rfl, hps, hr, hb⟩
  rw [hE, if_neg (by omega)] at hps
  subst hps
  rw [hE]
  obtain ⟨va, vc, rfl, -⟩ := orow_form hr
  exact ⟨⟨_, _, _, rfl⟩, hb⟩
theorem four_bts : strB (bts [169, 1, 234, 0] (trP 512 128 1 [169, 1, 234, 0])) = ⟨#[169, 1]⟩ := by kernel_rfl
theorem four_len : (trP 512 128 1 [169, 1, 234, 0]).length = 1 := by kernel_rfl
theorem four_err : trE 512 128 1 ([169, 1, 234, 0] : List Nat).length = 0 := by kernel_rfl
theorem tr_four (W : World) (b : Nat) (v : Value) (T : Tabs W) (RT : Rtab W) (hc : Code W b 0 [169, 1, 234, 0]) (hlt : b < W.heap.size + 1) (hv : v = Value.slice (some ⟨b, 0, none⟩) 4 4) :
    Calls Tryd.prog 8 #[.int .u16 512, .int .i64 128, v, .int .i64 1] W fun e w' => (∃ x y z u1 u2, e = .returned (.tuple #[.agg #[.int .u16 512, .int .i64 128, .string ⟨#[169, 1]⟩, .int .i64 1, .slice x y z, .int .i64 u1, .int .i64 u2], .int .i64 0])) ∧ Below W.heap.size W w' := by
  subst hv
  have hB : Byts [169, 1, 234, 0] := fun x hx => by
    simp only [List.mem_cons, List.not_mem_nil, or_false] at hx
    omega
  have CA : CodeAt W (some ⟨b, 0, none⟩) 4 [169, 1, 234, 0] b 0 := ⟨.inr rfl, hc, hlt, by simp, by omega, hB⟩
  have := translate_any 512 128 1 [169, 1, 234, 0] (some ⟨b, 0, none⟩) b 0 4 W (by omega) CA T RT
  refine this.mono ?_
  rintro e w' ⟨ops, ps, rfl, hps, hr, hb⟩
  rw [four_err, if_pos rfl] at hps
  subst hps
  rw [four_err, if_pos rfl, if_pos rfl]
  obtain ⟨va, vc, rfl, -⟩ := orow_form hr
  have hf : blkC ((512 : Nat) : Int) 128 [169, 1, 234, 0] (trP 512 128 1 [169, 1, 234, 0]) (Value.slice va (mcs [169, 1, 234, 0] (trP 512 128 1 [169, 1, 234, 0])).length vc) = #[.int .u16 512, .int .i64 128, .string ⟨#[169, 1]⟩, .int .i64 1, .slice va (mcs [169, 1, 234, 0] (trP 512 128 1 [169, 1, 234, 0])).length vc, .int .i64 ((lst (trP 512 128 1 [169, 1, 234, 0]) : Nat) : Int), .int .i64 (mst [169, 1, 234, 0] (trP 512 128 1 [169, 1, 234, 0]))] := by
    unfold blkC
    rw [four_bts, four_len]; rfl
  rw [hf]
  exact ⟨⟨_, _, _, _, _, rfl⟩, hb⟩
end Go.Proofs.YtfdiplgjiidnbaaDoor
namespace Go.Proofs.YtfdiplgjiidnbaaDoor
open Go.RowKit Classical
theorem exec_neqS {ρ : Operand → Value} {o : Oper} {x y : Operand} {t z : TypeId} {k : IntKind} {a : Int} {w : World} (ho : o.op = .binOp .neq t x y z) (hx : ρ x = .int k a) (hy : ρ y = .int k a) (ht : Tryd.prog.underlying t = some (.int k)) : (execOp ρ o).run Tryd.prog w = .ok (.value (.bool false)) w := by
  obtain ⟨dst, o, ty, pos, after, guard⟩ := o
  simp only at ho
  subst ho
  unfold execOp
  simp only [hx, hy]
  go_simp
theorem exec_neq64 {ρ : Operand → Value} {o : Oper} {x y : Operand} {t z : TypeId} {a b : Int} {r : Bool} {w : World} (ho : o.op = .binOp .neq t x y z) (hx : ρ x = .int .i64 a) (hy : ρ y = .int .i64 b) (ht : Tryd.prog.underlying t = some (.int .i64)) (hr : (a != b) = r) : (execOp ρ o).run Tryd.prog w = .ok (.value (.bool r)) w := by
  obtain ⟨dst, o, ty, pos, after, guard⟩ := o
  simp only at ho
  subst ho
  unfold execOp
  simp only [hx, hy]
  subst hr
  go_simp
theorem exec_eql64 {ρ : Operand → Value} {o : Oper} {x y : Operand} {t z : TypeId} {a b : Int} {r : Bool} {w : World} (ho : o.op = .binOp .eql t x y z) (hx : ρ x = .int .i64 a) (hy : ρ y = .int .i64 b) (ht : Tryd.prog.underlying t = some (.int .i64)) (hr : (a == b) = r) : (execOp ρ o).run Tryd.prog w = .ok (.value (.bool r)) w := by
  obtain ⟨dst, o, ty, pos, after, guard⟩ := o
  simp only at ho
  subst ho
  unfold execOp
  simp only [hx, hy]
  subst hr
  go_simp
theorem exec_gtrF {ρ : Operand → Value} {o : Oper} {x y : Operand} {t z : TypeId} {a b : Int} {w : World} (ho : o.op = .binOp .gtr t x y z) (hx : ρ x = .int .i64 a) (hy : ρ y = .int .i64 b) (ht : Tryd.prog.underlying t = some (.int .i64)) (hr : a ≤ b) : (execOp ρ o).run Tryd.prog w = .ok (.value (.bool false)) w := by
  obtain ⟨dst, o, ty, pos, after, guard⟩ := o
  simp only at ho
  subst ho
  unfold execOp
  simp only [hx, hy]
  have hq : ¬ b < a := by omega
  go_simp
theorem exec_lenS {ρ : Operand → Value} {o : Oper} {x : Operand} {tys : Array TypeId} {s : ByteArray} {n : Nat} {w : World} (ho : o.op = .call { callee := .builtin .len, args := #[x], argTypes := #[9] }) (hx : ρ x = .string s) (hn : s.size = n) : (execOp ρ o).run Tryd.prog w = .ok (.value (.int .i64 ((n : Nat) : Int))) w := by
  obtain ⟨dst, o, ty, pos, after, guard⟩ := o
  simp only at ho
  subst ho
  unfold execOp
  subst hn
  simp only [List.map, Array.map, hx]
  go_simp
theorem exec_slH {ρ : Operand → Value} {o : Oper} {x hi : Operand} {a : Option Addr} {n k h : Nat} {w : World} (ho : o.op = .slice 23 x none (some hi) none) (hx : ρ x = .slice a n k) (hh : ρ hi = .int .i64 (h : Nat)) (h1 : h ≤ k) : (execOp ρ o).run Tryd.prog w = .ok (.value (.slice a h k)) w := by
  obtain ⟨dst, o, ty, pos, after, guard⟩ := o
  simp only at ho
  subst ho
  unfold execOp
  have q1 : (0 : Int) ≤ (h : Int) := by omega
  have q3 : (h : Int) ≤ (k : Int) := by omega
  rcases a with _ | y
  · simp only [Option.map, hx, hh]
    by_cases e : k = 0
    · obtain rfl : h = 0 := by omega
      subst e
      go_simp
    · go_simp
  · by_cases e : k = 0
    · obtain rfl : h = 0 := by omega
      subst e
      simp only [Option.map, hx, hh]
      go_simp
    · simp only [Option.map, hx, hh]
      go_simp
      try simp [Addr.add]
theorem worldH {P : Program} {ops : Array Oper} {Q : Exit → Act → World → Prop} {md : Region.Mode} {S : World → Prop} {i : Nat} {fuel : Nat} {listed : Array Bool} {a : Act} {w w1 : World} {o : Oper} {v : Value} (a' : Act)
    (hr : Region.ready md ops listed = [i]) (hi : ops[i]? = some o) (hw : Region.wanted o (yielded ops a.tmps) = true) (he : (execOp a.eval o).run P w = .ok (.value v) w1) (ha : a.put o.dst v = a') (h : S w1 ∧ wpAnyH P md ops Q S fuel (listed.setIfInBounds i true) a' w1) : wpAnyH P md ops Q S (fuel + 1) listed a w :=
  wpAnyH_all hr (List.cons_ne_nil _ _) fun j hj => by
    obtain rfl := List.mem_singleton.1 hj
    subst ha
    unfold wpOp
    rw [hi]
    simp only [hw, if_true]
    left
    unfold Oper.wp
    rw [he]
    exact h
theorem conv_bytes (w : World) (L : List Nat) (hB : Byts L) : ∃ cap w1, (convert 9 23 (.string (strB L))).run Tryd.prog w = .ok (.slice (some ⟨w.heap.size, 0, none⟩) L.length cap) w1 ∧ Code w1 w.heap.size 0 L ∧ Below w.heap.size w w1 := by
  have h := run_bytes_of_string (P := Tryd.prog) w 9 23 5 (strB L) (by kernel_rfl) (by kernel_rfl) (by kernel_rfl)
  have hsz : (strB L).size = L.length := by simp [strB, ByteArray.size]
  rw [hsz] at h
  refine ⟨_, _, h, fun i hi => ?_, (Below.refl _ _).drew.alloc (Nat.le_refl _) _⟩
  have e := World.cell?_alloc_mark w.drew (bytesRow (strB L) (grownCap w L.length 0 5)) 5 ((bytesRow (strB L) (grownCap w L.length 0 5)).size, (bytesRow (strB L) (grownCap w L.length 0 5)).size + 1) i
  rw [bytesRow_at _ _ i (by simpa [strB] using hi)] at e
  rw [Nat.zero_add]
  have hx : (L.getD i 0) % 256 = L.getD i 0 := Nat.mod_eq_of_lt (hB.at i)
  have hg : L.getD i 0 = L[i] := by simp [List.getD, List.getElem?_eq_getElem hi]
  rw [hg] at hx ⊢
  simpa [strB, hx] using e
theorem exec_convW {P : Program} {ρ : Operand → Value} {o : Oper} {x : Operand} {s t : TypeId} {v u : Value} {w w' : World} (ho : o.op = .convert s t x) (hx : ρ x = v) (hc : (convert s t v).run P w = .ok u w') : (execOp ρ o).run P w = .ok (.value u) w' := by
  obtain ⟨dst, o, ty, pos, after, guard⟩ := o
  simp only at ho
  subst ho
  unfold execOp
  simp only [hx, Sem.run_bind, hc, Result.andThen, Sem.run_pure]
theorem run_slH (a : Option Addr) (n k h : Nat) (w : World) (h1 : h ≤ k) : (Instr.slice 23 (.slice a n k) none (some (.int .i64 ((h : Nat) : Int))) none).run Tryd.prog w = .ok (.slice a h k) w := by
  have q1 : (0 : Int) ≤ (h : Int) := by omega
  have q3 : (h : Int) ≤ (k : Int) := by omega
  rcases a with _ | y
  · by_cases e : k = 0
    · obtain rfl : h = 0 := by omega
      subst e
      go_simp
    · go_simp
  · by_cases e : k = 0
    · obtain rfl : h = 0 := by omega
      subst e
      go_simp
    · go_simp
      try simp [Addr.add]
theorem run_idxS (s : ByteArray) (L : List Nat) (x : Nat) (w : World) (hs : s = strB L) (hx : x < L.length) (hB : Byts L) : (Instr.index 9 (.string s) (.int .i64 ((x : Nat) : Int))).run Tryd.prog w = .ok (.int .u8 ((L.getD x 0 : Nat) : Int)) w := by
  subst hs
  have hz : (strB L).size = L.length := by simp [strB, ByteArray.size]
  rw [run_index_string _ _ _ _ _ (by kernel_rfl), dif_pos (by rw [hz]; omega)]
  have hm : L[x] % 256 = L[x] := Nat.mod_eq_of_lt (hB _ (List.getElem_mem hx))
  simp [strB, ByteArray.getElem_eq_getElem_data, List.getD, List.getElem?_eq_getElem hx, hm]
theorem run_preS (s z : ByteArray) (L : List Nat) (x : Nat) (w : World) (hs : s = strB L) (hz : z = strB (L.take x)) (hx : x ≤ L.length) : (Instr.slice 9 (.string s) none (some (.int .i64 ((x : Nat) : Int))) none).run Tryd.prog w = .ok (.string z) w := by
  subst hs
  subst hz
  have hz : (strB L).size = L.length := by simp [strB, ByteArray.size]
  rw [run_slice_string_h _ _ _ (by kernel_rfl) _ _ (by omega) (by rw [hz]; omega)]
  congr 2
  apply ByteArray.ext
  simp [strB, ByteArray.data_extract, List.map_take]
theorem bel_drew {B : Nat} {a w w' : World} (h : Below B a w) (e : ∃ m, w' = w.drewN m) : Below B a w' := by
  obtain ⟨m, rfl⟩ := e
  exact ⟨h.os, h.tape, h.output, h.size, h.block⟩
end Go.Proofs.YtfdiplgjiidnbaaDoor
