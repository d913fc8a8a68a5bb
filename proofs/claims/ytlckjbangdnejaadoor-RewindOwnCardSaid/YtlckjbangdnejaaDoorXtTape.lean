/-
  A tape in memory; its length, its room, a new one.
-/
import Derived.Test.YtlckjbangdnejaaDoorXtPush
set_option linter.unusedSimpArgs false
set_option linter.unusedVariables false
namespace Go.Proofs.YtlckjbangdnejaaDoor
open Go.RowKit Classical
/-- The bytes of all patches of a tape. -/
def room : List (List Nat) → Nat
  | a :: b :: r => (diffL a b).length + room (b :: r)
  | _ => 0
/-- A list in a block of its own. -/
def Lo (FP : Nat → Prop) (w : World) (v : Value) (g : Nat) (l : List Nat) : Prop := v = .slice (some ⟨g, 0, none⟩) l.length l.length ∧ Own w g l ∧ FP g
/-- What is told of a tape's newest list. -/
def Nw (FP : Nat → Prop) (w : World) (nv : Value) (gn : Nat) : List (List Nat) → Prop
  | [] => nv = .slice none 0 0
  | S0 :: _ => Lo FP w nv gn S0
/-- The tape in block t holds these lists, the newest first; FP are its blocks. -/
def Tp (FP : Nat → Prop) (t K : Nat) (Ss : List (List Nat)) (w : World) : Prop :=
  ∃ (s f : Nat) (cur : Array Value) (nv : Value) (gn : Nat) (R : List Value),
    Blk w t (tc true (!Ss.isEmpty) nv s K f R.length (room Ss : Nat)) 54 ∧ Blk w s cur 28 ∧ Rn K f cur R ∧ FP t ∧ FP s ∧
    Nw FP w nv gn Ss ∧ R.length = Ss.length - 1 ∧ (∀ i v, R[i]? = some v → ∃ g, Lo FP w v g (diffL (Ss.getD i []) (Ss.getD (i + 1) [])) ∧ g ≠ gn) ∧ (∀ S ∈ Ss, Good S) ∧ K ≤ 4096
theorem Lo.on {FP : Nat → Prop} {w w' : World} {v : Value} {g : Nat} {l : List Nat} (h : Lo FP w v g l) (hk : ∀ k, FP k → w'.heap[k]? = w.heap[k]?) : Lo FP w' v g l := ⟨h.1, (hk g h.2.2).trans h.2.1, h.2.2⟩
theorem Nw.on {FP : Nat → Prop} {w w' : World} {nv : Value} {gn : Nat} {Ss : List (List Nat)} (h : Nw FP w nv gn Ss) (hk : ∀ k, FP k → w'.heap[k]? = w.heap[k]?) : Nw FP w' nv gn Ss := by
  cases Ss with
  | nil => exact h
  | cons a r => exact Lo.on h hk
theorem Tp.on {FP : Nat → Prop} {t K : Nat} {Ss : List (List Nat)} {w w' : World} (h : Tp FP t K Ss w) (hk : ∀ k, FP k → w'.heap[k]? = w.heap[k]?) : Tp FP t K Ss w' := by
  obtain ⟨s, f, cur, nv, gn, R, B, S, N, f1, f2, n1, n2, n3, n4⟩ := h
  exact ⟨s, f, cur, nv, gn, R, (hk t f1).trans B, (hk s f2).trans S, N, f1, f2, n1.on hk, n2, fun i v hv => by
    obtain ⟨g, hg, hne⟩ := n3 i v hv
    exact ⟨g, hg.on hk, hne⟩, n4⟩
theorem Tp.le {FP : Nat → Prop} {t K : Nat} {Ss : List (List Nat)} {w : World} (h : Tp FP t K Ss w) : Ss.length ≤ K + 1 := by
  obtain ⟨s, f, cur, nv, gn, R, B, S, N, f1, f2, n1, n2, n3, n4⟩ := h
  have := N.le
  omega
theorem Tp.below {FP : Nat → Prop} {t K : Nat} {Ss : List (List Nat)} {w w' : World} (h : Tp FP t K Ss w) (hf : ∀ k, FP k → k < w.heap.size) (hb : Below w.heap.size w w') : Tp FP t K Ss w' := h.on fun k hk => hb.block k (hf k hk)
theorem len_any (FP : Nat → Prop) (t K : Nat) (Ss : List (List Nat)) (w : World) (h : Tp FP t K Ss w) :
    Calls Tryd.prog 10 #[.pointer (some ⟨t, 0, none⟩)] w fun e w' => e = .returned (.int .i64 (Ss.length : Nat)) ∧ w' = w := by
  obtain ⟨s, f, cur, nv, gn, R, B, S, N, f1, f2, n1, n2, n3, n4, n5⟩ := h
  have c1 : w.cell? ⟨t, 1, none⟩ = some (.bool (!Ss.isEmpty)) := B.cell 1
  have HB : Hid (Blk w t (tc true (!Ss.isEmpty) nv s K f R.length (room Ss : Nat)) 54) := B
  have hle := N.le
  cases Ss with
  | nil =>
    clear B S N n1 n2 n3 n4
    go_enter Tryd.func10, Tryd.ntmps10
    go_wp2_with fail
    refine (none_any t _ nv s K f R.length _ w HB.out).mono ?_
    rintro e w1 ⟨rfl, rfl⟩
    go_wp2
    go_ret
    exact ⟨rfl, rfl⟩
  | cons a r =>
    have hr : R.length = r.length := by simpa using n2
    rw [hr] at HB
    have hrl : r.length ≤ 4096 := by omega
    have HL : Hid (1 + (r.length : Int) = (((a :: r).length : Nat) : Int)) := by unfold Hid; simp; omega
    clear B S N n1 n2 n3 n4 hr
    generalize r.length = c at *
    go_enter Tryd.func10, Tryd.ntmps10
    go_wp2_with fail
    refine (none_any t _ nv s K f c _ w HB.out).mono ?_
    rintro e w1 ⟨rfl, rfl⟩
    go_wp2_with fail
    refine (length_any t _ _ nv s K f c _ w1 HB.out).mono ?_
    rintro e w2 ⟨rfl, rfl⟩
    go_wp2
    go_ret
    exact ⟨congrArg (fun x => Ending.returned (.int .i64 x)) HL.out, rfl⟩
theorem diffL_le {F T : List Nat} (hF : Good F) (hT : Good T) : (diffL F T).length ≤ 65560 := (diffL_len hF.2 hT.2).2
theorem room_le : ∀ Ss : List (List Nat), (∀ S ∈ Ss, Good S) → room Ss ≤ 65560 * Ss.length
  | [], _ => Nat.zero_le _
  | [a], _ => by simp [room]
  | a :: b :: r, h => by
    have h1 := diffL_le (h a (by simp)) (h b (by simp))
    have h2 := room_le (b :: r) (fun S hS => h S (by simp [hS]))
    simp only [room, List.length_cons] at h2 ⊢
    omega
/-- What Bytes answers. -/
def byt : List (List Nat) → Nat
  | [] => 0
  | a :: r => a.length + room (a :: r)
theorem bytes_any (FP : Nat → Prop) (t K : Nat) (Ss : List (List Nat)) (w : World) (h : Tp FP t K Ss w) :
    Calls Tryd.prog 13 #[.pointer (some ⟨t, 0, none⟩)] w fun e w' => e = .returned (.int .i64 (byt Ss : Nat)) ∧ ∃ n, w' = w.drewN n := by
  have hle := h.le
  obtain ⟨s, f, cur, nv, gn, R, B, S, N, f1, f2, n1, n2, n3, n4, n5⟩ := h
  have hro := room_le Ss n4
  have c2 : w.cell? ⟨t, 2, none⟩ = some nv := B.cell 2
  have c6 : w.cell? ⟨t, 6, none⟩ = some (.int .i64 (room Ss : Nat)) := B.cell 6
  have HB : Hid (Blk w t (tc true (!Ss.isEmpty) nv s K f R.length (room Ss : Nat)) 54) := B
  obtain ⟨a0, l0, hnv, hl0, hby⟩ : ∃ a0 l0, nv = .slice a0 l0 l0 ∧ l0 ≤ 65536 ∧ l0 + room Ss = byt Ss := by
    cases Ss with
    | nil => exact ⟨none, 0, n1, by omega, rfl⟩
    | cons a r => exact ⟨_, _, n1.1, (n4 a (by simp)).2, rfl⟩
  subst hnv
  have HY : Hid (((l0 : Nat) : Int) + (room Ss : Int) = (byt Ss : Int)) := by unfold Hid; omega
  have hro2 : room Ss ≤ 268600000 := by omega
  clear B S N n1 n2 n3 n4
  generalize room Ss = ro at *
  go_enter Tryd.func13, Tryd.ntmps13
  go_wp2_with fail
  refine (none_any t _ _ s K f R.length _ w HB.out).mono ?_
  rintro e w1 ⟨rfl, rfl⟩
  go_upto_region 3 with fail
  go_quiet (fail)
  go_wp2
  go_ret
  exact ⟨congrArg (fun x => Ending.returned (.int .i64 x)) HY.out, _, rfl⟩
end Go.Proofs.YtlckjbangdnejaaDoor
