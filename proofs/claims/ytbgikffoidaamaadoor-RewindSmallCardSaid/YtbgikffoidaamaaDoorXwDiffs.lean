/-
  The law RewindDiffs returns true of any two lists of bytes.
-/
import Derived.Test.YtbgikffoidaamaaDoorXwRDiff
set_option linter.unusedSimpArgs false
set_option linter.unusedVariables false
namespace Go.Proofs.YtbgikffoidaamaaDoor
open Go.RowKit Classical
theorem bytes_app {a b : List Nat} (ha : Bytes a) (hb : Bytes b) : Bytes (a ++ b) := RwM.bytes_append ha hb
theorem sum4_bytes (c : Nat) : Bytes (sum4 c) := by
  intro x hx
  simp only [sum4, List.mem_cons, List.not_mem_nil, or_false] at hx
  omega
theorem diffL_bytes {F T : List Nat} (hF : Bytes F) (hT : Bytes T) : Bytes (diffL F T) := by
  unfold diffL
  refine bytes_app (bytes_app (bytes_app (bytes_app ?_ (bytes_app (RwM.num_bytes _) (RwM.num_bytes _))) (RwM.rb_bytes _ _ (Nat.le_refl _) (RwM.xr_bytes hF hT))) (bytes_app (RwM.num_bytes _) (RwM.num_bytes _))) (sum4_bytes _)
  intro x hx
  simp only [List.mem_cons, List.not_mem_nil, or_false] at hx
  omega
theorem diffL_len {F T : List Nat} (hF : F.length ≤ 65536) (hT : T.length ≤ 65536) : 10 ≤ (diffL F T).length ∧ (diffL F T).length ≤ 65560 := by
  have a1 := RwM.num_len F.length (by omega)
  have a2 := RwM.num_len T.length (by omega)
  have a3 := (RwM.rb_len 65536 (RwM.xr F T) (by rw [RwM.xr_len]; exact hT) (Nat.le_refl _)).1
  rw [RwM.xr_len] at a3
  unfold diffL
  simp only [List.length_append, List.length_cons, List.length_nil, RwM.num_zero, sum4]
  omega
theorem sameB_self (A : List Nat) : sameB A A = true := (sameB_iff A A).2 rfl
set_option maxRecDepth 100000 in
set_option maxHeartbeats 1600000 in
theorem diffs_law (F T : List Nat) (nf nt : Nat) (hF : Bytes F) (hT : Bytes T) (hnf : F.length = nf) (hnt : T.length = nt) (mf : nf ≤ 140737488351232) (mt : nt ≤ 140737488351232) (a b : Option Addr) (kf kt : Nat) (w : World)
    (RF : Row w a F) (RT : Row w b T) (tab : Tab w) :
    Calls Tryd.prog 5 #[.slice a nf kf, .slice b nt kt] w fun e w' => e = .returned (.bool true) ∧ Below w.heap.size w w' := by
  have HN : Hid (F.length = nf ∧ T.length = nt) := ⟨hnf, hnt⟩
  have HB : Hid (Bytes F ∧ Bytes T) := ⟨hF, hT⟩
  have HR : Hid (∀ W, Below w.heap.size w W → Row W a F ∧ Row W b T ∧ Tab W) := fun W h => ⟨RF.below h, RT.below h, tab.below tab.lt h⟩
  have HBW : Hid (Below w.heap.size w w) := Below.refl _ _
  clear hF hT hnf hnt RF RT tab
  by_cases h : 65536 < nf ∨ 65536 < nt
  · go_enter Tryd.func5, Tryd.ntmps5
    go_wp2_with fail
    refine (diff_long F T nf nt h mf mt a b kf kt w).mono ?_
    rintro e w1 ⟨rfl, rfl⟩
    go_wp2_with fail
    refine (rdiff_long F T nf nt h mf mt a b kf kt w1).mono ?_
    rintro e w2 ⟨rfl, rfl⟩
    go_wp2_with fail
    refine (same_any [] [] 0 0 (fun x hx => by cases hx) (fun x hx => by cases hx) rfl rfl (by decide) none none 0 0 w2 (.inl rfl) (.inl rfl)).mono ?_
    rintro e w3 ⟨rfl, b3⟩
    rw [sameB_self]
    go_wp2
    go_ret
    exact ⟨rfl, b3⟩
  · have hl : nf ≤ 65536 ∧ nt ≤ 65536 := by omega
    have HBD : Hid (Bytes (diffL F T)) := diffL_bytes HB.out.1 HB.out.2
    have HLD : Hid ((diffL F T).length ≤ 65560) := (diffL_len (by rw [HN.out.1]; exact hl.1) (by rw [HN.out.2]; exact hl.2)).2
    go_enter Tryd.func5, Tryd.ntmps5
    go_wp2_with fail
    refine (diff_any F T nf nt HB.out.1 HB.out.2 HN.out.1 HN.out.2 hl.1 hl.2 a b kf kt w (HR.out _ HBW.out).1 (HR.out _ HBW.out).2.1 (HR.out _ HBW.out).2.2).mono ?_
    rintro e w1 ⟨x1, rfl, X1, b1⟩
    go_wp2_with fail
    refine (rdiff_any F T nf nt HB.out.1 HB.out.2 HN.out.1 HN.out.2 hl.1 hl.2 a b kf kt w1 (HR.out _ b1).1 (HR.out _ b1).2.1).mono ?_
    rintro e w2 ⟨x2, rfl, X2, b2⟩
    have B2 : Below w.heap.size w w2 := b1.trans (b2.mono b1.size)
    have X1' := X1.on b2
    obtain ⟨a1, k1, rfl, hk1, r1, p1⟩ := X1'.full
    obtain ⟨a2, k2, rfl, hk2, r2, p2⟩ := X2.full
    go_wp2_with fail
    refine (same_any (diffL F T) (diffL F T) _ _ HBD.out HBD.out rfl rfl (by have := HLD.out; omega) a1 a2 k1 k2 w2 r1.row r2.row).mono ?_
    rintro e w3 ⟨rfl, b3⟩
    rw [sameB_self]
    go_wp2
    go_ret
    exact ⟨rfl, B2.trans (b3.mono B2.size)⟩
end Go.Proofs.YtbgikffoidaamaaDoor
