/-
  The law MapperValids returns true; conditions: the numbers of the board fit their kinds.
-/
import Derived.Test.YtecaipakaaongaaMRefV4
import Derived.Test.YtecaipakaaongaaMO
namespace Go.Proofs.Ytecaipakaaongaa
open Go.RowKit Classical
/-- What Valid answers. -/
def validB (b : Bd) : Bool := lst b.kind b.sub && (if b.kind = 0 then val0 b else if b.kind = 1 then val1 b else if b.kind = 2 then val2 b else if b.kind = 3 then val3 b else if b.kind = 4 then val4 b else val7 b)
theorem lst_kinds {k s : Int} (h : lst k s = true) : k = 0 ∨ k = 1 ∨ k = 2 ∨ k = 3 ∨ k = 4 ∨ k = 7 := by
  unfold lst at h
  by_cases h0 : k = 0
  · exact .inl h0
  by_cases h1 : k = 1
  · exact .inr (.inl h1)
  by_cases h2 : k = 2 ∨ k = 3 ∨ k = 7
  · omega
  by_cases h4 : k = 4
  · omega
  simp [h0, h1, h2, h4] at h
theorem validB_0 {b : Bd} (hk : b.kind = 0) : validB b = (lst b.kind b.sub && val0 b) := by simp [validB, hk]
theorem validB_1 {b : Bd} (hk : b.kind = 1) : validB b = (lst b.kind b.sub && val1 b) := by simp [validB, hk]
theorem validB_2 {b : Bd} (hk : b.kind = 2) : validB b = (lst b.kind b.sub && val2 b) := by simp [validB, hk]
theorem validB_3 {b : Bd} (hk : b.kind = 3) : validB b = (lst b.kind b.sub && val3 b) := by simp [validB, hk]
theorem validB_4 {b : Bd} (hk : b.kind = 4) : validB b = (lst b.kind b.sub && val4 b) := by simp [validB, hk]
theorem validB_7 {b : Bd} (hk : b.kind = 7) : validB b = (lst b.kind b.sub && val7 b) := by simp [validB, hk]
/-- What open answers, for Valid's sake. -/
theorem open_any (w : World) (b : Bd) (hr : b.r.length = 8) :
    Calls Try.prog 51 #[.agg b.cells] w fun e w' => Below w.heap.size w w' ∧ ((validB b = false ∧ e = .returned .nilIface) ∨ (validB b = true ∧ ∃ T m, e = .returned (.iface T (.pointer (some ⟨m, 0, none⟩))))) := by
  cases hl : lst b.kind b.sub
  · refine (open_none w b hr hl).mono ?_
    rintro e w' ⟨rfl, hb⟩
    exact ⟨hb, .inl ⟨by unfold validB; rw [hl, Bool.false_and], rfl⟩⟩
  have fin : ∀ (V : Bool) (E : validB b = (lst b.kind b.sub && V)) (T : TypeId) (C : Array Value) (t : TypeId) (e : Ending) (w' : World), (Below w.heap.size w w' ∧ (V = false → e = .returned .nilIface) ∧ (V = true → ∃ m, e = .returned (.iface T (.pointer (some ⟨m, 0, none⟩))) ∧ w.heap.size ≤ m ∧ Blk w' m C t)) → Below w.heap.size w w' ∧ ((validB b = false ∧ e = .returned .nilIface) ∨ (validB b = true ∧ ∃ T m, e = .returned (.iface T (.pointer (some ⟨m, 0, none⟩))))) := by
    rintro V E T C t e w' ⟨hb, h0, h1⟩
    rw [hl, Bool.true_and] at E
    refine ⟨hb, ?_⟩
    cases V
    · exact .inl ⟨E, h0 rfl⟩
    · obtain ⟨m, e1, _⟩ := h1 rfl
      exact .inr ⟨E, T, m, e1⟩
  rcases lst_kinds hl with hk | hk | hk | hk | hk | hk
  · exact (open_0 w b hr hk hl).mono fun e w' h => fin _ (validB_0 hk) _ _ _ e w' h
  · exact (open_1 w b hr hk hl).mono fun e w' h => fin _ (validB_1 hk) _ _ _ e w' h
  · exact (open_2 w b hr hk hl).mono fun e w' h => fin _ (validB_2 hk) _ _ _ e w' h
  · exact (open_3 w b hr hk hl).mono fun e w' h => fin _ (validB_3 hk) _ _ _ e w' h
  · exact (open_4 w b hr hk hl).mono fun e w' h => fin _ (validB_4 hk) _ _ _ e w' h
  · exact (open_7 w b hr hk hl).mono fun e w' h => fin _ (validB_7 hk) _ _ _ e w' h
set_option maxRecDepth 100000 in
theorem valid_any (w : World) (b : Bd) (hr : b.r.length = 8) :
    Calls Try.prog 42 #[.agg b.cells] w fun e w' => e = .returned (.bool (validB b)) ∧ Below w.heap.size w w' := by
  have C := isB b hr
  have OA := fun W => open_any W b hr
  generalize b.cells = cs at C OA
  have hsz := C.size
  have HS : Hid _ := hsz
  have HO : Hid _ := OA
  clear OA
  have q1 : ∀ (w : World) (T : TypeId) (x : Value), (binOp .neq 68 (.iface T x) .nilIface).run Try.prog w = .ok (.bool true) w := fun w T x => by
    have := run_equal_held_nil (P := Try.prog) w 68 T x (by kernel_rfl)
    simp only [binOp, Sem.run_bind, this, Result.andThen_ok, Sem.run_pure, Bool.not_false]
  have q0 : ∀ (w : World), (binOp .neq 68 .nilIface .nilIface).run Try.prog w = .ok (.bool false) w := fun w => by
    have := run_equal_nil_nil (P := Try.prog) w 68 (by kernel_rfl)
    simp only [binOp, Sem.run_bind, this, Result.andThen_ok, Sem.run_pure, Bool.not_true]
  go_enter Try.func42, Try.ntmps42
  go_upto_region 1 with fail
  have b0 : Blk (w.alloc (.cells cs 37)) w.heap.size cs 37 := Blk.new w cs _
  have hb0 : Below w.heap.size w (w.alloc (.cells cs 37)) := (Below.refl _ _).alloc (Nat.le_refl _) _
  generalize w.alloc (.cells cs 37) = W0 at *
  clear C hsz
  go_wp2_with (refine wpList_load_mid rfl 37 _ rfl w.heap.size 0 rfl cs.toList _ b0.range Try.underlying37 rfl (by rw [Array.length_toList, HS.out]; exact Try.infoBoard) ?_)
  refine (HO.out W0).mono ?_
  rintro e W1 ⟨hb1', h⟩
  have hb1 : Below w.heap.size w W1 := hb0.trans (hb1'.mono hb0.size)
  clear hb1' hb0 b0
  rcases h with ⟨E, rfl⟩ | ⟨E, T, m, rfl⟩
  · have EH : Hid (validB b = false) := E
    clear E
    go_wp2
    go_ret
    exact ⟨by rw [EH.out]; rfl, hb1⟩
  · have EH : Hid (validB b = true) := E
    clear E
    go_wp2
    go_ret
    exact ⟨by rw [EH.out]; rfl, hb1⟩
end Go.Proofs.Ytecaipakaaongaa
