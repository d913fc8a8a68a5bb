/-
  The closures of the loads, the transfers and the counts.
-/
import Derived.Test.YtgnhaicogdnebaaDoorATold
namespace Go.Proofs.YtgnhaicogdnebaaDoor
open Go.RowKit
theorem load1 (a x y s m : Int) (F : Fl) (w : World) :
    Calls Tryd.prog 40 #[.agg #[.int .u8 a, .int .u8 x, .int .u8 y, .int .u8 s, .int .u8 (F.val : Nat), .int .u8 m]] w fun e w' => e = .returned (.agg #[.int .u8 (m), .int .u8 (x), .int .u8 (y), .int .u8 (s), .int .u8 ((nzF (m) F).val : Nat), .int .u8 (m)]) ∧ Below w.heap.size w w' := by
  go_enter Tryd.func40, Tryd.ntmps40
  go_wp2_with (go_at_call 41; refine (told_any _ _ _ _ _ _ _ _).mono ?_; rintro e w1 ⟨rfl, hb1⟩; obtain ⟨hc1, hf1⟩ := bcell hb1)
  refine bodyPost_ret (v := .agg #[.int .u8 (m), .int .u8 (x), .int .u8 (y), .int .u8 (s), .int .u8 ((nzF (m) F).val : Nat), .int .u8 (m)]) (by simp [results, Tryd.results40, go_sem, hc1]) rfl ⟨rfl, ?_⟩
  clear hc1 hf1
  have hs := hb1.size
  simp at hs
  repeat (refine Below.setCell ?_ (by simp) _)
  exact (((Below.refl _ _).alloc (Nat.le_refl _) _).alloc (by simp) _).trans (hb1.mono (by simp; omega))
theorem load2 (a x y s m : Int) (F : Fl) (w : World) :
    Calls Tryd.prog 42 #[.agg #[.int .u8 a, .int .u8 x, .int .u8 y, .int .u8 s, .int .u8 (F.val : Nat), .int .u8 m]] w fun e w' => e = .returned (.agg #[.int .u8 (a), .int .u8 (m), .int .u8 (y), .int .u8 (s), .int .u8 ((nzF (m) F).val : Nat), .int .u8 (m)]) ∧ Below w.heap.size w w' := by
  go_enter Tryd.func42, Tryd.ntmps42
  go_wp2_with (go_at_call 41; refine (told_any _ _ _ _ _ _ _ _).mono ?_; rintro e w1 ⟨rfl, hb1⟩; obtain ⟨hc1, hf1⟩ := bcell hb1)
  refine bodyPost_ret (v := .agg #[.int .u8 (a), .int .u8 (m), .int .u8 (y), .int .u8 (s), .int .u8 ((nzF (m) F).val : Nat), .int .u8 (m)]) (by simp [results, Tryd.results42, go_sem, hc1]) rfl ⟨rfl, ?_⟩
  clear hc1 hf1
  have hs := hb1.size
  simp at hs
  repeat (refine Below.setCell ?_ (by simp) _)
  exact (((Below.refl _ _).alloc (Nat.le_refl _) _).alloc (by simp) _).trans (hb1.mono (by simp; omega))
theorem load3 (a x y s m : Int) (F : Fl) (w : World) :
    Calls Tryd.prog 43 #[.agg #[.int .u8 a, .int .u8 x, .int .u8 y, .int .u8 s, .int .u8 (F.val : Nat), .int .u8 m]] w fun e w' => e = .returned (.agg #[.int .u8 (a), .int .u8 (x), .int .u8 (m), .int .u8 (s), .int .u8 ((nzF (m) F).val : Nat), .int .u8 (m)]) ∧ Below w.heap.size w w' := by
  go_enter Tryd.func43, Tryd.ntmps43
  go_wp2_with (go_at_call 41; refine (told_any _ _ _ _ _ _ _ _).mono ?_; rintro e w1 ⟨rfl, hb1⟩; obtain ⟨hc1, hf1⟩ := bcell hb1)
  refine bodyPost_ret (v := .agg #[.int .u8 (a), .int .u8 (x), .int .u8 (m), .int .u8 (s), .int .u8 ((nzF (m) F).val : Nat), .int .u8 (m)]) (by simp [results, Tryd.results43, go_sem, hc1]) rfl ⟨rfl, ?_⟩
  clear hc1 hf1
  have hs := hb1.size
  simp at hs
  repeat (refine Below.setCell ?_ (by simp) _)
  exact (((Below.refl _ _).alloc (Nat.le_refl _) _).alloc (by simp) _).trans (hb1.mono (by simp; omega))
theorem load4 (a x y s m : Int) (F : Fl) (w : World) :
    Calls Tryd.prog 44 #[.agg #[.int .u8 a, .int .u8 x, .int .u8 y, .int .u8 s, .int .u8 (F.val : Nat), .int .u8 m]] w fun e w' => e = .returned (.agg #[.int .u8 (m), .int .u8 (m), .int .u8 (y), .int .u8 (s), .int .u8 ((nzF (m) F).val : Nat), .int .u8 (m)]) ∧ Below w.heap.size w w' := by
  go_enter Tryd.func44, Tryd.ntmps44
  go_wp2_with (go_at_call 41; refine (told_any _ _ _ _ _ _ _ _).mono ?_; rintro e w1 ⟨rfl, hb1⟩; obtain ⟨hc1, hf1⟩ := bcell hb1)
  refine bodyPost_ret (v := .agg #[.int .u8 (m), .int .u8 (m), .int .u8 (y), .int .u8 (s), .int .u8 ((nzF (m) F).val : Nat), .int .u8 (m)]) (by simp [results, Tryd.results44, go_sem, hc1]) rfl ⟨rfl, ?_⟩
  clear hc1 hf1
  have hs := hb1.size
  simp at hs
  repeat (refine Below.setCell ?_ (by simp) _)
  exact (((Below.refl _ _).alloc (Nat.le_refl _) _).alloc (by simp) _).trans (hb1.mono (by simp; omega))
theorem load5 (a x y s m : Int) (F : Fl) (w : World) :
    Calls Tryd.prog 45 #[.agg #[.int .u8 a, .int .u8 x, .int .u8 y, .int .u8 s, .int .u8 (F.val : Nat), .int .u8 m]] w fun e w' => e = .returned (.agg #[.int .u8 (bits .and .u8 s m), .int .u8 (bits .and .u8 s m), .int .u8 (y), .int .u8 (bits .and .u8 s m), .int .u8 ((nzF (bits .and .u8 s m) F).val : Nat), .int .u8 (m)]) ∧ Below w.heap.size w w' := by
  go_enter Tryd.func45, Tryd.ntmps45
  go_wp2_with (go_at_call 41; refine (told_any _ _ _ _ _ _ _ _).mono ?_; rintro e w1 ⟨rfl, hb1⟩; obtain ⟨hc1, hf1⟩ := bcell hb1)
  refine bodyPost_ret (v := .agg #[.int .u8 (bits .and .u8 s m), .int .u8 (bits .and .u8 s m), .int .u8 (y), .int .u8 (bits .and .u8 s m), .int .u8 ((nzF (bits .and .u8 s m) F).val : Nat), .int .u8 (m)]) (by simp [results, Tryd.results45, go_sem, hc1]) rfl ⟨rfl, ?_⟩
  clear hc1 hf1
  have hs := hb1.size
  simp at hs
  repeat (refine Below.setCell ?_ (by simp) _)
  exact (((Below.refl _ _).alloc (Nat.le_refl _) _).alloc (by simp) _).trans (hb1.mono (by simp; omega))
theorem transfer1 (a x y s m : Int) (F : Fl) (w : World) :
    Calls Tryd.prog 47 #[.agg #[.int .u8 a, .int .u8 x, .int .u8 y, .int .u8 s, .int .u8 (F.val : Nat), .int .u8 m]] w fun e w' => e = .returned (.agg #[.int .u8 (a), .int .u8 (a), .int .u8 (y), .int .u8 (s), .int .u8 ((nzF (a) F).val : Nat), .int .u8 (m)]) ∧ Below w.heap.size w w' := by
  go_enter Tryd.func47, Tryd.ntmps47
  go_wp2_with (go_at_call 41; refine (told_any _ _ _ _ _ _ _ _).mono ?_; rintro e w1 ⟨rfl, hb1⟩; obtain ⟨hc1, hf1⟩ := bcell hb1)
  refine bodyPost_ret (v := .agg #[.int .u8 (a), .int .u8 (a), .int .u8 (y), .int .u8 (s), .int .u8 ((nzF (a) F).val : Nat), .int .u8 (m)]) (by simp [results, Tryd.results47, go_sem, hc1]) rfl ⟨rfl, ?_⟩
  clear hc1 hf1
  have hs := hb1.size
  simp at hs
  repeat (refine Below.setCell ?_ (by simp) _)
  exact (((Below.refl _ _).alloc (Nat.le_refl _) _).alloc (by simp) _).trans (hb1.mono (by simp; omega))
theorem transfer2 (a x y s m : Int) (F : Fl) (w : World) :
    Calls Tryd.prog 48 #[.agg #[.int .u8 a, .int .u8 x, .int .u8 y, .int .u8 s, .int .u8 (F.val : Nat), .int .u8 m]] w fun e w' => e = .returned (.agg #[.int .u8 (a), .int .u8 (x), .int .u8 (a), .int .u8 (s), .int .u8 ((nzF (a) F).val : Nat), .int .u8 (m)]) ∧ Below w.heap.size w w' := by
  go_enter Tryd.func48, Tryd.ntmps48
  go_wp2_with (go_at_call 41; refine (told_any _ _ _ _ _ _ _ _).mono ?_; rintro e w1 ⟨rfl, hb1⟩; obtain ⟨hc1, hf1⟩ := bcell hb1)
  refine bodyPost_ret (v := .agg #[.int .u8 (a), .int .u8 (x), .int .u8 (a), .int .u8 (s), .int .u8 ((nzF (a) F).val : Nat), .int .u8 (m)]) (by simp [results, Tryd.results48, go_sem, hc1]) rfl ⟨rfl, ?_⟩
  clear hc1 hf1
  have hs := hb1.size
  simp at hs
  repeat (refine Below.setCell ?_ (by simp) _)
  exact (((Below.refl _ _).alloc (Nat.le_refl _) _).alloc (by simp) _).trans (hb1.mono (by simp; omega))
theorem transfer3 (a x y s m : Int) (F : Fl) (w : World) :
    Calls Tryd.prog 49 #[.agg #[.int .u8 a, .int .u8 x, .int .u8 y, .int .u8 s, .int .u8 (F.val : Nat), .int .u8 m]] w fun e w' => e = .returned (.agg #[.int .u8 (x), .int .u8 (x), .int .u8 (y), .int .u8 (s), .int .u8 ((nzF (x) F).val : Nat), .int .u8 (m)]) ∧ Below w.heap.size w w' := by
  go_enter Tryd.func49, Tryd.ntmps49
  go_wp2_with (go_at_call 41; refine (told_any _ _ _ _ _ _ _ _).mono ?_; rintro e w1 ⟨rfl, hb1⟩; obtain ⟨hc1, hf1⟩ := bcell hb1)
  refine bodyPost_ret (v := .agg #[.int .u8 (x), .int .u8 (x), .int .u8 (y), .int .u8 (s), .int .u8 ((nzF (x) F).val : Nat), .int .u8 (m)]) (by simp [results, Tryd.results49, go_sem, hc1]) rfl ⟨rfl, ?_⟩
  clear hc1 hf1
  have hs := hb1.size
  simp at hs
  repeat (refine Below.setCell ?_ (by simp) _)
  exact (((Below.refl _ _).alloc (Nat.le_refl _) _).alloc (by simp) _).trans (hb1.mono (by simp; omega))
theorem transfer4 (a x y s m : Int) (F : Fl) (w : World) :
    Calls Tryd.prog 50 #[.agg #[.int .u8 a, .int .u8 x, .int .u8 y, .int .u8 s, .int .u8 (F.val : Nat), .int .u8 m]] w fun e w' => e = .returned (.agg #[.int .u8 (y), .int .u8 (x), .int .u8 (y), .int .u8 (s), .int .u8 ((nzF (y) F).val : Nat), .int .u8 (m)]) ∧ Below w.heap.size w w' := by
  go_enter Tryd.func50, Tryd.ntmps50
  go_wp2_with (go_at_call 41; refine (told_any _ _ _ _ _ _ _ _).mono ?_; rintro e w1 ⟨rfl, hb1⟩; obtain ⟨hc1, hf1⟩ := bcell hb1)
  refine bodyPost_ret (v := .agg #[.int .u8 (y), .int .u8 (x), .int .u8 (y), .int .u8 (s), .int .u8 ((nzF (y) F).val : Nat), .int .u8 (m)]) (by simp [results, Tryd.results50, go_sem, hc1]) rfl ⟨rfl, ?_⟩
  clear hc1 hf1
  have hs := hb1.size
  simp at hs
  repeat (refine Below.setCell ?_ (by simp) _)
  exact (((Below.refl _ _).alloc (Nat.le_refl _) _).alloc (by simp) _).trans (hb1.mono (by simp; omega))
theorem transfer5 (a x y s m : Int) (F : Fl) (w : World) :
    Calls Tryd.prog 51 #[.agg #[.int .u8 a, .int .u8 x, .int .u8 y, .int .u8 s, .int .u8 (F.val : Nat), .int .u8 m]] w fun e w' => e = .returned (.agg #[.int .u8 (a), .int .u8 (s), .int .u8 (y), .int .u8 (s), .int .u8 ((nzF (s) F).val : Nat), .int .u8 (m)]) ∧ Below w.heap.size w w' := by
  go_enter Tryd.func51, Tryd.ntmps51
  go_wp2_with (go_at_call 41; refine (told_any _ _ _ _ _ _ _ _).mono ?_; rintro e w1 ⟨rfl, hb1⟩; obtain ⟨hc1, hf1⟩ := bcell hb1)
  refine bodyPost_ret (v := .agg #[.int .u8 (a), .int .u8 (s), .int .u8 (y), .int .u8 (s), .int .u8 ((nzF (s) F).val : Nat), .int .u8 (m)]) (by simp [results, Tryd.results51, go_sem, hc1]) rfl ⟨rfl, ?_⟩
  clear hc1 hf1
  have hs := hb1.size
  simp at hs
  repeat (refine Below.setCell ?_ (by simp) _)
  exact (((Below.refl _ _).alloc (Nat.le_refl _) _).alloc (by simp) _).trans (hb1.mono (by simp; omega))
theorem transfer6 (a x y s m : Int) (F : Fl) (w : World) :
    Calls Tryd.prog 52 #[.agg #[.int .u8 a, .int .u8 x, .int .u8 y, .int .u8 s, .int .u8 (F.val : Nat), .int .u8 m]] w fun e w' => e = .returned (.agg #[.int .u8 (a), .int .u8 (x), .int .u8 (y), .int .u8 (x), .int .u8 ((F).val : Nat), .int .u8 (m)]) ∧ Below w.heap.size w w' := by
  go_enter Tryd.func52, Tryd.ntmps52
  go_wp2
  exact bodyPost_ret (v := .agg #[.int .u8 (a), .int .u8 (x), .int .u8 (y), .int .u8 (x), .int .u8 ((F).val : Nat), .int .u8 (m)]) (by simp [results, Tryd.results52, go_sem]) rfl ⟨rfl, ((Below.refl _ _).alloc (Nat.le_refl _) _).alloc (by simp) _⟩
end Go.Proofs.YtgnhaicogdnebaaDoor
