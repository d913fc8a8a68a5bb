/-
  A cache that there is not.
-/
import Derived.Test.YtpnalcbpdejpjaaXcArg
import Derived.Test.YtpnalcbpdejpjaaXcBase
import Derived.Laws.MakeOwn
import Derived.Carry
set_option linter.unusedSimpArgs false
set_option linter.unusedVariables false
namespace Go.Proofs.Ytpnalcbpdejpjaa
open Go.RowKit Classical
set_option maxRecDepth 100000 in
set_option maxHeartbeats 2000000 in
theorem size_nil (w : World) :
    Calls Try.prog 36 #[.pointer none] w fun e w' => e = .returned (.int .i64 0) ∧ Below w.heap.size w w' := by
  go_enter Try.func36, Try.ntmps36
  go_wp2
  go_ret
  exact ⟨rfl, (Below.refl _ _)⟩
set_option maxRecDepth 100000 in
set_option maxHeartbeats 2000000 in
theorem len_nil (w : World) :
    Calls Try.prog 15 #[.pointer none] w fun e w' => e = .returned (.int .i64 0) ∧ Below w.heap.size w w' := by
  go_enter Try.func15, Try.ntmps15
  go_wp2
  go_ret
  exact ⟨rfl, (Below.refl _ _)⟩
set_option maxRecDepth 100000 in
set_option maxHeartbeats 2000000 in
theorem flush_nil (w : World) :
    Calls Try.prog 21 #[.pointer none] w fun e w' => e = .returned (.int .i64 0) ∧ Below w.heap.size w w' := by
  go_enter Try.func21, Try.ntmps21
  go_wp2
  go_ret
  exact ⟨rfl, (Below.refl _ _)⟩
set_option maxRecDepth 100000 in
set_option maxHeartbeats 2000000 in
theorem keys_nil (w : World) :
    Calls Try.prog 16 #[.pointer none] w fun e w' => e = .returned (.slice none 0 0) ∧ Below w.heap.size w w' := by
  go_enter Try.func16, Try.ntmps16
  go_wp2
  go_ret
  exact ⟨rfl, (Below.refl _ _)⟩
set_option maxRecDepth 100000 in
set_option maxHeartbeats 2000000 in
theorem marked_nil (p : Int) (w : World) :
    Calls Try.prog 20 #[.pointer none, .int .i64 p] w fun e w' => e = .returned (.bool false) ∧ Below w.heap.size w w' := by
  go_enter Try.func20, Try.ntmps20
  go_wp2
  go_ret
  exact ⟨rfl, (Below.refl _ _)⟩
set_option maxRecDepth 100000 in
set_option maxHeartbeats 2000000 in
theorem page_any (w : World) :
    Calls Try.prog 47 #[.int .i64 3] w fun e w' => e = .returned (.int .i64 0) ∧ Below w.heap.size w w' := by
  go_enter Try.func47, Try.ntmps47
  go_wp2
  go_ret
  exact ⟨rfl, (Below.refl _ _)⟩
set_option maxRecDepth 100000 in
set_option maxHeartbeats 2000000 in
theorem store_nil (w : World) :
    Calls Try.prog 19 #[.pointer none, .int .i64 3] w fun e w' => e = .returned (.slice none 0 0) ∧ Below w.heap.size w w' := by
  go_enter Try.func19, Try.ntmps19
  go_wp2_with (first | (go_at_call 47; go_must (refine (page_any _).mono ?_; rintro e W1 ⟨rfl, hb1⟩)) | (go_at_call 20; go_must (refine (marked_nil _ _).mono ?_; rintro e W2 ⟨rfl, hb2⟩)))
  go_ret
  exact ⟨rfl, ((((Below.refl _ _).alloc (Nat.le_refl _) _).trans (hb1.mono (by simp))).trans (hb2.mono (Nat.le_trans (by simp) hb1.size)))⟩
set_option maxRecDepth 100000 in
set_option maxHeartbeats 2000000 in
theorem put_nil (pc tag place : Int) (s : ByteArray) (ni lo hi : Int) (w : World) :
    Calls Try.prog 12 #[.pointer none, .agg #[.int .u16 pc, .int .i64 tag, .string s, .int .i64 ni, .slice none 0 0, .int .i64 lo, .int .i64 hi], .int .i64 place] w fun e w' => e = .returned (.tuple #[.agg #[.int .u16 0, .int .i64 0], .bool false]) ∧ Below w.heap.size w w' := by
  go_enter Try.func12, Try.ntmps12
  go_upto_region 1 with fail
  have hb0 : Below w.heap.size w ((w.alloc (.cells #[.int .u16 pc, .int .i64 tag, .string s, .int .i64 ni, .slice none 0 0, .int .i64 lo, .int .i64 hi] 34)).alloc (.cells #[.int .u16 0, .int .i64 0] 24)) := ((Below.refl _ _).alloc (Nat.le_refl _) _).alloc (by simp) _
  have z0 : Blk ((w.alloc (.cells #[.int .u16 pc, .int .i64 tag, .string s, .int .i64 ni, .slice none 0 0, .int .i64 lo, .int .i64 hi] 34)).alloc (.cells #[.int .u16 0, .int .i64 0] 24)) (w.heap.size + 1) #[.int .u16 0, .int .i64 0] 24 := by
    have := Blk.new (w.alloc (.cells #[.int .u16 pc, .int .i64 tag, .string s, .int .i64 ni, .slice none 0 0, .int .i64 lo, .int .i64 hi] 34)) #[.int .u16 0, .int .i64 0] 24
    simpa using this
  generalize (w.alloc (.cells #[.int .u16 pc, .int .i64 tag, .string s, .int .i64 ni, .slice none 0 0, .int .i64 lo, .int .i64 hi] 34)).alloc (.cells #[.int .u16 0, .int .i64 0] 24) = W0 at *
  go_upto_region 2 with (go_at_call 36; go_must (refine (size_nil _).mono ?_; rintro e W1 ⟨rfl, hb1⟩))
  have z1 := z0.below z0.lt hb1
  have hb2 := hb0.trans (hb1.mono hb0.size)
  clear z0 hb0 hb1
  go_wp2_with (refine wpList_store_blk rfl 24 _ _ rfl (w.heap.size + 1) #[.int .u16 0, .int .i64 0] #[.int .u16 0, .int .i64 0] 24 rfl rfl z1 rfl (by kernel_rfl) (by kernel_rfl) w.heap.size w (by omega) hb2 ?_; intro w5 z2 hb5 _)
  refine ret_agg2 (m := w.heap.size + 1) (L := #[.int .u16 0, .int .i64 0]) (x := .bool false) Try.results12 (by kernel_rfl) (by kernel_rfl) (by kernel_rfl) z2 Try.underlying24 rfl (by kernel_rfl) ?_
  exact ⟨rfl, hb5⟩
set_option maxRecDepth 100000 in
set_option maxHeartbeats 2000000 in
theorem get_nil (pc tag : Int) (w : World) :
    Calls Try.prog 13 #[.pointer none, .agg #[.int .u16 pc, .int .i64 tag]] w fun e w' => e = .returned (.tuple #[.agg #[.int .u16 0, .int .i64 0, .string ⟨#[]⟩, .int .i64 0, .slice none 0 0, .int .i64 0, .int .i64 0], .bool false]) ∧ Below w.heap.size w w' := by
  go_enter Try.func13, Try.ntmps13
  go_upto_region 1 with fail
  have hb0 : Below w.heap.size w ((w.alloc (.cells #[.int .u16 pc, .int .i64 tag] 24)).alloc (.cells #[.int .u16 0, .int .i64 0, .string ⟨#[]⟩, .int .i64 0, .slice none 0 0, .int .i64 0, .int .i64 0] 34)) := ((Below.refl _ _).alloc (Nat.le_refl _) _).alloc (by simp) _
  have z0 : Blk ((w.alloc (.cells #[.int .u16 pc, .int .i64 tag] 24)).alloc (.cells #[.int .u16 0, .int .i64 0, .string ⟨#[]⟩, .int .i64 0, .slice none 0 0, .int .i64 0, .int .i64 0] 34)) (w.heap.size + 1) #[.int .u16 0, .int .i64 0, .string ⟨#[]⟩, .int .i64 0, .slice none 0 0, .int .i64 0, .int .i64 0] 34 := by
    have := Blk.new (w.alloc (.cells #[.int .u16 pc, .int .i64 tag] 24)) #[.int .u16 0, .int .i64 0, .string ⟨#[]⟩, .int .i64 0, .slice none 0 0, .int .i64 0, .int .i64 0] 34
    simpa using this
  generalize (w.alloc (.cells #[.int .u16 pc, .int .i64 tag] 24)).alloc (.cells #[.int .u16 0, .int .i64 0, .string ⟨#[]⟩, .int .i64 0, .slice none 0 0, .int .i64 0, .int .i64 0] 34) = W0 at *
  go_upto_region 2 with (go_at_call 36; go_must (refine (size_nil _).mono ?_; rintro e W1 ⟨rfl, hb1⟩))
  have z1 := z0.below z0.lt hb1
  have hb2 := hb0.trans (hb1.mono hb0.size)
  clear z0 hb0 hb1
  go_wp2_with (refine wpList_store_blk rfl 34 _ _ rfl (w.heap.size + 1) #[.int .u16 0, .int .i64 0, .string ⟨#[]⟩, .int .i64 0, .slice none 0 0, .int .i64 0, .int .i64 0] #[.int .u16 0, .int .i64 0, .string ⟨#[]⟩, .int .i64 0, .slice none 0 0, .int .i64 0, .int .i64 0] 34 rfl rfl z1 rfl (by kernel_rfl) (by kernel_rfl) w.heap.size w (by omega) hb2 ?_; intro w5 z2 hb5 _)
  refine ret_agg2 (m := w.heap.size + 1) (L := #[.int .u16 0, .int .i64 0, .string ⟨#[]⟩, .int .i64 0, .slice none 0 0, .int .i64 0, .int .i64 0]) (x := .bool false) Try.results13 (by kernel_rfl) (by kernel_rfl) (by kernel_rfl) z2 Try.underlying34 rfl (by kernel_rfl) ?_
  exact ⟨rfl, hb5⟩
set_option maxRecDepth 100000 in
set_option maxHeartbeats 2000000 in
theorem new_none (w : World) :
    Calls Try.prog 11 #[.int .i64 0] w fun e w' => e = .returned (.tuple #[.pointer none, .int .i64 140]) ∧ Below w.heap.size w w' := by
  go_enter Try.func11, Try.ntmps11
  go_wp2
  go_ret2
  exact ⟨rfl, Below.refl _ _⟩
theorem made_zeroI (n : Nat) : (madeCells (Value.int .i64 0).cells (n * 1)).toList = List.replicate n (.int .i64 0) := by
  apply List.ext_getElem
  · simp [madeCells]
  · intro i h1 h2
    simp [madeCells, Value.cells, Nat.mod_one]
theorem results_cell {fn : Func} {p : Tmp} {ty : TypeId} (h : fn.results = #[.cell p ty]) (tmps : Array Value) (P : Program) (w : World) :
    (results fn tmps).run P w = ((asAddr (tmps.getD p undef)).run P w).andThen fun a w₁ => (loadVar ty a).run P w₁ := by
  simp only [results, h]
  simp [Sem.run_bind, Result.andThen]
theorem ret_agg1 {P : Program} {fn : Func} {R : Ending → World → Prop} {ac : Act} {w : World} {p : Tmp} {ty : TypeId} {m : Nat} {L : Array Value} {d : TypeDesc} {t : TypeId} (h : fn.results = #[.cell p ty]) (hp : ac.tmps.getD p undef = .pointer (some ⟨m, 0, none⟩)) (hdf : ac.defers = [])
    (hb : Blk w m L t) (hu : P.underlying ty = some d) (hd : d.isRow = true) (hi : (P.info? ty).map (·.size) = some L.size) (hR : R (.returned (.agg L)) w) : bodyPost P fn R .ret ac w := by
  refine bodyPost_ret (v := .agg L) ?_ hdf hR
  rw [results_cell h]
  show ((asAddr (ac.tmps.getD p undef)).run P w).andThen _ = _
  rw [hp]
  have hr := run_loadVar_mid (P := P) w m 0 ty L.toList d hb.range' hu hd (by rw [Array.length_toList]; exact hi)
  simp only [asAddr, Sem.run_pure, Result.andThen_ok]
  rw [hr]
theorem Try.infoInt : (Try.prog.info? 3).map (fun i => (i.zero, i.size, i.bytes)) = some (some (.int .i64 0), 1, 8) := by kernel_rfl
set_option maxRecDepth 100000 in
set_option maxHeartbeats 2000000 in
theorem newSlots_any (n : Nat) (h1 : 1 ≤ n) (h2 : n ≤ 65536) (w : World) :
    Calls Try.prog 35 #[.int .i64 (n : Nat)] w fun e w' => ∃ v, e = .returned (.agg #[v, .slice none 0 0]) ∧ w'.ownsRow (w.heap.size + 1) 3 1 v n (List.replicate n (.int .i64 0)) ∧ Below w.heap.size w w' := by
  obtain ⟨i0, hi, hz0, hz1, hz2⟩ := info_parts Try.infoInt
  go_enter Try.func35, Try.ntmps35
  go_upto_region 1 with fail
  have hb0 : Below w.heap.size w (w.alloc (.cells #[.slice none 0 0, .slice none 0 0] 79)) := (Below.refl _ _).alloc (Nat.le_refl _) _
  have z0 : Blk (w.alloc (.cells #[.slice none 0 0, .slice none 0 0] 79)) w.heap.size #[.slice none 0 0, .slice none 0 0] 79 := Blk.new w _ _
  have hs0 : (w.alloc (.cells #[.slice none 0 0, .slice none 0 0] 79)).heap.size = w.heap.size + 1 := by simp
  generalize w.alloc (.cells #[.slice none 0 0, .slice none 0 0] 79) = W0 at *
  go_wp2_with (first
    | (at_make; refine wpList_make_full _ rfl _ _ 76 rfl W0.heap.size 3 i0 (.int .i64 0) 1 Try.underlying76 hi hz0 hz1 .i64 .i64 _ _ n rfl rfl rfl rfl (by rw [hz2]; omega) (by unfold maxLen; omega) (Nat.le_refl _) ?_; intro w1 hown hgrow; have hb1 := (Below.refl W0.heap.size W0).grown hgrow (Nat.le_refl _) (by simp); have z1 := z0.below z0.lt hb1; have hb2 := hb0.trans (hb1.mono hb0.size); clear hgrow hb1)
    | (refine wpList_store_blk rfl 79 _ _ rfl w.heap.size #[.slice none 0 0, .slice none 0 0] #[.slice (some ⟨w.heap.size + 1, 0, none⟩) n n, .slice none 0 0] 79 rfl rfl z1 rfl (by kernel_rfl) (by kernel_rfl) w.heap.size w (Nat.le_refl _) hb2 ?_; intro w5 z5 hb5 hk5))
  refine ret_agg1 (m := w.heap.size) (L := #[.slice (some ⟨w.heap.size + 1, 0, none⟩) n n, .slice none 0 0]) Try.results35 (by kernel_rfl) (by kernel_rfl) z5 Try.underlying79 rfl (by kernel_rfl) ?_
  refine ⟨_, rfl, ?_, hb5⟩
  rw [hs0] at hown
  rw [show (madeCells (Value.int .i64 0).cells (n * 1)).toList = List.replicate n (.int .i64 0) from made_zeroI n] at hown
  rcases hown with ⟨h1, h2⟩
  refine ⟨h1, ?_⟩
  rcases h2 with ⟨e, _⟩ | ⟨g, cap, cur, e, hg, hh, h3, h4, h5, h6⟩
  · cases e
  · cases e
    exact .inr ⟨_, _, cur, rfl, hg, hk5 _ cur _ (by omega) hh, h3, h4, h5, h6⟩
/-- What New makes: a cache of n empty slots. -/
def NewOk (w : World) (n : Nat) (e : Ending) (w' : World) : Prop := ∃ q v m, e = .returned (.tuple #[.pointer (some ⟨q, 0, none⟩), .int .i64 0]) ∧ Blk w' q #[v, .slice none 0 0, .map (some m)] 88 ∧ w'.ownsRow w.heap.size 3 1 v n (List.replicate n (.int .i64 0)) ∧ w'.heap[m]? = some (.map #[] 0) ∧ w.heap.size ≤ m ∧ w.heap.size ≤ q ∧ Below w.heap.size w w'
set_option maxRecDepth 100000 in
set_option maxHeartbeats 2000000 in
theorem new_any (n : Nat) (h1 : 1 ≤ n) (h2 : n ≤ 65536) (w : World) : Calls Try.prog 11 #[.int .i64 (n : Nat)] w fun e w' => NewOk w n e w' := by
  have NS : Hid (∀ W, Calls _ _ _ W _) := fun W => newSlots_any n h1 h2 W
  have h1i : ¬ (n : Int) < 1 := by omega
  have h2i : ¬ 65536 < (n : Int) := by omega
  have mm : ∀ W : World, (Instr.makeMap 86 none).run Try.prog W = .ok (.map (some W.heap.size)) (W.alloc (.map #[] 0)) := fun W => run_makeMap _ W
  go_enter Try.func11, Try.ntmps11
  go_upto_region 3 with fail
  go_wp2_with (go_at_call 35; go_must (refine (NS.out _).mono ?_; rintro e W1 ⟨v, rfl, r1, hb1⟩; obtain ⟨g, k, rfl⟩ := orow_some r1 (by omega)))
  go_ret2
  have a1 : (W1.alloc (.map #[] 0)).heap[W1.heap.size]? = some (.map #[] 0) := heap_alloc_new W1 _
  have z1 : Blk ((W1.alloc (.map #[] 0)).alloc (.cells #[.slice (some ⟨g, 0, none⟩) n k, .slice none 0 0, .map (some W1.heap.size)] 88)) (W1.heap.size + 1) #[.slice (some ⟨g, 0, none⟩) n k, .slice none 0 0, .map (some W1.heap.size)] 88 := by
    have := Blk.new (W1.alloc (.map #[] 0)) #[.slice (some ⟨g, 0, none⟩) n k, .slice none 0 0, .map (some W1.heap.size)] 88
    simpa using this
  refine ⟨_, _, _, rfl, z1, ?_, (Below.heap_alloc _ _ _ (by simp)).trans a1, hb1.size, ?_, ((hb1.alloc hb1.size _).alloc ?_ _)⟩
  · exact orow_lower (World.ownsRow.alloc (World.ownsRow.alloc r1 _) _) (by omega)
  · have := hb1.size; first | omega | (simp; omega)
  · have := hb1.size; first | omega | (simp; omega)
end Go.Proofs.Ytpnalcbpdejpjaa
