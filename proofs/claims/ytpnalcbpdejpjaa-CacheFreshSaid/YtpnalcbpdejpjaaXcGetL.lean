/-
  Get in general.
-/
import Derived.Test.YtpnalcbpdejpjaaXcGet2
import Derived.Test.YtpnalcbpdejpjaaXcCopy
set_option linter.unusedSimpArgs false
set_option linter.unusedVariables false
namespace Go.Proofs.Ytpnalcbpdejpjaa
open Go.RowKit Classical
/-- The worlds of Get: the key's box, the result. -/
structure Gt (w : World) (K : Array Value) (v : World) : Prop where
  k : Blk v w.heap.size K 24
  z : Blk v (w.heap.size + 1) #[.int .u16 0, .int .i64 0, .string ⟨#[]⟩, .int .i64 0, .slice none 0 0, .int .i64 0, .int .i64 0] 34
  b : Below w.heap.size w v
theorem Gt.on {w v v' : World} {K : Array Value} (h : Gt w K v) (hb : Below v.heap.size v v') : Gt w K v' := ⟨h.k.below h.k.lt hb, h.z.below h.z.lt hb, h.b.trans (hb.mono h.b.size)⟩
set_option maxRecDepth 100000 in
set_option maxHeartbeats 4000000 in
theorem get_of (q N sl : Nat) (av : Value) (pc tag hp ht : Int) (s : ByteArray) (ni lo hi f sz : Int) (oa : Option Addr) (on oc : Nat) (fd : Bool) (cells : List Value) (w : World)
    (hN0 : 1 ≤ N) (CZ : Hid (∀ v, Below w.heap.size w v → Calls Try.prog 36 #[.pointer (some ⟨q, 0, none⟩)] v fun e w' => e = .returned (.int .i64 ((N : Nat) : Int)) ∧ w' = v))
    (HS : Hid (∀ v, Below w.heap.size w v → Calls Try.prog 9 #[.agg #[.int .u16 pc, .int .i64 tag], .int .i64 ((N : Nat) : Int)] v fun e w' => e = .returned (.int .i64 ((sl : Nat) : Int)) ∧ Below v.heap.size v w'))
    (SG : Hid (∀ v, Below w.heap.size w v → Calls Try.prog 42 #[.pointer (some ⟨q, 0, none⟩), .int .i64 ((sl : Nat) : Int), .agg #[.int .u16 pc, .int .i64 tag]] v fun e w' => e = .returned (.tuple #[.agg #[.int .u16 hp, .int .i64 ht, .string s, .int .i64 ni, .slice oa on oc, .int .i64 lo, .int .i64 hi, .int .i64 f, .int .i64 sz], .bool fd]) ∧ Below v.heap.size v w'))
    (HLs : Ls w oa on oc cells) (hon : on ≤ 2932031007317) :
    Calls Try.prog 13 #[.pointer (some ⟨q, 0, none⟩), .agg #[.int .u16 pc, .int .i64 tag]] w fun e w' => ∃ a' c', e = .returned (.tuple #[.agg #[.int .u16 hp, .int .i64 ht, .string s, .int .i64 ni, .slice a' on c', .int .i64 lo, .int .i64 hi], .bool fd]) ∧ Cpd w w' oa on oc cells a' c' ∧ Below w.heap.size w w' := by
  have hb0 : Below w.heap.size w ((w.alloc (.cells #[.int .u16 pc, .int .i64 tag] 24)).alloc (.cells #[.int .u16 0, .int .i64 0, .string ⟨#[]⟩, .int .i64 0, .slice none 0 0, .int .i64 0, .int .i64 0] 34)) := ((Below.refl _ _).alloc (Nat.le_refl _) _).alloc (by simp) _
  have s0 : Gt w #[.int .u16 pc, .int .i64 tag] ((w.alloc (.cells #[.int .u16 pc, .int .i64 tag] 24)).alloc (.cells #[.int .u16 0, .int .i64 0, .string ⟨#[]⟩, .int .i64 0, .slice none 0 0, .int .i64 0, .int .i64 0] 34)) := ⟨(Blk.new w #[.int .u16 pc, .int .i64 tag] 24).old _, by
    have := Blk.new (w.alloc (.cells #[.int .u16 pc, .int .i64 tag] 24)) #[.int .u16 0, .int .i64 0, .string ⟨#[]⟩, .int .i64 0, .slice none 0 0, .int .i64 0, .int .i64 0] 34
    simpa using this, hb0⟩
  have HLS : Hid (Ls w oa on oc cells) := HLs
  clear hb0 HLs
  have hNi : ¬ ((N : Nat) : Int) = 0 := by omega
  go_enter Try.func13, Try.ntmps13
  go_upto_region 1 with fail
  generalize ((w.alloc (.cells #[.int .u16 pc, .int .i64 tag] 24)).alloc (.cells #[.int .u16 0, .int .i64 0, .string ⟨#[]⟩, .int .i64 0, .slice none 0 0, .int .i64 0, .int .i64 0] 34)) = W0 at *
  go_upto_region 3 with (go_at_call 36; go_must (refine (CZ.out _ s0.b).mono ?_; rintro e W1 ⟨rfl, hw⟩; obtain rfl := hw.symm))
  replace s0 : Gt w #[.int .u16 pc, .int .i64 tag] W0.drew := s0.on (Below.refl _ _).drew
  go_cut [6, 7] (fun a b wx => ∃ qh, a = .pointer (some ⟨qh, 0, none⟩) ∧ b = .bool fd ∧ Blk wx qh #[.int .u16 hp, .int .i64 ht, .string s, .int .i64 ni, .slice oa on oc, .int .i64 lo, .int .i64 hi, .int .i64 f, .int .i64 sz] 84 ∧ Blk wx (w.heap.size + 1) #[.int .u16 0, .int .i64 0, .string ⟨#[]⟩, .int .i64 0, .slice none 0 0, .int .i64 0, .int .i64 0] 34 ∧ Below w.heap.size w wx)
  case first =>
    rename_i J0 K0 hJ0 hK0
    refine wp_region_held (S := Gt w #[.int .u16 pc, .int .i64 tag]) (by kernel_rfl) ?_
    refine takeH (i := 0) (v := .pointer (some ⟨q, 0, none⟩)) _ rfl (by kernel_rfl) (by kernel_rfl) (by kernel_rfl) (fun _ _ _ h => h) (.inl ⟨by kernel_rfl, fun _ _ => by kernel_rfl⟩) s0 rfl ?_
    refine takeH (i := 1) (v := .pointer (some ⟨q, 0, none⟩)) _ rfl (by kernel_rfl) (by kernel_rfl) (by kernel_rfl) (fun _ _ _ h => h) (.inl ⟨by kernel_rfl, fun _ _ => by kernel_rfl⟩) s0 rfl ?_
    refine takeH (i := 2) (v := .pointer (some ⟨q, 0, none⟩)) _ rfl (by kernel_rfl) (by kernel_rfl) (by kernel_rfl) (fun _ _ _ h => h) (.inl ⟨by kernel_rfl, fun _ _ => by kernel_rfl⟩) s0 rfl ?_
    refine takeH (i := 3) (v := .agg (#[.int .u16 pc, .int .i64 tag] : Array Value).toList.toArray) _ rfl (by kernel_rfl) (by kernel_rfl) (by kernel_rfl) (fun _ _ _ h => h) (.inl ⟨by kernel_rfl, fun v hv => exec_loadM (cs := (#[.int .u16 pc, .int .i64 tag] : Array Value).toList) rfl (by kernel_rfl) hv.k.range' Try.underlying24 rfl (by kernel_rfl)⟩) s0 rfl ?_
    refine takeH (i := 4) (v := .pointer (some ⟨q, 0, none⟩)) _ rfl (by kernel_rfl) (by kernel_rfl) (by kernel_rfl) (fun _ _ _ h => h) (.inl ⟨by kernel_rfl, fun _ _ => by kernel_rfl⟩) s0 rfl ?_
    refine takeH (i := 7) (v := .agg (#[.int .u16 pc, .int .i64 tag] : Array Value).toList.toArray) _ rfl (by kernel_rfl) (by kernel_rfl) (by kernel_rfl) (fun _ _ _ h => h) (.inl ⟨by kernel_rfl, fun v hv => exec_loadM (cs := (#[.int .u16 pc, .int .i64 tag] : Array Value).toList) rfl (by kernel_rfl) hv.k.range' Try.underlying24 rfl (by kernel_rfl)⟩) s0 rfl ?_
    refine pickH (i := 5) (j := 12) (by kernel_rfl) (wpOp_contract (f := 36) (v := .int .i64 ((N : Nat) : Int)) rfl (by kernel_rfl) (by kernel_rfl) (CZ.out W0.drew s0.b) _ rfl ?_) ?_
    · rintro V1 hw1
      have s1 := s0.on  (show Below (W0.drew).heap.size (W0.drew) V1 by rw [hw1]; exact Below.refl _ _)
      have hV1 : Below (W0.drew).heap.size (W0.drew) V1 := by rw [hw1]; exact Below.refl _ _
      clear hw1
      refine ⟨s1, ?_⟩
      refine pickH (i := 6) (j := 12) (by kernel_rfl) (wpOp_contract (f := 9) (v := .int .i64 ((sl : Nat) : Int)) rfl (by kernel_rfl) (by kernel_rfl) (HS.out V1 s1.b) _ rfl ?_) ?_
      · intro V2 hV2
        have s2 := s1.on  hV2
        refine ⟨s2, ?_⟩
        refine pickH (i := 8) (j := 12) (by kernel_rfl) (wpOp_contract (f := 42) (v := .tuple #[.agg #[.int .u16 hp, .int .i64 ht, .string s, .int .i64 ni, .slice oa on oc, .int .i64 lo, .int .i64 hi, .int .i64 f, .int .i64 sz], .bool fd]) rfl (by kernel_rfl) (by kernel_rfl) (SG.out V2 s2.b) _ rfl ?_) ?_
        · intro V3 hV3
          have s3 := s2.on  hV3
          refine ⟨s3, ?_⟩
          refine takeH (i := 9) (v := .tuple #[.agg #[.int .u16 hp, .int .i64 ht, .string s, .int .i64 ni, .slice oa on oc, .int .i64 lo, .int .i64 hi, .int .i64 f, .int .i64 sz], .bool fd]) _ rfl (by kernel_rfl) (by kernel_rfl) (by kernel_rfl) (fun _ _ _ h => h) (.inl ⟨by kernel_rfl, fun _ _ => by kernel_rfl⟩) s3 rfl ?_
          refine takeH (i := 10) (v := .agg #[.int .u16 hp, .int .i64 ht, .string s, .int .i64 ni, .slice oa on oc, .int .i64 lo, .int .i64 hi, .int .i64 f, .int .i64 sz]) _ rfl (by kernel_rfl) (by kernel_rfl) (by kernel_rfl) (fun _ _ _ h => h) (.inl ⟨by kernel_rfl, fun _ _ => by kernel_rfl⟩) s3 rfl ?_
          refine takeH (i := 11) (v := .bool fd) _ rfl (by kernel_rfl) (by kernel_rfl) (by kernel_rfl) (fun _ _ _ h => h) (.inl ⟨by kernel_rfl, fun _ _ => by kernel_rfl⟩) s3 rfl ?_
          have s4 := s3.on  ((Below.refl (V3).heap.size (V3)).alloc (Nat.le_refl _) (.cells #[.int .u16 0, .int .i64 0, .string ⟨#[]⟩, .int .i64 0, .slice none 0 0, .int .i64 0, .int .i64 0, .int .i64 0, .int .i64 0] 84))
          have y4 : Blk ((V3).alloc (.cells #[.int .u16 0, .int .i64 0, .string ⟨#[]⟩, .int .i64 0, .slice none 0 0, .int .i64 0, .int .i64 0, .int .i64 0, .int .i64 0] 84)) (V3).heap.size #[.int .u16 0, .int .i64 0, .string ⟨#[]⟩, .int .i64 0, .slice none 0 0, .int .i64 0, .int .i64 0, .int .i64 0, .int .i64 0] 84 := Blk.new (V3) _ _
          have g4 : w.heap.size + 1 < (V3).heap.size := s3.z.lt
          obtain ⟨qh4, hq4⟩ : ∃ qh, qh = (V3).heap.size := ⟨_, rfl⟩
          obtain ⟨V4, hv4⟩ : ∃ V', V' = (V3).alloc (.cells #[.int .u16 0, .int .i64 0, .string ⟨#[]⟩, .int .i64 0, .slice none 0 0, .int .i64 0, .int .i64 0, .int .i64 0, .int .i64 0] 84) := ⟨_, rfl⟩
          rw [← hv4] at s4 y4
          rw [← hq4] at y4 g4
          refine worldH (i := 12) (v := .pointer (some ⟨qh4, 0, none⟩)) (w1 := V4) _ (by kernel_rfl) rfl (by kernel_rfl) (by subst hq4; subst hv4; kernel_rfl) rfl ⟨s4, ?_⟩
          refine storeH (i := 13) _ (by kernel_rfl) rfl (by kernel_rfl) 84 (.tmp 6) (.tmp 22) rfl qh4 0 (.agg #[.int .u16 hp, .int .i64 ht, .string s, .int .i64 ni, .slice oa on oc, .int .i64 lo, .int .i64 hi, .int .i64 f, .int .i64 sz]) #[.int .u16 hp, .int .i64 ht, .string s, .int .i64 ni, .slice oa on oc, .int .i64 lo, .int .i64 hi, .int .i64 f, .int .i64 sz] (by kernel_rfl) (by kernel_rfl) rfl (y4.there' 9 rfl) (by kernel_rfl) (by kernel_rfl) rfl ?_
          intro V5 e5
          have s5 : Gt w #[.int .u16 pc, .int .i64 tag] V5 := by
            have hg := g4
            rw [e5]
            exact ⟨s4.k.otherCells (by omega) _ _, s4.z.otherCells (by omega) _ _, setCells_below' (by omega) _ _ _ _ s4.b⟩
          have y5 : Blk V5 qh4 #[.int .u16 hp, .int .i64 ht, .string s, .int .i64 ni, .slice oa on oc, .int .i64 lo, .int .i64 hi, .int .i64 f, .int .i64 sz] 84 := by rw [e5]; exact y4.setAll rfl
          refine ⟨s5, ?_⟩
          refine takeH (i := 14) (v := .bool fd) _ rfl (by kernel_rfl) (by kernel_rfl) (by kernel_rfl) (fun _ _ _ h => h) (.inl ⟨by kernel_rfl, fun _ _ => by kernel_rfl⟩) s5 rfl ?_
          refine wpAnyH_done (by kernel_rfl) ?_ _
          exact hK0 _ _ (Met.intro (hJ0 _ _ ⟨.pointer (some ⟨qh4, 0, none⟩), .bool fd, .pointer (some ⟨q, 0, none⟩), .int .i64 ((N : Nat) : Int), .bool (((N : Nat) : Int) == 0), undef, .tuple #[.agg #[.int .u16 hp, .int .i64 ht, .string s, .int .i64 ni, .slice oa on oc, .int .i64 lo, .int .i64 hi, .int .i64 f, .int .i64 sz], .bool fd], .pointer (some ⟨q, 0, none⟩), .pointer (some ⟨q, 0, none⟩), .pointer (some ⟨q, 0, none⟩), .agg #[.int .u16 pc, .int .i64 tag], .pointer (some ⟨q, 0, none⟩), .int .i64 ((N : Nat) : Int), .int .i64 ((sl : Nat) : Int), .agg #[.int .u16 pc, .int .i64 tag], .tuple #[.agg #[.int .u16 hp, .int .i64 ht, .string s, .int .i64 ni, .slice oa on oc, .int .i64 lo, .int .i64 hi, .int .i64 f, .int .i64 sz], .bool fd], .agg #[.int .u16 hp, .int .i64 ht, .string s, .int .i64 ni, .slice oa on oc, .int .i64 lo, .int .i64 hi, .int .i64 f, .int .i64 sz], .bool fd, undef, undef, undef, undef, ⟨qh4, rfl, rfl, y5, s5.z, s5.b⟩, by kernel_rfl⟩))
        · have s6 := s2.on  ((Below.refl (V2).heap.size (V2)).alloc (Nat.le_refl _) (.cells #[.int .u16 0, .int .i64 0, .string ⟨#[]⟩, .int .i64 0, .slice none 0 0, .int .i64 0, .int .i64 0, .int .i64 0, .int .i64 0] 84))
          have y6 : Blk ((V2).alloc (.cells #[.int .u16 0, .int .i64 0, .string ⟨#[]⟩, .int .i64 0, .slice none 0 0, .int .i64 0, .int .i64 0, .int .i64 0, .int .i64 0] 84)) (V2).heap.size #[.int .u16 0, .int .i64 0, .string ⟨#[]⟩, .int .i64 0, .slice none 0 0, .int .i64 0, .int .i64 0, .int .i64 0, .int .i64 0] 84 := Blk.new (V2) _ _
          have g6 : w.heap.size + 1 < (V2).heap.size := s2.z.lt
          obtain ⟨qh6, hq6⟩ : ∃ qh, qh = (V2).heap.size := ⟨_, rfl⟩
          obtain ⟨V6, hv6⟩ : ∃ V', V' = (V2).alloc (.cells #[.int .u16 0, .int .i64 0, .string ⟨#[]⟩, .int .i64 0, .slice none 0 0, .int .i64 0, .int .i64 0, .int .i64 0, .int .i64 0] 84) := ⟨_, rfl⟩
          rw [← hv6] at s6 y6
          rw [← hq6] at y6 g6
          refine worldO (v := .pointer (some ⟨qh6, 0, none⟩)) (w1 := V6) rfl (by kernel_rfl) (by subst hq6; subst hv6; kernel_rfl) _ rfl ⟨s6, ?_⟩
          refine callH (i := 8) (f := 42) (v := .tuple #[.agg #[.int .u16 hp, .int .i64 ht, .string s, .int .i64 ni, .slice oa on oc, .int .i64 lo, .int .i64 hi, .int .i64 f, .int .i64 sz], .bool fd]) _ (by kernel_rfl) rfl (by kernel_rfl) (by kernel_rfl) (SG.out V6 s6.b) rfl ?_
          intro V7 hV7
          have s7 := s6.on  hV7
          have y7 := y6.below y6.lt hV7
          refine ⟨s7, ?_⟩
          refine takeH (i := 9) (v := .tuple #[.agg #[.int .u16 hp, .int .i64 ht, .string s, .int .i64 ni, .slice oa on oc, .int .i64 lo, .int .i64 hi, .int .i64 f, .int .i64 sz], .bool fd]) _ rfl (by kernel_rfl) (by kernel_rfl) (by kernel_rfl) (fun _ _ _ h => h) (.inl ⟨by kernel_rfl, fun _ _ => by kernel_rfl⟩) s7 rfl ?_
          refine takeH (i := 10) (v := .agg #[.int .u16 hp, .int .i64 ht, .string s, .int .i64 ni, .slice oa on oc, .int .i64 lo, .int .i64 hi, .int .i64 f, .int .i64 sz]) _ rfl (by kernel_rfl) (by kernel_rfl) (by kernel_rfl) (fun _ _ _ h => h) (.inl ⟨by kernel_rfl, fun _ _ => by kernel_rfl⟩) s7 rfl ?_
          refine takeH (i := 11) (v := .bool fd) _ rfl (by kernel_rfl) (by kernel_rfl) (by kernel_rfl) (fun _ _ _ h => h) (.inl ⟨by kernel_rfl, fun _ _ => by kernel_rfl⟩) s7 rfl ?_
          refine storeH (i := 13) _ (by kernel_rfl) rfl (by kernel_rfl) 84 (.tmp 6) (.tmp 22) rfl qh6 0 (.agg #[.int .u16 hp, .int .i64 ht, .string s, .int .i64 ni, .slice oa on oc, .int .i64 lo, .int .i64 hi, .int .i64 f, .int .i64 sz]) #[.int .u16 hp, .int .i64 ht, .string s, .int .i64 ni, .slice oa on oc, .int .i64 lo, .int .i64 hi, .int .i64 f, .int .i64 sz] (by kernel_rfl) (by kernel_rfl) rfl (y7.there' 9 rfl) (by kernel_rfl) (by kernel_rfl) rfl ?_
          intro V8 e8
          have s8 : Gt w #[.int .u16 pc, .int .i64 tag] V8 := by
            have hg := g6
            rw [e8]
            exact ⟨s7.k.otherCells (by omega) _ _, s7.z.otherCells (by omega) _ _, setCells_below' (by omega) _ _ _ _ s7.b⟩
          have y8 : Blk V8 qh6 #[.int .u16 hp, .int .i64 ht, .string s, .int .i64 ni, .slice oa on oc, .int .i64 lo, .int .i64 hi, .int .i64 f, .int .i64 sz] 84 := by rw [e8]; exact y7.setAll rfl
          refine ⟨s8, ?_⟩
          refine takeH (i := 14) (v := .bool fd) _ rfl (by kernel_rfl) (by kernel_rfl) (by kernel_rfl) (fun _ _ _ h => h) (.inl ⟨by kernel_rfl, fun _ _ => by kernel_rfl⟩) s8 rfl ?_
          refine wpAnyH_done (by kernel_rfl) ?_ _
          exact hK0 _ _ (Met.intro (hJ0 _ _ ⟨.pointer (some ⟨qh6, 0, none⟩), .bool fd, .pointer (some ⟨q, 0, none⟩), .int .i64 ((N : Nat) : Int), .bool (((N : Nat) : Int) == 0), undef, .tuple #[.agg #[.int .u16 hp, .int .i64 ht, .string s, .int .i64 ni, .slice oa on oc, .int .i64 lo, .int .i64 hi, .int .i64 f, .int .i64 sz], .bool fd], .pointer (some ⟨q, 0, none⟩), .pointer (some ⟨q, 0, none⟩), .pointer (some ⟨q, 0, none⟩), .agg #[.int .u16 pc, .int .i64 tag], .pointer (some ⟨q, 0, none⟩), .int .i64 ((N : Nat) : Int), .int .i64 ((sl : Nat) : Int), .agg #[.int .u16 pc, .int .i64 tag], .tuple #[.agg #[.int .u16 hp, .int .i64 ht, .string s, .int .i64 ni, .slice oa on oc, .int .i64 lo, .int .i64 hi, .int .i64 f, .int .i64 sz], .bool fd], .agg #[.int .u16 hp, .int .i64 ht, .string s, .int .i64 ni, .slice oa on oc, .int .i64 lo, .int .i64 hi, .int .i64 f, .int .i64 sz], .bool fd, undef, undef, undef, undef, ⟨qh6, rfl, rfl, y8, s8.z, s8.b⟩, by kernel_rfl⟩))
      · have s9 := s1.on  ((Below.refl (V1).heap.size (V1)).alloc (Nat.le_refl _) (.cells #[.int .u16 0, .int .i64 0, .string ⟨#[]⟩, .int .i64 0, .slice none 0 0, .int .i64 0, .int .i64 0, .int .i64 0, .int .i64 0] 84))
        have y9 : Blk ((V1).alloc (.cells #[.int .u16 0, .int .i64 0, .string ⟨#[]⟩, .int .i64 0, .slice none 0 0, .int .i64 0, .int .i64 0, .int .i64 0, .int .i64 0] 84)) (V1).heap.size #[.int .u16 0, .int .i64 0, .string ⟨#[]⟩, .int .i64 0, .slice none 0 0, .int .i64 0, .int .i64 0, .int .i64 0, .int .i64 0] 84 := Blk.new (V1) _ _
        have g9 : w.heap.size + 1 < (V1).heap.size := s1.z.lt
        obtain ⟨qh9, hq9⟩ : ∃ qh, qh = (V1).heap.size := ⟨_, rfl⟩
        obtain ⟨V9, hv9⟩ : ∃ V', V' = (V1).alloc (.cells #[.int .u16 0, .int .i64 0, .string ⟨#[]⟩, .int .i64 0, .slice none 0 0, .int .i64 0, .int .i64 0, .int .i64 0, .int .i64 0] 84) := ⟨_, rfl⟩
        rw [← hv9] at s9 y9
        rw [← hq9] at y9 g9
        refine worldO (v := .pointer (some ⟨qh9, 0, none⟩)) (w1 := V9) rfl (by kernel_rfl) (by subst hq9; subst hv9; kernel_rfl) _ rfl ⟨s9, ?_⟩
        refine callH (i := 6) (f := 9) (v := .int .i64 ((sl : Nat) : Int)) _ (by kernel_rfl) rfl (by kernel_rfl) (by kernel_rfl) (HS.out V9 s9.b) rfl ?_
        intro V10 hV10
        have s10 := s9.on  hV10
        have y10 := y9.below y9.lt hV10
        refine ⟨s10, ?_⟩
        refine callH (i := 8) (f := 42) (v := .tuple #[.agg #[.int .u16 hp, .int .i64 ht, .string s, .int .i64 ni, .slice oa on oc, .int .i64 lo, .int .i64 hi, .int .i64 f, .int .i64 sz], .bool fd]) _ (by kernel_rfl) rfl (by kernel_rfl) (by kernel_rfl) (SG.out V10 s10.b) rfl ?_
        intro V11 hV11
        have s11 := s10.on  hV11
        have y11 := y10.below y10.lt hV11
        refine ⟨s11, ?_⟩
        refine takeH (i := 9) (v := .tuple #[.agg #[.int .u16 hp, .int .i64 ht, .string s, .int .i64 ni, .slice oa on oc, .int .i64 lo, .int .i64 hi, .int .i64 f, .int .i64 sz], .bool fd]) _ rfl (by kernel_rfl) (by kernel_rfl) (by kernel_rfl) (fun _ _ _ h => h) (.inl ⟨by kernel_rfl, fun _ _ => by kernel_rfl⟩) s11 rfl ?_
        refine takeH (i := 10) (v := .agg #[.int .u16 hp, .int .i64 ht, .string s, .int .i64 ni, .slice oa on oc, .int .i64 lo, .int .i64 hi, .int .i64 f, .int .i64 sz]) _ rfl (by kernel_rfl) (by kernel_rfl) (by kernel_rfl) (fun _ _ _ h => h) (.inl ⟨by kernel_rfl, fun _ _ => by kernel_rfl⟩) s11 rfl ?_
        refine takeH (i := 11) (v := .bool fd) _ rfl (by kernel_rfl) (by kernel_rfl) (by kernel_rfl) (fun _ _ _ h => h) (.inl ⟨by kernel_rfl, fun _ _ => by kernel_rfl⟩) s11 rfl ?_
        refine storeH (i := 13) _ (by kernel_rfl) rfl (by kernel_rfl) 84 (.tmp 6) (.tmp 22) rfl qh9 0 (.agg #[.int .u16 hp, .int .i64 ht, .string s, .int .i64 ni, .slice oa on oc, .int .i64 lo, .int .i64 hi, .int .i64 f, .int .i64 sz]) #[.int .u16 hp, .int .i64 ht, .string s, .int .i64 ni, .slice oa on oc, .int .i64 lo, .int .i64 hi, .int .i64 f, .int .i64 sz] (by kernel_rfl) (by kernel_rfl) rfl (y11.there' 9 rfl) (by kernel_rfl) (by kernel_rfl) rfl ?_
        intro V12 e12
        have s12 : Gt w #[.int .u16 pc, .int .i64 tag] V12 := by
          have hg := g9
          rw [e12]
          exact ⟨s11.k.otherCells (by omega) _ _, s11.z.otherCells (by omega) _ _, setCells_below' (by omega) _ _ _ _ s11.b⟩
        have y12 : Blk V12 qh9 #[.int .u16 hp, .int .i64 ht, .string s, .int .i64 ni, .slice oa on oc, .int .i64 lo, .int .i64 hi, .int .i64 f, .int .i64 sz] 84 := by rw [e12]; exact y11.setAll rfl
        refine ⟨s12, ?_⟩
        refine takeH (i := 14) (v := .bool fd) _ rfl (by kernel_rfl) (by kernel_rfl) (by kernel_rfl) (fun _ _ _ h => h) (.inl ⟨by kernel_rfl, fun _ _ => by kernel_rfl⟩) s12 rfl ?_
        refine wpAnyH_done (by kernel_rfl) ?_ _
        exact hK0 _ _ (Met.intro (hJ0 _ _ ⟨.pointer (some ⟨qh9, 0, none⟩), .bool fd, .pointer (some ⟨q, 0, none⟩), .int .i64 ((N : Nat) : Int), .bool (((N : Nat) : Int) == 0), undef, .tuple #[.agg #[.int .u16 hp, .int .i64 ht, .string s, .int .i64 ni, .slice oa on oc, .int .i64 lo, .int .i64 hi, .int .i64 f, .int .i64 sz], .bool fd], .pointer (some ⟨q, 0, none⟩), .pointer (some ⟨q, 0, none⟩), .pointer (some ⟨q, 0, none⟩), .agg #[.int .u16 pc, .int .i64 tag], .pointer (some ⟨q, 0, none⟩), .int .i64 ((N : Nat) : Int), .int .i64 ((sl : Nat) : Int), .agg #[.int .u16 pc, .int .i64 tag], .tuple #[.agg #[.int .u16 hp, .int .i64 ht, .string s, .int .i64 ni, .slice oa on oc, .int .i64 lo, .int .i64 hi, .int .i64 f, .int .i64 sz], .bool fd], .agg #[.int .u16 hp, .int .i64 ht, .string s, .int .i64 ni, .slice oa on oc, .int .i64 lo, .int .i64 hi, .int .i64 f, .int .i64 sz], .bool fd, undef, undef, undef, undef, ⟨qh9, rfl, rfl, y12, s12.z, s12.b⟩, by kernel_rfl⟩))
    · have s13 := s0.on  ((Below.refl (W0.drew).heap.size (W0.drew)).alloc (Nat.le_refl _) (.cells #[.int .u16 0, .int .i64 0, .string ⟨#[]⟩, .int .i64 0, .slice none 0 0, .int .i64 0, .int .i64 0, .int .i64 0, .int .i64 0] 84))
      have y13 : Blk ((W0.drew).alloc (.cells #[.int .u16 0, .int .i64 0, .string ⟨#[]⟩, .int .i64 0, .slice none 0 0, .int .i64 0, .int .i64 0, .int .i64 0, .int .i64 0] 84)) (W0.drew).heap.size #[.int .u16 0, .int .i64 0, .string ⟨#[]⟩, .int .i64 0, .slice none 0 0, .int .i64 0, .int .i64 0, .int .i64 0, .int .i64 0] 84 := Blk.new (W0.drew) _ _
      have g13 : w.heap.size + 1 < (W0.drew).heap.size := s0.z.lt
      obtain ⟨qh13, hq13⟩ : ∃ qh, qh = (W0.drew).heap.size := ⟨_, rfl⟩
      obtain ⟨V13, hv13⟩ : ∃ V', V' = (W0.drew).alloc (.cells #[.int .u16 0, .int .i64 0, .string ⟨#[]⟩, .int .i64 0, .slice none 0 0, .int .i64 0, .int .i64 0, .int .i64 0, .int .i64 0] 84) := ⟨_, rfl⟩
      rw [← hv13] at s13 y13
      rw [← hq13] at y13 g13
      refine worldO (v := .pointer (some ⟨qh13, 0, none⟩)) (w1 := V13) rfl (by kernel_rfl) (by subst hq13; subst hv13; kernel_rfl) _ rfl ⟨s13, ?_⟩
      refine callH (i := 5) (f := 36) (v := .int .i64 ((N : Nat) : Int)) _ (by kernel_rfl) rfl (by kernel_rfl) (by kernel_rfl) (CZ.out V13 s13.b) rfl ?_
      rintro V14 hw14
      have s14 := s13.on  (show Below (V13).heap.size (V13) V14 by rw [hw14]; exact Below.refl _ _)
      have hV14 : Below (V13).heap.size (V13) V14 := by rw [hw14]; exact Below.refl _ _
      clear hw14
      have y14 := y13.below y13.lt hV14
      refine ⟨s14, ?_⟩
      refine callH (i := 6) (f := 9) (v := .int .i64 ((sl : Nat) : Int)) _ (by kernel_rfl) rfl (by kernel_rfl) (by kernel_rfl) (HS.out V14 s14.b) rfl ?_
      intro V15 hV15
      have s15 := s14.on  hV15
      have y15 := y14.below y14.lt hV15
      refine ⟨s15, ?_⟩
      refine callH (i := 8) (f := 42) (v := .tuple #[.agg #[.int .u16 hp, .int .i64 ht, .string s, .int .i64 ni, .slice oa on oc, .int .i64 lo, .int .i64 hi, .int .i64 f, .int .i64 sz], .bool fd]) _ (by kernel_rfl) rfl (by kernel_rfl) (by kernel_rfl) (SG.out V15 s15.b) rfl ?_
      intro V16 hV16
      have s16 := s15.on  hV16
      have y16 := y15.below y15.lt hV16
      refine ⟨s16, ?_⟩
      refine takeH (i := 9) (v := .tuple #[.agg #[.int .u16 hp, .int .i64 ht, .string s, .int .i64 ni, .slice oa on oc, .int .i64 lo, .int .i64 hi, .int .i64 f, .int .i64 sz], .bool fd]) _ rfl (by kernel_rfl) (by kernel_rfl) (by kernel_rfl) (fun _ _ _ h => h) (.inl ⟨by kernel_rfl, fun _ _ => by kernel_rfl⟩) s16 rfl ?_
      refine takeH (i := 10) (v := .agg #[.int .u16 hp, .int .i64 ht, .string s, .int .i64 ni, .slice oa on oc, .int .i64 lo, .int .i64 hi, .int .i64 f, .int .i64 sz]) _ rfl (by kernel_rfl) (by kernel_rfl) (by kernel_rfl) (fun _ _ _ h => h) (.inl ⟨by kernel_rfl, fun _ _ => by kernel_rfl⟩) s16 rfl ?_
      refine takeH (i := 11) (v := .bool fd) _ rfl (by kernel_rfl) (by kernel_rfl) (by kernel_rfl) (fun _ _ _ h => h) (.inl ⟨by kernel_rfl, fun _ _ => by kernel_rfl⟩) s16 rfl ?_
      refine storeH (i := 13) _ (by kernel_rfl) rfl (by kernel_rfl) 84 (.tmp 6) (.tmp 22) rfl qh13 0 (.agg #[.int .u16 hp, .int .i64 ht, .string s, .int .i64 ni, .slice oa on oc, .int .i64 lo, .int .i64 hi, .int .i64 f, .int .i64 sz]) #[.int .u16 hp, .int .i64 ht, .string s, .int .i64 ni, .slice oa on oc, .int .i64 lo, .int .i64 hi, .int .i64 f, .int .i64 sz] (by kernel_rfl) (by kernel_rfl) rfl (y16.there' 9 rfl) (by kernel_rfl) (by kernel_rfl) rfl ?_
      intro V17 e17
      have s17 : Gt w #[.int .u16 pc, .int .i64 tag] V17 := by
        have hg := g13
        rw [e17]
        exact ⟨s16.k.otherCells (by omega) _ _, s16.z.otherCells (by omega) _ _, setCells_below' (by omega) _ _ _ _ s16.b⟩
      have y17 : Blk V17 qh13 #[.int .u16 hp, .int .i64 ht, .string s, .int .i64 ni, .slice oa on oc, .int .i64 lo, .int .i64 hi, .int .i64 f, .int .i64 sz] 84 := by rw [e17]; exact y16.setAll rfl
      refine ⟨s17, ?_⟩
      refine takeH (i := 14) (v := .bool fd) _ rfl (by kernel_rfl) (by kernel_rfl) (by kernel_rfl) (fun _ _ _ h => h) (.inl ⟨by kernel_rfl, fun _ _ => by kernel_rfl⟩) s17 rfl ?_
      refine wpAnyH_done (by kernel_rfl) ?_ _
      exact hK0 _ _ (Met.intro (hJ0 _ _ ⟨.pointer (some ⟨qh13, 0, none⟩), .bool fd, .pointer (some ⟨q, 0, none⟩), .int .i64 ((N : Nat) : Int), .bool (((N : Nat) : Int) == 0), undef, .tuple #[.agg #[.int .u16 hp, .int .i64 ht, .string s, .int .i64 ni, .slice oa on oc, .int .i64 lo, .int .i64 hi, .int .i64 f, .int .i64 sz], .bool fd], .pointer (some ⟨q, 0, none⟩), .pointer (some ⟨q, 0, none⟩), .pointer (some ⟨q, 0, none⟩), .agg #[.int .u16 pc, .int .i64 tag], .pointer (some ⟨q, 0, none⟩), .int .i64 ((N : Nat) : Int), .int .i64 ((sl : Nat) : Int), .agg #[.int .u16 pc, .int .i64 tag], .tuple #[.agg #[.int .u16 hp, .int .i64 ht, .string s, .int .i64 ni, .slice oa on oc, .int .i64 lo, .int .i64 hi, .int .i64 f, .int .i64 sz], .bool fd], .agg #[.int .u16 hp, .int .i64 ht, .string s, .int .i64 ni, .slice oa on oc, .int .i64 lo, .int .i64 hi, .int .i64 f, .int .i64 sz], .bool fd, undef, undef, undef, undef, ⟨qh13, rfl, rfl, y17, s17.z, s17.b⟩, by kernel_rfl⟩))
  case rest =>
  clear s0 CZ HS SG
  obtain ⟨qh, rfl, rfl, y4, z4, b4⟩ := hcut
  generalize wc = V4 at *
  have RX : V4.rangeAt qh 0 (#[.int .u16 hp, .int .i64 ht, .string s, .int .i64 ni, .slice oa on oc, .int .i64 lo, .int .i64 hi] : Array Value).toList := y4.rangeAt 0 _ (fun i hi => by
    rcases (show i = 0 ∨ i = 1 ∨ i = 2 ∨ i = 3 ∨ i = 4 ∨ i = 5 ∨ i = 6 by have : i < 7 := hi; omega) with rfl | rfl | rfl | rfl | rfl | rfl | rfl <;> rfl)
  have CN : Hid (Calls _ _ _ V4 _) := copied_any hp ht s ni lo hi oa on oc cells V4 (HLS.out.on b4) hon
  have Z : Hid (Blk V4 (w.heap.size + 1) #[.int .u16 0, .int .i64 0, .string ⟨#[]⟩, .int .i64 0, .slice none 0 0, .int .i64 0, .int .i64 0] 34 ∧ Below w.heap.size w V4) := ⟨z4, b4⟩
  clear z4 b4 y4
  go_upto_region 4 with fail
  go_wp2_with (first
    | (refine wpList_load_mid rfl 34 _ rfl qh 0 rfl (#[.int .u16 hp, .int .i64 ht, .string s, .int .i64 ni, .slice oa on oc, .int .i64 lo, .int .i64 hi] : Array Value).toList _ RX Try.underlying34 rfl (by kernel_rfl) ?_; rw [Array.toArray_toList])
    | (go_at_call 38; go_must (refine CN.out.mono ?_; rintro e W5 ⟨a', c', rfl, cp5, hb5⟩))
    | (refine wpList_store_mid rfl 34 _ _ rfl (w.heap.size + 1) 0 #[.int .u16 hp, .int .i64 ht, .string s, .int .i64 ni, .slice a' on c', .int .i64 lo, .int .i64 hi] rfl rfl ((Z.out.1.below Z.out.1.lt hb5).there' 7 rfl) (by kernel_rfl) (by kernel_rfl) ?_))
  have z5 : Blk (W5.setCells (w.heap.size + 1) 0 (#[.int .u16 hp, .int .i64 ht, .string s, .int .i64 ni, .slice a' on c', .int .i64 lo, .int .i64 hi] : Array Value).toList) (w.heap.size + 1) #[.int .u16 hp, .int .i64 ht, .string s, .int .i64 ni, .slice a' on c', .int .i64 lo, .int .i64 hi] 34 := (Z.out.1.below Z.out.1.lt hb5).setAll rfl
  refine ret_agg2 (m := w.heap.size + 1) (L := #[.int .u16 hp, .int .i64 ht, .string s, .int .i64 ni, .slice a' on c', .int .i64 lo, .int .i64 hi]) (x := .bool fd) Try.results13 (by kernel_rfl) (by kernel_rfl) (by kernel_rfl) z5 Try.underlying34 rfl (by kernel_rfl) ?_
  exact ⟨a', c', rfl, ⟨cp5.1, orow_lower (orow_others Z.out.1.lt _ 0 W5 cp5.2) Z.out.2.size⟩, setCells_below' (by omega) _ _ _ _ (Z.out.2.trans (hb5.mono Z.out.2.size))⟩
end Go.Proofs.Ytpnalcbpdejpjaa
