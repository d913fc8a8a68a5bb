/-
  What Diff answers of any two lists of bytes.
-/
import Derived.Test.YtlckjbangdnejaaDoorXwRuns
import Derived.Test.YtlckjbangdnejaaDoorXwTurn
import Derived.Test.YtlckjbangdnejaaDoorCrcs
import Derived.Lib.SlBytesConst
set_option linter.unusedSimpArgs false
set_option linter.unusedVariables false
namespace Go.Proofs.YtlckjbangdnejaaDoor
open Go.RowKit Classical
/-- The patch from one list to another. -/
def diffL (F T : List Nat) : List Nat := [84, 80] ++ (RwM.num F.length ++ RwM.num T.length) ++ RwM.rb (RwM.xr F T) ++ (RwM.num 0 ++ RwM.num 0) ++ sum4 (crc T)
theorem tn_zero (T F : List Nat) : tn T F 0 = RwM.xr F T := by
  unfold tn RwM.xr
  apply List.map_congr_left
  intro i _
  rw [if_pos (Nat.zero_le _), Nat.sub_zero]
theorem bytes_eq (l : List Nat) : RwM.Bytes l = Bytes l := rfl
/-- A patch handed back, in memory of the call's own. -/
def DfOk (w : World) (L : List Nat) (e : Ending) (w' : World) : Prop := ∃ v', e = .returned v' ∧ Tx w' w.heap.size v' L ∧ Below w.heap.size w w'
theorem below_gr {B : Nat} {a b c : World} {x y : Value} {l : List Nat} (h : Below B a b) (g : Gr b x c y) (hB : B ≤ b.heap.size) (T : Tx b B x l) : Below B a c :=
  h.grown g.grown hB fun k hk => (T.block k hk).1
theorem diff_long (F T : List Nat) (nf nt : Nat) (h : 65536 < nf ∨ 65536 < nt) (hf : nf ≤ 140737488351232) (ht : nt ≤ 140737488351232) (a b : Option Addr) (kf kt : Nat) (w : World) :
    Calls Tryd.prog 12 #[.slice a nf kf, .slice b nt kt] w fun e w' => e = .returned (.slice none 0 0) ∧ w' = w := by
  by_cases h1 : 65536 < nf
  · have i1 : (65536 : Int) < (nf : Int) := by omega
    go_enter Tryd.func12, Tryd.ntmps12
    go_wp2
    go_ret
    exact ⟨rfl, rfl⟩
  · have i1 : ¬ (65536 : Int) < (nf : Int) := by omega
    have i2 : (65536 : Int) < (nt : Int) := by omega
    go_enter Tryd.func12, Tryd.ntmps12
    go_wp2
    go_ret
    exact ⟨rfl, rfl⟩
set_option maxRecDepth 100000 in
set_option maxHeartbeats 1600000 in
theorem diff_any (F T : List Nat) (nf nt : Nat) (hF : Bytes F) (hT : Bytes T) (hnf : F.length = nf) (hnt : T.length = nt) (lf : nf ≤ 65536) (lt : nt ≤ 65536) (a b : Option Addr) (kf kt : Nat) (w : World)
    (RF : Row w a F) (RT : Row w b T) (tab : Tab w) :
    Calls Tryd.prog 12 #[.slice a nf kf, .slice b nt kt] w (DfOk w (diffL F T)) := by
  have HN : Hid (F.length = nf ∧ T.length = nt) := ⟨hnf, hnt⟩
  have HB : Hid (Bytes F ∧ Bytes T) := ⟨hF, hT⟩
  have HR : Hid (∀ W, Below w.heap.size w W → Row W a F ∧ Row W b T ∧ Tab W) := fun W h => ⟨RF.below h, RT.below h, tab.below tab.lt h⟩
  have HA : Hid (∀ p, a = some p → F ≠ [] → p.block < w.heap.size) := fun p hp hn => by
    rcases RF with e | ⟨g, off, e, hc⟩
    · exact absurd e hn
    · rw [hp] at e; cases e
      exact cell_lt (hc 0 (List.length_pos_iff.2 hn))
  have HD : Hid (diffL F T = [84, 80] ++ (RwM.num nf ++ RwM.num nt) ++ RwM.rb (RwM.xr F T) ++ (RwM.num 0 ++ RwM.num 0) ++ sum4 (crc T)) := by unfold Hid diffL; rw [hnf, hnt]
  have HC : Hid (crc T < 4294967296) := crc_lt hT
  clear hF hT hnf hnt RF RT tab
  have hcv := fun (w : World) (C : Array Value) (n c : Nat) => Lib.run_convert_bytes_const (P := Tryd.prog) w 28 5 C n c Tryd.underlying28 Tryd.underlying5
  go_enter Tryd.func12, Tryd.ntmps12
  go_upto_region 3 with fail
  obtain ⟨v0, hv0⟩ : ∃ v0, v0 = Value.slice (some ⟨w.heap.size, 0, none⟩) 2 2 := ⟨_, rfl⟩
  have hb1 : Below w.heap.size w (w.alloc (.cells #[.int .u8 84, .int .u8 80] 5 (2, 3))) := (Below.refl _ _).alloc (Nat.le_refl _) _
  have T1 : Hid (Ty (w.alloc (.cells #[.int .u8 84, .int .u8 80] 5 (2, 3))) w.heap.size v0 [84, 80]) :=
    .inr ⟨w.heap.size, (2, 3), hv0, Nat.le_refl _, heap_alloc_new w _⟩
  have hs1 : (w.alloc (.cells #[.int .u8 84, .int .u8 80] 5 (2, 3))).heap.size = w.heap.size + 1 := World.size_alloc _ _
  go_wp2_with fail
  generalize w.alloc (.cells #[.int .u8 84, .int .u8 80] 5 (2, 3)) = w1 at *
  clear hcv
  have hb2 := hb1.alloc (by omega) (.cells #[.int .i64 (nf : Nat), .int .i64 (nt : Nat)] 3)
  have Q2 : Blk (w1.alloc (.cells #[.int .i64 (nf : Nat), .int .i64 (nt : Nat)] 3)) (w.heap.size + 1) #[.int .i64 (nf : Nat), .int .i64 (nt : Nat)] 3 := by rw [← hs1]; exact Blk.new w1 _ _
  have T2 := Ty.on T1.out ((Below.refl w1.heap.size w1).alloc (Nat.le_refl _) (.cells #[.int .i64 (nf : Nat), .int .i64 (nt : Nat)] 3))
  have hs2 := World.size_alloc w1 (.cells #[.int .i64 (nf : Nat), .int .i64 (nt : Nat)] 3)
  subst hv0
  generalize w1.alloc (.cells #[.int .i64 (nf : Nat), .int .i64 (nt : Nat)] 3) = w2 at *
  refine (numbers_any nf nt (by omega) (by omega) [84, 80] (by decide) _ (w.heap.size + 1) w.heap.size w2 T2 (by omega) Q2).mono ?_
  rintro e w3 ⟨v3, rfl, T3, G3, hs3⟩
  have B3 : Below w.heap.size w w3 := hb2.grown G3.grown (by omega) fun k hk => (T2.block k hk).1
  have HT3 : Hid (Tx w3 w.heap.size v3 ([84, 80] ++ (RwM.num nf ++ RwM.num nt))) := T3
  clear G3 T3 T2 Q2 hs1 hs2 hb2 hb1 T1
  go_upto_region 4 with fail
  go_wp2_with fail
  refine (copied_any nt T HN.out.2 (by omega) b kt w3 (HR.out _ B3).2.1).mono ?_
  rintro e w4 ⟨rfl, O4, b4⟩
  have B4 : Below w.heap.size w w4 := B3.trans (b4.mono hs3)
  have hs4 := b4.size
  have HT4 : Hid (Tx w4 w.heap.size v3 ([84, 80] ++ (RwM.num nf ++ RwM.num nt))) := HT3.out.on b4
  have HV3 : Hid (v3.ownBlock ≠ some w3.heap.size) := fun e => by have := (HT3.out.block _ e).2; omega
  have HO4 : Hid (Own w4 w3.heap.size T) := O4
  clear O4 b4 HT3
  go_upto_region 5 with fail
  go_wp2_with fail
  refine (turn_any T F HB.out.2 HB.out.1 nt 0 nf (by rw [HN.out.2]; omega) HN.out.1 (by have := HN.out.2; omega) (by omega) w3.heap.size nt kf a w4 HO4.out (HR.out _ B4).1 (fun p hp hn => by have := HA.out p hp hn; omega)).mono ?_
  rintro e w5 ⟨rfl, O5, G5⟩
  have B5 : Below w.heap.size w w5 := B4.grown G5 (by omega) (fun k hk => by cases hk; exact hs3)
  have HT5 : Hid (Tx w5 w.heap.size v3 ([84, 80] ++ (RwM.num nf ++ RwM.num nt))) := World.ownsRow.kept HT4.out G5 (.inr HV3.out)
  have HO5 : Hid (Own w5 w3.heap.size (RwM.xr F T)) := by rw [← tn_zero]; exact O5
  have hs5 := G5.size
  have HL5 : Hid (([84, 80] ++ (RwM.num nf ++ RwM.num nt)).length ≤ 8) := by
    have a1 := (RwM.num_len nf (by omega)).2.1
    have a2 := (RwM.num_len nt (by omega)).2.1
    unfold Hid; simp only [List.length_append, List.length_cons, List.length_nil]; omega
  have HX5 : Hid ((RwM.rb (RwM.xr F T)).length ≤ 65540) := by
    have a1 := (RwM.rb_len 65536 (RwM.xr F T) (by rw [RwM.xr_len, HN.out.2]; exact lt) (Nat.le_refl _)).1
    rw [RwM.xr_len, HN.out.2] at a1
    unfold Hid; omega
  clear O5 G5 HT4 HO4 B4
  go_upto_region 6 with fail
  go_wp2_with fail
  refine (runs_any (RwM.xr F T) nt (RwM.xr_bytes HB.out.1 HB.out.2) (by rw [RwM.xr_len]; exact HN.out.2) lt ([84, 80] ++ (RwM.num nf ++ RwM.num nt)) (by have := HL5.out; omega) v3 w.heap.size (some ⟨w3.heap.size, 0, none⟩) nt (Nat.le_refl _) w5 HT5.out (by omega) HO5.out.row (fun p hp => by cases hp; exact HV3.out)).mono ?_
  rintro e w6 ⟨v6, rfl, T6, G6, hs6⟩
  have B6 : Below w.heap.size w w6 := below_gr B5 G6 (by omega) HT5.out
  have HL6 : Hid (([84, 80] ++ (RwM.num nf ++ RwM.num nt) ++ RwM.rb (RwM.xr F T)).length ≤ 65550) := by
    have a1 := HL5.out
    have a2 := HX5.out
    unfold Hid; rw [List.length_append]; omega
  have HT6 : Hid (Tx (w6.alloc (.cells #[.int .i64 (0 : Nat), .int .i64 (0 : Nat)] 3)) w.heap.size v6 ([84, 80] ++ (RwM.num nf ++ RwM.num nt) ++ RwM.rb (RwM.xr F T))) := World.ownsRow.alloc T6 _
  have Q6 : Hid (Blk (w6.alloc (.cells #[.int .i64 (0 : Nat), .int .i64 (0 : Nat)] 3)) w6.heap.size #[.int .i64 (0 : Nat), .int .i64 (0 : Nat)] 3) := Blk.new w6 _ _
  have HB6 : Hid (Below w.heap.size w (w6.alloc (.cells #[.int .i64 (0 : Nat), .int .i64 (0 : Nat)] 3))) := B6.alloc hs6 _
  clear G6 HT5 HO5 B5 T6 B3 HL5 HX5 HV3
  go_upto_region 7 with fail
  go_wp2_with fail
  refine (numbers_any 0 0 (by decide) (by decide) ([84, 80] ++ (RwM.num nf ++ RwM.num nt) ++ RwM.rb (RwM.xr F T)) (by have := HL6.out; omega) v6 w6.heap.size w.heap.size _ (.inl HT6.out) (by rw [World.size_alloc]; omega) Q6.out).mono ?_
  rintro e w7 ⟨v7, rfl, T7, G7, hs7⟩
  have B7 : Below w.heap.size w w7 := below_gr HB6.out G7 (by rw [World.size_alloc]; omega) HT6.out
  have HT7 : Hid (Tx w7 w.heap.size v7 ([84, 80] ++ (RwM.num nf ++ RwM.num nt) ++ RwM.rb (RwM.xr F T) ++ (RwM.num 0 ++ RwM.num 0))) := T7
  clear T7 G7 HB6 Q6 HT6 B6
  go_upto_region 8 with fail
  go_wp2_with fail
  refine (crc_n nt T HN.out.2 HB.out.2 (by omega) b kt w7 (HR.out _ B7).2.1 (HR.out _ B7).2.2).mono ?_
  rintro e w8 ⟨rfl, rfl⟩
  have HL8 : Hid (([84, 80] ++ (RwM.num nf ++ RwM.num nt) ++ RwM.rb (RwM.xr F T) ++ (RwM.num 0 ++ RwM.num 0)).length ≤ 1000000) := by
    have a1 := HL6.out
    unfold Hid; simp only [List.length_append, RwM.num_zero, List.length_cons, List.length_nil] at a1 ⊢; omega
  go_wp2_with fail
  refine (sum_any (crc T) HC.out _ HL8.out v7 w.heap.size _ HT7.out hs7).mono ?_
  rintro e w9 ⟨v9, rfl, T9, G9, hs9⟩
  have B9 : Below w.heap.size w w9 := below_gr B7 G9 hs7 HT7.out
  go_wp2
  go_ret
  exact ⟨_, rfl, by rw [HD.out]; exact T9, B9⟩
end Go.Proofs.YtlckjbangdnejaaDoor
