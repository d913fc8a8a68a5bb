/-
  All runs of a list of bytes, laid down behind a patch's bytes.
-/
import Derived.Test.YtlckjbangdnejaaDoorXwRun
set_option linter.unusedSimpArgs false
set_option linter.unusedVariables false
namespace Go.Proofs.YtlckjbangdnejaaDoor
open Go.RowKit Classical
namespace RwM
theorem rl_stop : ∀ y : List Nat, quiet (y.drop (rl y)) = true
  | [] => rfl
  | y :: ys => by
    unfold rl
    split
    · next h => exact h
    · rw [Nat.add_comm, List.drop_succ_cons]; exact rl_stop ys
theorem rn_stop (y : List Nat) : quiet (y.drop (zs y + rn y)) = true := by
  have := rl_stop (y.drop (zs y + 1))
  rw [List.drop_drop] at this
  unfold rn
  rwa [← Nat.add_assoc]
theorem zs_four (y : List Nat) (h : quiet y = true) (hz : zs y ≠ y.length) : 4 ≤ zs y := by
  rcases Nat.lt_or_ge (zs y) 4 with h4 | h4
  · have hl := zs_le y
    have a := quiet_not y 0 (zs y) (by omega) (by omega) (by omega) (zs_stop y (by omega))
    rw [List.drop_zero, h] at a
    cases a
  · exact h4
theorem rb_len : ∀ (n : Nat) (y : List Nat), y.length ≤ n → n ≤ 65536 → (rb y).length ≤ y.length + 4 ∧ (quiet y = true → (rb y).length ≤ y.length) := by
  intro n
  induction n with
  | zero => intro y h hm; have := zs_le y; rw [rb_end (by omega)]; simp
  | succ n ih =>
    intro y h hm
    by_cases e : zs y = y.length
    · rw [rb_end e]; simp
    · have a1 := zs_le y
      have a2 := rn_le e
      have a3 := rn_pos y
      have a4 := (ih (y.drop (zs y + rn y)) (by simp; omega) (by omega)).2 (rn_stop y)
      have a5 := num_len (zs y) (by omega)
      have a6 := num_len (rn y) (by omega)
      have a7 : (rb y).length ≤ (num (zs y)).length + (num (rn y)).length + (y.length - zs y) := by
        rw [rb_run e]
        simp only [List.length_append, List.length_take, List.length_drop] at a4 ⊢
        omega
      refine ⟨?_, fun hq => ?_⟩
      · by_cases h128 : zs y < 128
        · have := a5.2.2.1 h128; omega
        · omega
      · have a8 := zs_four y hq e
        by_cases h128 : zs y < 128
        · have := a5.2.2.1 h128; omega
        · omega
end RwM
theorem Gr.apart {a b : World} {x y : Value} (h : Gr a x b y) {g : Nat} (hg : g < a.heap.size) (hx : x.ownBlock ≠ some g) : y.ownBlock ≠ some g := by
  intro e
  rcases h.own with e2 | e2
  · exact hx (e2.symm.trans e)
  · exact absurd (e2 g e) (by omega)
set_option maxRecDepth 100000 in
set_option maxHeartbeats 1600000 in
theorem runs_any (X : List Nat) (nx : Nat) (hX : Bytes X) (hn : X.length = nx) (hlen : nx ≤ 65536) (l : List Nat) (hl : l.length ≤ 100000) (v : Value) (base : Nat) (a : Option Addr) (cap : Nat) (hcap : nx ≤ cap) (w : World)
    (T : Tx w base v l) (hbase : base ≤ w.heap.size) (R : Row w a X) (hab : ∀ p, a = some p → v.ownBlock ≠ some p.block) :
    Calls Tryd.prog 35 #[v, .slice a nx cap] w (LsOk base w v (l ++ RwM.rb X)) := by
  have HT : Hid (Tx w base v l) := T
  have HR : Hid (Row w a X) := R
  have HX : Hid (Bytes X) := hX
  have HN : Hid (X.length = nx) := hn
  have HAB : Hid (∀ p, a = some p → v.ownBlock ≠ some p.block) := hab
  have HBL : Hid ((RwM.rb X).length ≤ 65540 ∧ l.length ≤ 100000) := ⟨by have := (RwM.rb_len nx X (by omega) hlen).1; omega, hl⟩
  clear T R hX hn hab hl
  go_enter Tryd.func35, Tryd.ntmps35
  go_upto_region 2 with fail
  go_loopw [0, 5] (fun p i wr => ∃ (k : Nat) (pre : List Nat), k ≤ nx ∧ i = .int .i64 k ∧ Hid (pre ++ RwM.rb (X.drop k) = l ++ RwM.rb X) ∧ Hid (Tx wr base p pre) ∧ Hid (Gr w v wr p) ∧ base ≤ wr.heap.size) (fun _ i _ => nx - (intOf i).toNat)
  case atStart => exact ⟨0, l, by omega, rfl, by unfold Hid; rw [List.drop_zero], HT, Gr.refl _ _, hbase⟩
  case round =>
    obtain ⟨k, pre, hk, rfl, hE, hT, hG, hsz⟩ := hrel
    have HRr : Hid (Row wr a X) := hG.out.row HR.out HAB.out
    have HPL : Hid (pre.length ≤ 165540) := by
      have a := congrArg List.length hE.out
      have b := HBL.out
      simp only [List.length_append] at a
      unfold Hid; omega
    obtain ⟨f, hf⟩ : ∃ f, f = k + RwM.zs (X.drop k) := ⟨_, rfl⟩
    have HF : Hid (k + RwM.zs (X.drop k) = f) := hf.symm
    have hfn : f ≤ nx := by have h1 := RwM.zs_le (X.drop k); have h2 := HN.out; rw [List.length_drop] at h1; omega
    go_wp2_with fail
    refine (first_any X nx HX.out HN.out (by omega) k hk a cap wr HRr.out).mono ?_
    rintro e w1 ⟨rfl, rfl⟩
    rw [← hf]
    clear hf
    by_cases h : f = nx
    · have HE : Hid (pre = l ++ RwM.rb X) := by
        have a := hE.out
        rw [RwM.rb_end (by simp only [List.length_drop]; have := HF.out; have := HN.out; omega), List.append_nil] at a
        exact a
      have hfb : ((f : Int) == (nx : Int)) = true := by rw [h]; exact beq_self_eq_true _
      go_wp2
      go_ret
      exact ⟨_, rfl, by rw [← HE.out]; exact hT.out, hG.out, hsz⟩
    · have hfb : ((f : Int) == (nx : Int)) = false := by rw [beq_eq_false_iff_ne]; omega
      have hf2 : f < nx := by omega
      have HZ : Hid (RwM.zs (X.drop k) ≠ (X.drop k).length) := by have := HF.out; have := HN.out; unfold Hid; rw [List.length_drop]; omega
      obtain ⟨z, hz⟩ : ∃ z, z = RwM.zs (X.drop k) := ⟨_, rfl⟩
      obtain ⟨n, hn⟩ : ∃ n, n = RwM.rn (X.drop k) := ⟨_, rfl⟩
      obtain ⟨g, hg⟩ : ∃ g, g = f + 1 + RwM.rl (X.drop (f + 1)) := ⟨_, rfl⟩
      have hn1 : 1 ≤ n := by rw [hn]; exact RwM.rn_pos _
      have hfz : k + z = f := by rw [hz]; exact HF.out
      have hzn : k + z + n ≤ nx := by have h1 := RwM.rn_le HZ.out; have h2 := HN.out; rw [List.length_drop, ← hz, ← hn] at h1; omega
      have hgn : f + n = g := by
        have := RwM.rn_drop X k
        rw [← hn, ← hz, hfz] at this
        rw [hg, this]; omega
      have HRB : Hid (RwM.rb (X.drop k) = RwM.num z ++ (RwM.num n ++ ((X.drop f).take n ++ RwM.rb (X.drop g)))) := by
        have h1 := RwM.rb_run HZ.out
        rw [← hz, ← hn, List.drop_drop, List.drop_drop, hfz, show k + (z + n) = g by omega] at h1
        exact h1
      have HG : Hid (f + 1 + RwM.rl (X.drop (f + 1)) = g) := hg.symm
      clear HZ HF hz hn hg
      go_wp2_with fail
      refine (end_any X nx HX.out HN.out (by omega) f hf2 a cap _ HRr.out).mono ?_
      rintro e w2 ⟨rfl, rfl⟩
      rw [HG.out]
      clear HG
      have e1 : (f : Int) - (k : Int) = (z : Int) := by omega
      have e2 : (g : Int) - (f : Int) = (n : Int) := by omega
      have HA : Hid (k + z = f ∧ f + n = g ∧ z < 2097152 ∧ n < 2097152) := ⟨hfz, hgn, by omega, by omega⟩
      have hkf : k ≤ f := by omega
      have hfg : f < g := by omega
      have hgx : g ≤ nx := by omega
      have hfc : f < cap := by omega
      have hgc : g ≤ cap := by omega
      rcases HR.out with e | ⟨b, off, rfl, hc0⟩
      · have := HN.out; rw [e] at this; simp at this; omega
      have HU : Hid (u0.ownBlock ≠ some b) := hG.out.apart (cell_lt (p := ⟨b, off + f, none⟩) (hc0 f (by have := HN.out; omega))) (HAB.out _ rfl)
      have HX2 : Hid (Row w2 (some ⟨b, off + f, none⟩) ((X.drop f).take n)) := by
        rcases HRr.out with e | ⟨b', off', e, hc⟩
        · exact .inl (by rw [e]; simp)
        · cases e
          refine .inr ⟨b, off + f, rfl, fun i hi => ?_⟩
          simp only [List.length_take, List.length_drop] at hi
          have h1 := hc (f + i) (by omega)
          rw [← Nat.add_assoc] at h1
          rw [h1]
          simp [List.getD, List.getElem?_take, List.getElem?_drop, show i < n by omega]
      clear hc0
      have HL2 : Hid (((X.drop f).take n).length = g - f) := by have := HN.out; unfold Hid; simp only [List.length_take, List.length_drop]; omega
      have HB : Hid (Blk (w2.alloc (.cells #[.int .i64 (z : Nat), .int .i64 (n : Nat)] 3)) w2.heap.size #[.int .i64 (z : Nat), .int .i64 (n : Nat)] 3) := Blk.new w2 _ _
      clear hfz hgn hzn hn1 hf2
      go_upto_region 6 with fail
      go_wp2_with fail
      refine (numbers_any z n HA.out.2.2.1 HA.out.2.2.2 pre (by have := HPL.out; omega) u0 w2.heap.size base _ (.inl (hT.out.on ((Below.refl _ _).alloc (Nat.le_refl _) _))) (by rw [World.size_alloc]; omega) HB.out).mono ?_
      rintro e w3 ⟨v3, rfl, T3, G3, hs3⟩
      have G4 : Hid (Gr w v w3 v3) := (hG.out.alloc _).trans G3
      have R3 : Hid (Row w3 (some ⟨b, off + f, none⟩) ((X.drop f).take n)) := G3.row (HX2.out.below ((Below.refl _ _).alloc (Nat.le_refl _) _)) (fun p hp => by cases hp; exact HU.out)
      have T4 : Hid (Tx w3 base v3 (pre ++ (RwM.num z ++ RwM.num n))) := T3
      have HL4 : Hid ((pre ++ (RwM.num z ++ RwM.num n)).length + ((X.drop f).take n).length ≤ 140737488355328) := by
        have a1 := (RwM.num_len z HA.out.2.2.1).2.1
        have a2 := (RwM.num_len n HA.out.2.2.2).2.1
        have a3 := HPL.out
        have a4 := HL2.out
        unfold Hid
        rw [a4]
        simp only [List.length_append]
        omega
      clear G3 T3 HX2 HB hT hG hsz HRr HR HAB
      go_wp2_with (refine wpList_ap rfl _ _ rfl T4.out G4.out hs3 rfl rfl HL2.out R3.out HL4.out ?_; intro v5 w5 T5 G5 hs5)
      go_roundw
      case rel =>
        refine ⟨g, _, hgx, rfl, ?_, T5, G5, hs5⟩
        unfold Hid
        rw [← hE.out, HRB.out]
        simp only [List.append_assoc]
      case measure => simp [intOf]; omega
end Go.Proofs.YtlckjbangdnejaaDoor
