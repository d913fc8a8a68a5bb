/-
  The document's asks; conditions: the numbers fit their kinds.
-/
import Derived.Test.YtobiiogoofkmaaaDoorTRTW
import Derived.Test.YtobiiogoofkmaaaDoorTSt
import Derived.Test.YtobiiogoofkmaaaDoorTNextM
set_option linter.unusedSimpArgs false
set_option linter.unusedVariables false
namespace Go.Proofs.YtobiiogoofkmaaaDoor
open Go.RowKit Classical
theorem it_frame {c : Ck} (o : c.Ok) (hv : c.valid = true) (hf : c.frame = false) (hk : c.asks = true) (n : Nat) : (c.it n).frame = decide (c.toF ≤ n) := by
  have ht := toF_bd c o
  match n with
  | 0 => rw [decide_eq_false (by omega)]; exact hf
  | n + 1 =>
    rw [← Ck.adv_it o]
    have e : c.adv ((n + 1 : Nat) : Int) = (c.advT ((n + 1 : Nat) : Int)).advS ((n + 1 : Nat) : Int) := by unfold Ck.adv; rw [if_pos ⟨by omega, hv⟩]
    rw [e]
    have q : (c.advT ((n + 1 : Nat) : Int)).frame = c.frame ∧ (c.advT ((n + 1 : Nat) : Int)).asks = c.asks ∧ (c.advT ((n + 1 : Nat) : Int)).toF = c.toF := by
      unfold Ck.advT
      split
      · exact ⟨rfl, rfl, rfl⟩
      split
      · exact ⟨rfl, rfl, rfl⟩
      split
      · exact ⟨rfl, rfl, rfl⟩
      split <;> exact ⟨rfl, rfl, rfl⟩
    show ((c.advT _).frame || ((c.advT _).asks && decide ((c.advT _).toF ≤ _))) = _
    rw [q.1, q.2.1, q.2.2, hf, hk, Bool.false_or, Bool.true_and]
theorem it_at {c : Ck} (o : c.Ok) (hv : c.valid = true) (h : 0 < c.wait) : (c.it c.wait.toNat).at_ = 0 := by
  rw [← Ck.adv_it o]
  have e : c.adv ((c.wait.toNat : Nat) : Int) = (c.advT ((c.wait.toNat : Nat) : Int)).advS ((c.wait.toNat : Nat) : Int) := by unfold Ck.adv; rw [if_pos ⟨by omega, hv⟩]
  rw [e]
  have q : (c.advT ((c.wait.toNat : Nat) : Int)).wait = c.wait := by
    unfold Ck.advT
    split
    · rfl
    split
    · rfl
    split
    · rfl
    split <;> rfl
  show (if (c.advT _).wait = 0 ∨ _ < (c.advT _).wait then _ else if _ = (c.advT _).wait then 0 else _) = (0 : Int)
  rw [q, if_neg (by omega), if_pos (by omega)]
set_option maxHeartbeats 2000000 in
theorem asks_ref (c : Ck) (w : World) (o : c.Ok) (hv : c.valid = true) (hf : c.frame = false) (h5 : c.five = false) (hi : c.inh = false) :
    Calls Tryd.prog 31 #[.agg c.cells] w fun e w' => e = .returned (.int .i64 c.toF) ∧ Below w.heap.size w w' := by
  have hk : c.asks = true := by unfold Ck.asks; rw [h5, hi]; rfl
  have TK : Hid _ := fun (k : Nat) (W : World) => rtick_any (c.it k) W (Ck.it_ok o k).1
  have FR : Hid _ := fun (k : Nat) => it_frame o hv hf hk k
  have OK : Hid _ := fun (k : Nat) => (Ck.it_ok o k).1
  have AT : Hid _ := fun (h : 0 < c.wait) => it_at o hv h
  have tb := toF_bd c o
  have w0' := o.wait.1
  have w1' := ((Ck.valid_iff c).1 hv).wait
  have RS0 : Hid (c.wait = 0 → c.toF = if c.at_ < 29828 then 29828 - c.at_ else if c.at_ < 29830 then 1 else 29829) := by
    intro h
    unfold Ck.toF plc
    rw [h5, if_neg (by omega)]
    simp only [rdL, Bool.false_eq_true, if_false]
    have := o.at_
    (repeat (first | omega | split))
  have RS1 : Hid (0 < c.wait → ¬ c.toF ≤ c.wait → c.toF = c.wait + 29828) := by
    intro h h'
    unfold Ck.toF at h' ⊢
    split
    · rfl
    · rw [if_neg (by assumption)] at h'; omega
  clear hv hf h5 hi hk
  go_enter Tryd.func31, Tryd.ntmps31
  go_upto_region 1 with fail
  have s0 : St w [(w.heap.size, c)] (w.alloc (.cells c.cells 24)) := St.start w c
  generalize w.alloc (.cells c.cells 24) = W0 at *
  have g11 := (s0.blk w.heap.size c (by simp)).cell 11
  rw [show (Ck.cells c)[11]? = some (.int .u8 c.wait) from rfl] at g11
  go_wp2
  clear g11
  go_loopw [4] (fun i wr => ∃ k : Nat, (k : Int) ≤ c.wait ∧ i = .int .i64 ((k : Int) + 1) ∧ (c.it k).frame = false ∧ St w [(w.heap.size, c.it k)] wr) (fun i _ => 5 - (intOf i).toNat)
  case atStart => exact ⟨0, by omega, rfl, by rw [FR.out 0]; exact decide_eq_false (by omega), s0⟩
  case round =>
    clear s0
    obtain ⟨k, hk, rfl, hfk, s0⟩ := hrel
    by_cases hlt : (k : Int) + 1 ≤ c.wait
    · have T1 : Hid _ := fun (W : World) => TK.out k W
      rw [show (c.it k).tick = c.it (k + 1) from rfl] at T1
      have f1 := FR.out (k + 1)
      have f0 := FR.out k
      rw [hfk] at f0
      have f0' : ¬ c.toF ≤ (k : Int) := by have := f0.symm; simpa using this
      clear f0 hfk
      generalize hd : c.it k = d at s0 T1
      generalize hd' : c.it (k + 1) = d' at T1 f1
      have HD : Hid _ := fun (_ : True) => hd'
      clear hd hd'
      by_cases ht : c.toF ≤ ((k + 1 : Nat) : Int)
      · rw [decide_eq_true ht] at f1
        have E : Hid (True → (k : Int) + 1 = c.toF) := fun _ => by omega
        have F1 : Hid _ := fun (_ : True) => f1
        clear f1 ht f0'
        go_upto_region 6 with (first
          | (refine wpList_load_blk rfl 24 _ rfl w.heap.size rfl (Ck.cells d) _ (s0.blk w.heap.size d (by simp)) Tryd.underlying24 rfl (infoC' _) ?_)
          | (go_at_call 29; refine (T1.out _).mono ?_; rintro e Wx ⟨rfl, hbx⟩; replace s0 := s0.on hbx; clear hbx)
          | (refine wpList_store_blk rfl 24 _ _ rfl _ (Ck.cells d) (Ck.cells d') 24 rfl rfl (s0.blk w.heap.size d (by simp)) rfl (infoC' _) (Ck.cells_one _) w.heap.size w (Nat.le_refl _) s0.2 ?_; intro Wy h1y h2y h3y; clear s0; have s0 : St w [(w.heap.size, d')] Wy := ⟨fun p hp => by simp only [List.mem_singleton] at hp; subst hp; exact h1y, h2y⟩; clear h1y h2y h3y))
        simp only [Act.put]
        have g9 := (s0.blk w.heap.size d' (by simp)).cell 9
        rw [show d'.cells[9]? = some (.bool d'.frame) from rfl, F1.out trivial] at g9
        go_wp2
        go_ret
        exact ⟨congrArg (fun x => Ending.returned (.int .i64 x)) (E.out trivial), s0.2⟩
      · rw [decide_eq_false ht] at f1
        have F1 : Hid _ := fun (_ : True) => f1
        clear f1 ht f0'
        go_upto_region 6 with (first
          | (refine wpList_load_blk rfl 24 _ rfl w.heap.size rfl (Ck.cells d) _ (s0.blk w.heap.size d (by simp)) Tryd.underlying24 rfl (infoC' _) ?_)
          | (go_at_call 29; refine (T1.out _).mono ?_; rintro e Wx ⟨rfl, hbx⟩; replace s0 := s0.on hbx; clear hbx)
          | (refine wpList_store_blk rfl 24 _ _ rfl _ (Ck.cells d) (Ck.cells d') 24 rfl rfl (s0.blk w.heap.size d (by simp)) rfl (infoC' _) (Ck.cells_one _) w.heap.size w (Nat.le_refl _) s0.2 ?_; intro Wy h1y h2y h3y; clear s0; have s0 : St w [(w.heap.size, d')] Wy := ⟨fun p hp => by simp only [List.mem_singleton] at hp; subst hp; exact h1y, h2y⟩; clear h1y h2y h3y))
        simp only [Act.put]
        have g9 := (s0.blk w.heap.size d' (by simp)).cell 9
        rw [show d'.cells[9]? = some (.bool d'.frame) from rfl, F1.out trivial] at g9
        go_wp2
        go_roundw
        case rel => exact ⟨k + 1, by omega, by go_num, by rw [HD.out trivial]; exact F1.out trivial, by rw [HD.out trivial]; exact s0⟩
        case measure => simp [intOf]; omega
    · have hkw : (k : Int) = c.wait := by omega
      have f0 := FR.out k
      rw [hfk] at f0
      have f0' : ¬ c.toF ≤ (k : Int) := by have := f0.symm; simpa using this
      have ok := (OK.out k).at_
      have RS : Hid (True → c.wait + (if (c.it k).at_ < 29828 then 29828 - (c.it k).at_ else if (c.it k).at_ < 29830 then 1 else 29829) = c.toF) := by
        intro _
        by_cases hz : c.wait = 0
        · have k0 : k = 0 := by omega
          subst k0
          rw [RS0.out hz, hz, Int.zero_add]; rfl
        · have e : (c.it k).at_ = 0 := by have := AT.out (by omega); rwa [show c.wait.toNat = k by omega] at this
          rw [e, RS1.out (by omega) (by omega), if_pos (by decide)]; omega
      clear TK FR f0 f0' hfk hkw
      generalize c.it k = d at *
      have a0 := ok.1
      have a1 := ok.2
      have g10 := (s0.blk w.heap.size d (by simp)).cell 10
      rw [show d.cells[10]? = some (.int .u16 d.at_) from rfl] at g10
      by_cases q1 : d.at_ < 29828
      · go_wp2
        go_ret
        exact ⟨congrArg (fun x => Ending.returned (.int .i64 x)) (by have := RS.out trivial; rw [if_pos (by omega)] at this; omega), s0.2⟩
      by_cases q2 : d.at_ < 29830
      · go_wp2
        go_ret
        exact ⟨congrArg (fun x => Ending.returned (.int .i64 x)) (by have := RS.out trivial; rw [if_neg (by omega), if_pos (by omega)] at this; omega), s0.2⟩
      · go_wp2
        go_ret
        exact ⟨congrArg (fun x => Ending.returned (.int .i64 x)) (by have := RS.out trivial; rw [if_neg (by omega), if_neg (by omega)] at this; omega), s0.2⟩
end Go.Proofs.YtobiiogoofkmaaaDoor
