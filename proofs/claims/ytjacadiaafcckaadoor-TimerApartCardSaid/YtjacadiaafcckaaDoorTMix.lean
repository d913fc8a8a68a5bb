/-
  The timer of one clock and the sequencer of another; that both go on beside each other.
-/
import Derived.Test.YtjacadiaafcckaaDoorTLawP
set_option linter.unusedSimpArgs false
set_option linter.unusedVariables false
namespace Go.Proofs.YtjacadiaafcckaaDoor
open Go.RowKit Classical
/-- The timer of t, the sequencer of s. -/
def mix (t s : Ck) : Ck := { s with latch := t.latch, count := t.count, pre := t.pre, hold := t.hold, ctl := t.ctl, flag := t.flag, over := t.over }
set_option maxHeartbeats 2000000 in
theorem mix_any (t s : Ck) (w : World) :
    Calls Tryd.prog 16 #[.agg t.cells, .agg s.cells] w fun e w' => e = .returned (.agg (mix t s).cells) ∧ Below w.heap.size w w' := by
  obtain ⟨latch, count, pre, hold, ctl, flag, over, five, inh, frame, at_, wait, beats⟩ := t
  obtain ⟨latch', count', pre', hold', ctl', flag', over', five', inh', frame', at_', wait', beats'⟩ := s
  unfold mix Ck.cells
  simp only
  go_enter Tryd.func16, Tryd.ntmps16
  go_wp2
  refine bodyPost_ret (by simp [results, Tryd.results16, go_sem]) rfl ⟨rfl, ?_⟩
  exact below_a3 _ _ _ _
theorem mix_valid {t s : Ck} (ht : t.V) (hs : s.V) : (mix t s).V := ⟨ht.ctl, ht.pre, hs.at_, hs.wait, hs.beats, ht.over, hs.frame⟩
theorem mix_ok {t s : Ck} (ht : t.Ok) (hs : s.Ok) : (mix t s).Ok := ⟨ht.latch, ht.count, ht.pre, ht.hold, ht.ctl, hs.at_, hs.wait, hs.beats⟩
theorem mix_tickT (t s : Ck) : (mix t s).tickT = mix t.tickT s := by
  unfold Ck.tickT
  by_cases h1 : t.ctl % 2 = 0
  · rw [if_pos h1, if_pos (show (mix t s).ctl % 2 = 0 from h1)]
  rw [if_neg h1, if_neg (show ¬ (mix t s).ctl % 2 = 0 from h1)]
  by_cases h2 : t.pre + 1 < dv t.ctl
  · rw [if_pos h2, if_pos (show (mix t s).pre + 1 < dv (mix t s).ctl from h2)]; rfl
  rw [if_neg h2, if_neg (show ¬ (mix t s).pre + 1 < dv (mix t s).ctl from h2)]
  by_cases h3 : 0 < t.count
  · rw [if_pos h3, if_pos (show 0 < (mix t s).count from h3)]; rfl
  rw [if_neg h3, if_neg (show ¬ 0 < (mix t s).count from h3)]; rfl
theorem mix_tickS (t s : Ck) : (mix t s).tickS = mix t s.tickS := rfl
theorem tickT_s (s : Ck) : s.tickT.five = s.five ∧ s.tickT.inh = s.inh ∧ s.tickT.frame = s.frame ∧ s.tickT.at_ = s.at_ ∧ s.tickT.wait = s.wait ∧ s.tickT.beats = s.beats := by
  unfold Ck.tickT
  split
  · exact ⟨rfl, rfl, rfl, rfl, rfl, rfl⟩
  split
  · exact ⟨rfl, rfl, rfl, rfl, rfl, rfl⟩
  split <;> exact ⟨rfl, rfl, rfl, rfl, rfl, rfl⟩
theorem mix_s (t s : Ck) : mix t s.tickT.tickS = mix t s.tickS := by
  obtain ⟨h1, h2, h3, h4, h5, h6⟩ := tickT_s s
  unfold mix Ck.tickS Ck.asks
  rw [h1, h2, h3, h4, h5, h6]
theorem mix_t (t s : Ck) : mix t.tickT.tickS s = mix t.tickT s := rfl
theorem mix_tick {t s : Ck} (ht : t.valid = true) (hs : s.valid = true) : (mix t s).tick = mix t.tick s.tick := by
  have hm : (mix t s).valid = true := (Ck.valid_iff _).2 (mix_valid ((Ck.valid_iff t).1 ht) ((Ck.valid_iff s).1 hs))
  unfold Ck.tick
  rw [if_pos hm, if_pos ht, if_pos hs, mix_tickT, mix_tickS, mix_t, mix_s]
theorem mix_it {t s : Ck} (ot : t.Ok) (os : s.Ok) (ht : t.valid = true) (hs : s.valid = true) : ∀ n, (mix t s).it n = mix (t.it n) (s.it n)
  | 0 => rfl
  | n + 1 => by
    show ((mix t s).it n).tick = mix (t.it n).tick (s.it n).tick
    rw [mix_it ot os ht hs n]
    exact mix_tick ((Ck.it_ok ot n).2.trans ht) ((Ck.it_ok os n).2.trans hs)
theorem mix_adv {t s : Ck} (ot : t.Ok) (os : s.Ok) (ht : t.valid = true) (hs : s.valid = true) (n : Int) (hn : 0 ≤ n) : (mix t s).adv n = mix (t.adv n) (s.adv n) := by
  obtain ⟨k, rfl⟩ := Int.eq_ofNat_of_zero_le hn
  rw [Ck.adv_it (mix_ok ot os), Ck.adv_it ot, Ck.adv_it os]
  exact mix_it ot os ht hs k
theorem zero_7 : zeroC.adv 7 = ⟨0, 0, 0, 0, 0, false, false, false, false, false, 7, 0, 0⟩ := by kernel_rfl
end Go.Proofs.YtjacadiaafcckaaDoor
