/-
  What writeOam makes of every video memory.
-/
import Derived.Test.YtecaipakaaongaaXvPort
import Derived.Test.YtecaipakaaongaaXVF
set_option linter.unusedSimpArgs false
set_option linter.unusedVariables false
namespace Go.Proofs.Ytecaipakaaongaa
open Go.RowKit Classical
set_option maxRecDepth 100000 in
set_option maxHeartbeats 2000000 in
theorem writeOam_any (cs : Array Value) (f : Nat → Nat) (F : Fok f) (V : Vid cs f) (x : Nat) (hx : x < 256) (b : Nat) (w : World) (hb : Blk w b cs 28) :
    Calls Try.prog 28 #[.pointer (some ⟨b, 0, none⟩), .int .u8 x] w fun e w' => e = .returned (.tuple #[]) ∧ Onl b w w' ∧ ∃ cs', Blk w' b cs' 28 ∧ Vid cs' (spr f x) := by
  obtain ⟨o, eo⟩ : ∃ o, o = f 256 := ⟨_, rfl⟩
  have o256 : o < 256 := by rw [eo]; exact F.b _ (by decide)
  obtain ⟨m, hm⟩ : ∃ m, m = msk o x := ⟨_, rfl⟩
  have HM : Hid (m = msk o x) := hm
  have m256 : m < 256 := by rw [hm]; exact msk_lt _ hx
  obtain ⟨o1, ho1⟩ : ∃ o1, o1 = (o + 1) % 256 := ⟨_, rfl⟩
  have HO1 : Hid (o1 = (o + 1) % 256) := ho1
  have HEO : Hid (o = f 256) := eo
  have e1 : ((o : Int) + 1) % 256 = (o1 : Int) := by omega
  have h4 : ((o : Int)).tmod 4 = ((o % 4 : Nat) : Int) := by rw [Int.tmod_eq_emod_of_nonneg (by omega)]; rfl
  obtain ⟨q, hq⟩ : ∃ q, q = o % 4 := ⟨_, rfl⟩
  rw [← hq] at h4
  have HQ : Hid (q = o % 4) := hq
  have ha := and227 x hx
  obtain ⟨xm, hxm⟩ : ∃ xm, xm = mk8 x := ⟨_, rfl⟩
  rw [← hxm] at ha
  have HXM : Hid (xm = mk8 x) := hxm
  clear hq hxm
  have c0 : w.cell? ⟨b, 256, none⟩ = some (.int .u8 (o : Nat)) := by rw [eo]; exact (hb.cell _).trans (V.byte _ (by decide))
  have V1 : Hid (Vid (cs.setIfInBounds o (.int .u8 (m : Nat))) (upd f o m)) := V.set o m _ (cel_b _ (by omega)).symm
  have B1 : Hid (Blk ((w.setCell ⟨b, o, none⟩ (.int .u8 (m : Nat))).drew) b (cs.setIfInBounds o (.int .u8 (m : Nat))) 28) := Blk.set hb o _
  have ON : Hid (Onl b w ((w.setCell ⟨b, o, none⟩ (.int .u8 (m : Nat))).drew)) := ((Onl.refl b w).setCell o _).drew
  have fr1 := hb.free o
  have co : w.cell? ⟨b, o, none⟩ = some (.int .u8 (f o : Nat)) := (hb.cell _).trans (V.byte _ (by omega))
  clear eo hm ho1 hb V F
  generalize f o = oldv at co
  have oI : ((o : Int) < (256 : Int)) := by omega
  by_cases h2 : q = 2
  · have d2 : ((q : Int) == 2) = true := by rw [h2]; rfl
    have hmx : m = xm := by rw [HM.out, HXM.out]; unfold msk; rw [if_pos (by rw [← HQ.out]; exact h2)]
    subst hmx
    clear h2
    go_enter Try.func28, Try.ntmps28
    go_upto_region 2 with fail
    go_still_tail 9, (by kernel_rfl)
    go_upto_region 3 with fail
    generalize ((w.setCell ⟨b, o, none⟩ (.int .u8 (m : Nat))).drew) = w1 at *
    generalize (cs.setIfInBounds o (.int .u8 (m : Nat))) = cs1 at *
    have c1 : w1.cell? ⟨b, 256, none⟩ = some (.int .u8 (o : Nat)) := by
      have := (Blk.cell B1.out 256).trans (V1.out.byte 256 (by decide))
      rw [upd_ne _ _ (by omega), ← HEO.out] at this
      exact this
    have fr2 := Blk.free B1.out 256
    clear c0 co fr1
    go_wp2
    trace_state
    go_end0
    refine ⟨rfl, ON.out.setCell 256 _, _, Blk.set B1.out 256 _, ?_⟩
    have e : spr f x = upd (upd f o m) 256 o1 := by unfold spr; rw [← HEO.out, HO1.out, ← HM.out]
    rw [e]
    exact V1.out.set 256 o1 _ (cel_b _ (by decide)).symm
  · have d2 : ((q : Int) == 2) = false := by simp; omega
    have hmx : m = x := by rw [HM.out]; unfold msk; rw [if_neg (by rw [← HQ.out]; exact h2)]
    subst hmx
    clear h2
    go_enter Try.func28, Try.ntmps28
    go_upto_region 2 with fail
    go_still_tail 9, (by kernel_rfl)
    go_upto_region 3 with fail
    generalize ((w.setCell ⟨b, o, none⟩ (.int .u8 (m : Nat))).drew) = w1 at *
    generalize (cs.setIfInBounds o (.int .u8 (m : Nat))) = cs1 at *
    have c1 : w1.cell? ⟨b, 256, none⟩ = some (.int .u8 (o : Nat)) := by
      have := (Blk.cell B1.out 256).trans (V1.out.byte 256 (by decide))
      rw [upd_ne _ _ (by omega), ← HEO.out] at this
      exact this
    have fr2 := Blk.free B1.out 256
    clear c0 co fr1
    go_wp2
    trace_state
    go_end0
    refine ⟨rfl, ON.out.setCell 256 _, _, Blk.set B1.out 256 _, ?_⟩
    have e : spr f m = upd (upd f o m) 256 o1 := by unfold spr; rw [← HEO.out, HO1.out, ← HM.out]
    rw [e]
    exact V1.out.set 256 o1 _ (cel_b _ (by decide)).symm
end Go.Proofs.Ytecaipakaaongaa
