/-
  What the functions of the check answer that take a cartridge: impliedChrRam, restBarred, leastRest, chrRamMayBe, kindMayBe, imageLen; conditions: the cartridge's cells hold its numbers and lists.
-/
import Derived.Test.YtpdbndkckioamaaDoorChkLeaf
import Derived.Test.YtpdbndkckioamaaDoorCartsW
import Derived.Deep.DeepCutAuto
set_option linter.unusedSimpArgs false
set_option linter.unusedVariables false
namespace Go.Proofs.YtpdbndkckioamaaDoor
open Go.RowKit
/-- The cells of a cartridge with these numbers and lengths. -/
structure IsC (cs : Array Value) (c : CF) : Prop where
  size : cs.size = 19
  one : cs.all (·.oneCell') = true
  h0 : cs[0]? = some (.int .i64 c.fmt)
  h1 : cs[1]? = some (.int .i64 c.map)
  h2 : cs[2]? = some (.int .i64 c.sub)
  h3 : cs[3]? = some (.bool c.vert)
  h4 : cs[4]? = some (.bool c.four)
  h5 : cs[5]? = some (.bool c.bat)
  h6 : cs[6]? = some (.int .i64 c.con)
  h7 : cs[7]? = some (.int .i64 c.kind)
  h8 : cs[8]? = some (.int .i64 c.tim)
  h9 : cs[9]? = some (.int .i64 c.dev)
  h10 : cs[10]? = some (.int .i64 c.misc)
  h11 : cs[11]? = some (.int .i64 c.pr)
  h12 : cs[12]? = some (.int .i64 c.pn)
  h13 : cs[13]? = some (.int .i64 c.cr)
  h14 : cs[14]? = some (.int .i64 c.cn)
  h15 : ∃ a k, cs[15]? = some (.slice a c.nt k)
  h16 : ∃ a k, cs[16]? = some (.slice a c.np k)
  h17 : ∃ a k, cs[17]? = some (.slice a c.nq k)
  h18 : ∃ a k, cs[18]? = some (.slice a c.nr k)
  mt : c.nt ≤ 140737488351232
  mp : c.np ≤ 140737488351232
  mq : c.nq ≤ 140737488351232
  mr : c.nr ≤ 140737488351232

set_option maxHeartbeats 400000 in
theorem implied_any (cs : Array Value) (c : CF) (C : IsC cs c) (w : World) :
    Calls Tryd.prog 45 #[.agg cs] w fun e w' => e = .returned (.int .i64 (Chk.implied c)) ∧ Below w.heap.size w w' := by
  have hsz := C.size
  go_enter Tryd.func45, Tryd.ntmps45
  go_upto_region 1 with fail
  have hb0 : Below w.heap.size w (w.alloc (.cells cs 25)) := (Below.refl _ _).alloc (Nat.le_refl _) _
  have b0 : Blk (w.alloc (.cells cs 25)) w.heap.size cs 25 := Blk.new w cs _
  generalize w.alloc (.cells cs 25) = W at *
  obtain ⟨a, k, e17⟩ := C.h17
  have d := (b0.cell 17).trans e17
  clear hsz e17
  by_cases hq : c.nq = 0
  · have H : Hid (Chk.implied c = 8192) := by unfold Hid Chk.implied; rw [if_pos hq]
    have hq' : ((c.nq : Int) == 0) = true := by simp [hq]
    clear hq
    go_wp2
    go_ret
    exact ⟨by rw [H.out]; rfl, hb0⟩
  · have H : Hid (Chk.implied c = 0) := by unfold Hid Chk.implied; rw [if_neg hq]
    have hq' : ((c.nq : Int) == 0) = false := by simp [hq]
    clear hq
    go_wp2
    go_ret
    exact ⟨by rw [H.out]; rfl, hb0⟩

set_option maxHeartbeats 400000 in
theorem barred_any (cs : Array Value) (c : CF) (C : IsC cs c) (w : World) :
    Calls Tryd.prog 64 #[.agg cs] w fun e w' => e = .returned (.bool (decide (c.fmt = 2 ∧ c.misc = 0))) ∧ Below w.heap.size w w' := by
  have hsz := C.size
  go_enter Tryd.func64, Tryd.ntmps64
  go_upto_region 1 with fail
  have hb0 : Below w.heap.size w (w.alloc (.cells cs 25)) := (Below.refl _ _).alloc (Nat.le_refl _) _
  have b0 : Blk (w.alloc (.cells cs 25)) w.heap.size cs 25 := Blk.new w cs _
  generalize w.alloc (.cells cs 25) = W at *
  have d0 := (b0.cell 0).trans C.h0
  have d10 := (b0.cell 10).trans C.h10
  clear hsz
  by_cases h2 : c.fmt = 2
  · have h2' : (c.fmt == 2) = true := by simp [h2]
    by_cases h0 : c.misc = 0
    · have h0' : (c.misc == 0) = true := by simp [h0]
      have H : Hid (decide (c.fmt = 2 ∧ c.misc = 0) = true) := decide_eq_true ⟨h2, h0⟩
      clear h2 h0
      go_wp2
      go_ret
      exact ⟨by rw [H.out]; rfl, hb0⟩
    · have h0' : (c.misc == 0) = false := by simp [h0]
      have H : Hid (decide (c.fmt = 2 ∧ c.misc = 0) = false) := decide_eq_false fun h => h0 h.2
      clear h2 h0
      go_wp2
      go_ret
      exact ⟨by rw [H.out]; rfl, hb0⟩
  · have h2' : (c.fmt == 2) = false := by simp [h2]
    have H : Hid (decide (c.fmt = 2 ∧ c.misc = 0) = false) := decide_eq_false fun h => h2 h.1
    clear h2
    go_wp2
    go_ret
    exact ⟨by rw [H.out]; rfl, hb0⟩

/-- How many bytes must follow CHR. -/
def leastV (c : CF) : Int := if c.fmt = 1 ∧ c.con = 2 then 8192 else if c.fmt = 2 then c.misc else 0
set_option maxHeartbeats 400000 in
theorem least_any (cs : Array Value) (c : CF) (C : IsC cs c) (w : World) :
    Calls Tryd.prog 65 #[.agg cs] w fun e w' => e = .returned (.int .i64 (leastV c)) ∧ Below w.heap.size w w' := by
  have hsz := C.size
  go_enter Tryd.func65, Tryd.ntmps65
  go_upto_region 1 with fail
  have hb0 : Below w.heap.size w (w.alloc (.cells cs 25)) := (Below.refl _ _).alloc (Nat.le_refl _) _
  have b0 : Blk (w.alloc (.cells cs 25)) w.heap.size cs 25 := Blk.new w cs _
  generalize w.alloc (.cells cs 25) = W at *
  have d0 := (b0.cell 0).trans C.h0
  have d6 := (b0.cell 6).trans C.h6
  have d10 := (b0.cell 10).trans C.h10
  clear hsz
  by_cases h1 : c.fmt = 1
  · have h1' : (c.fmt == 1) = true := by simp [h1]
    have h12 : (c.fmt == 2) = false := by simp [h1]
    by_cases hc : c.con = 2
    · have hc' : (c.con == 2) = true := by simp [hc]
      have H : Hid (leastV c = 8192) := by unfold Hid leastV; rw [if_pos ⟨h1, hc⟩]
      clear h1 hc
      go_wp2
      go_ret
      exact ⟨by rw [H.out]; rfl, hb0⟩
    · have hc' : (c.con == 2) = false := by simp [hc]
      have H : Hid (leastV c = 0) := by unfold Hid leastV; rw [if_neg (fun h => hc h.2), if_neg (by omega)]
      clear h1 hc
      go_wp2
      go_ret
      exact ⟨by rw [H.out]; rfl, hb0⟩
  · have h1' : (c.fmt == 1) = false := by simp [h1]
    by_cases h2 : c.fmt = 2
    · have h2' : (c.fmt == 2) = true := by simp [h2]
      have H : Hid (leastV c = c.misc) := by unfold Hid leastV; rw [if_neg (fun h => h1 h.1), if_pos h2]
      clear h1 h2
      go_wp2
      go_ret
      exact ⟨by rw [H.out]; rfl, hb0⟩
    · have h2' : (c.fmt == 2) = false := by simp [h2]
      have H : Hid (leastV c = 0) := by unfold Hid leastV; rw [if_neg (fun h => h1 h.1), if_neg h2]
      clear h1 h2
      go_wp2
      go_ret
      exact ⟨by rw [H.out]; rfl, hb0⟩

set_option maxHeartbeats 400000 in
theorem chrRam_any (cs : Array Value) (c : CF) (C : IsC cs c) (size imp : Int) (w : World) :
    Calls Tryd.prog 71 #[.agg cs, .int .i64 size, .int .i64 imp] w fun e w' => e = .returned (.bool (Chk.chrOk c size imp)) ∧ Below w.heap.size w w' := by
  have hsz := C.size
  go_enter Tryd.func71, Tryd.ntmps71
  go_upto_region 1 with fail
  have hb0 : Below w.heap.size w (w.alloc (.cells cs 25)) := (Below.refl _ _).alloc (Nat.le_refl _) _
  have b0 : Blk (w.alloc (.cells cs 25)) w.heap.size cs 25 := Blk.new w cs _
  generalize w.alloc (.cells cs 25) = W at *
  have d0 := (b0.cell 0).trans C.h0
  clear hsz
  by_cases h2 : c.fmt = 2
  · have h2' : (c.fmt == 2) = true := by simp [h2]
    have H : Hid (Chk.chrOk c size imp = Chk.ramOk size) := by unfold Hid Chk.chrOk; rw [if_pos h2]
    clear h2
    go_wp2_with fail
    refine (ramMayBe_any size W).mono ?_
    rintro e W ⟨rfl, rfl⟩
    go_wp2
    go_ret
    exact ⟨by rw [H.out]; rfl, hb0⟩
  · have h2' : (c.fmt == 2) = false := by simp [h2]
    have H : Hid (Chk.chrOk c size imp = decide (size = imp)) := by unfold Hid Chk.chrOk; rw [if_neg h2]
    clear h2
    by_cases he : size = imp
    · have he' : (size == imp) = true := by simp [he]
      have H2 : Hid (decide (size = imp) = true) := decide_eq_true he
      clear he
      go_wp2
      go_ret
      exact ⟨by rw [H.out, H2.out]; rfl, hb0⟩
    · have he' : (size == imp) = false := by simp [he]
      have H2 : Hid (decide (size = imp) = false) := decide_eq_false he
      clear he
      go_wp2
      go_ret
      exact ⟨by rw [H.out, H2.out]; rfl, hb0⟩
end Go.Proofs.YtpdbndkckioamaaDoor
