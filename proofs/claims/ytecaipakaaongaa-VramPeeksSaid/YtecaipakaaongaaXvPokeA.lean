/-
  What poke makes of a memory that is valid with its board.
-/
import Derived.Test.YtecaipakaaongaaXVP
import Derived.Test.YtecaipakaaongaaXvValid
import Derived.Test.YtecaipakaaongaaXNP
set_option linter.unusedSimpArgs false
set_option linter.unusedVariables false
namespace Go.Proofs.Ytecaipakaaongaa
open Go.RowKit Classical
/-- Of what was there only the block b may have changed. -/
structure Onb (b : Nat) (w w' : World) : Prop where
  os : w'.os = w.os
  tape : w'.tape = w.tape
  output : w'.output = w.output
  size : w.heap.size ≤ w'.heap.size
  block : ∀ k, k < w.heap.size → k ≠ b → w'.heap[k]? = w.heap[k]?
theorem Onb.refl (b : Nat) (w : World) : Onb b w w := ⟨rfl, rfl, rfl, Nat.le_refl _, fun _ _ _ => rfl⟩
theorem Onb.trans {b : Nat} {u v w : World} (h : Onb b u v) (k : Onb b v w) : Onb b u w := ⟨k.os.trans h.os, k.tape.trans h.tape, k.output.trans h.output, Nat.le_trans h.size k.size, fun j hj hb => (k.block j (Nat.lt_of_lt_of_le hj h.size) hb).trans (h.block j hj hb)⟩
theorem Onl.onb {b : Nat} {u v : World} (h : Onl b u v) : Onb b u v := ⟨h.os, h.tape, h.output, Nat.le_of_eq h.size.symm, fun k _ hk => h.block k hk⟩
theorem Onb.ofBelow {b : Nat} {u v : World} (h : Below u.heap.size u v) : Onb b u v := ⟨h.os, h.tape, h.output, h.size, fun k hk _ => h.block k hk⟩
theorem Onb.below {b B : Nat} {u v : World} (h : Onb b u v) (hB : B ≤ b) (hs : B ≤ u.heap.size) : Below B u v := ⟨h.os, h.tape, h.output, h.size, fun k hk => h.block k (by omega) (by omega)⟩
theorem Onb.blk {b b' : Nat} {u v : World} {cs : Array Value} {t : TypeId} (h : Onb b u v) (k : Blk u b' cs t) (hp : b' ≠ b) : Blk v b' cs t := (h.block _ (Blk.lt k) hp).trans k
/-- Where an address lies in a memory. -/
def whr (b : Bd) (a : Nat) : Nat := if 16128 ≤ a % 16384 then 4353 + entN a else if 8192 ≤ a % 16384 then 257 + (1024 * (pageB b ((a % 16384 : Nat) : Int)).toNat + a % 1024) else 4385 + (chrB b (((a % 16384 : Nat) : Int) / 1024) * 1024 + ((a % 16384 : Nat) : Int) % 1024).toNat
def pokF (f : Nat → Nat) (b : Bd) (a v : Nat) : Nat → Nat := if a % 16384 < 8192 ∧ b.chrRam = false then f else upd f (whr b a) (pkv a v)
theorem pageB_lt {b : Bd} (a : Int) (h0 : 0 ≤ a) : 0 ≤ pageB b a ∧ pageB b a < 4 := by
  unfold pageB
  (repeat' split) <;> omega
theorem sizes_ram {b : Bd} (h : sizes b = true) (hr : b.chrRam = true) : b.chr = 8 := by
  simp only [sizes, szs, Bool.and_eq_true, Bool.or_eq_true, hr, Bool.not_true, Bool.false_eq_true, false_or, beq_iff_eq] at h
  exact h.2.2.2.2.2.2.2.1
theorem entN_lt (a : Nat) : entN a < 32 := by unfold entN; split <;> omega
theorem pkv_lt {a v : Nat} (h : v < 256) : pkv a v < 256 := by unfold pkv; split <;> omega
theorem chrB_ram {b : Bd} (o : b.Ok) (hr : b.chrRam = true) (x : Int) : 0 ≤ chrB b x ∧ chrB b x < 8 := by
  have e := sizes_ram (valid_sizes o.val) hr
  unfold chrB
  rw [e]
  exact ⟨Int.emod_nonneg _ (by decide), Int.emod_lt_of_pos _ (by decide)⟩
theorem whr_lt {b : Bd} (o : b.Ok) (a : Nat) (h : ¬ (a % 16384 < 8192 ∧ b.chrRam = false)) : whr b a < 12577 := by
  unfold whr
  have h1 := entN_lt a
  split
  · omega
  split
  · have := pageB_lt (b := b) ((a % 16384 : Nat) : Int) (by omega)
    omega
  · have hr : b.chrRam = true := by
      cases hc : b.chrRam
      · exact absurd ⟨by omega, hc⟩ h
      · rfl
    have := chrB_ram o hr (((a % 16384 : Nat) : Int) / 1024)
    omega
theorem Fok.pok {f : Nat → Nat} (F : Fok f) {b : Bd} (o : b.Ok) (a v : Nat) (hv : v < 256) : Fok (pokF f b a v) := by
  unfold pokF
  split
  · exact F
  · rename_i h
    exact F.set _ _ (whr_lt o a h) (pkv_lt hv)
set_option maxHeartbeats 1000000 in
theorem poke_any (cs : Array Value) (f : Nat → Nat) (V : Vid cs f) (b : Bd) (B : b.Wf) (hval : validB b = true) (a v : Nat) (ha : a < 65536) (hv : v < 256) (p : Nat) (w : World) (hb : Blk w p cs 28) :
    Calls Try.prog 31 #[.pointer (some ⟨p, 0, none⟩), .agg b.cells, .int .u16 (a : Nat), .int .u8 (v : Nat)] w fun e w' => e = .returned (.tuple #[]) ∧ Onb p w w' ∧ ∃ cs', Blk w' p cs' 28 ∧ Vid cs' (pokF f b a v) := by
  have o : b.Ok := Bd.ok B hval
  have C := isB b B.rlen
  have hbs : Hid (b.cells.size = 31) := C.size
  have fin : ∀ (i x : Nat) (w2 w' : World), i < 12577 → Below w.heap.size w w2 → w' = w2.setCell ⟨p, i, none⟩ (.int .u8 (x : Nat)) → Onb p w w' ∧ ∃ cs', Blk w' p cs' 28 ∧ Vid cs' (upd f i x) := by
    intro i x w2 w' hi hB hw
    subst hw
    refine ⟨(Onb.ofBelow hB).trans ((Onl.refl p w2).setCell i _).onb, _, (hb.below (Blk.lt hb) hB).set i _, V.set i x _ (cel_b x hi).symm⟩
  by_cases h1 : 16128 ≤ a % 16384
  · have e : pokF f b a v = upd f (4353 + entN a) (pkv a v) := by unfold pokF whr; rw [if_neg (by omega), if_pos h1]
    have hl := entN_lt a
    rw [e]
    have hlf : 0 < lftP (entN a) ∧ lftP (entN a) ≤ 8192 := by unfold lftP; split <;> omega
    refine (poke_at p cs f V b.cells hbs a v (4353 + entN a) (lftP (entN a)) (lftP (entN a)) ha hv hlf.1 hlf.2 (by omega) (cel_b _ (by omega)) w hb (fun W => runAt_pal p b.cells _ a ha h1 W)).mono ?_
    rintro e w' ⟨rfl, w2, hB, hw⟩
    exact ⟨rfl, fin _ _ w2 w' (by omega) hB hw⟩
  by_cases h2 : 8192 ≤ a % 16384
  · have hpg := pageB_lt (b := b) ((a % 16384 : Nat) : Int) (by omega)
    obtain ⟨g, hg⟩ : ∃ g : Nat, g = (pageB b ((a % 16384 : Nat) : Int)).toNat := ⟨_, rfl⟩
    have hgi : pageB b ((a % 16384 : Nat) : Int) = (g : Int) := by omega
    have e : pokF f b a v = upd f (257 + (1024 * g + a % 1024)) (pkv a v) := by unfold pokF whr; rw [if_neg (by omega), if_neg h1, if_pos h2, ← hg]
    rw [e]
    have PA : ∀ W, Calls Try.prog 49 #[.agg b.cells, .int .u16 (a % 16384 : Nat)] W fun e w' => e = .returned (.int .i64 (g : Nat)) ∧ Below W.heap.size W w' := fun W => by
      have h := page_all W b ((a % 16384 : Nat) : Int) B (by omega) (by omega)
      unfold pageA at h
      rw [if_pos hval, hgi] at h
      exact h
    have g4 : g < 4 := by omega
    refine (poke_at p cs f V b.cells hbs a v (257 + (1024 * g + a % 1024)) (min (1024 - a % 1024) (16128 - a % 16384)) _ ha hv (by omega) (by omega) (by omega) (cel_b _ (by omega)) w hb (fun W => runAt_nt p b.cells hbs _ a ha h2 (by omega) g _ _ g4 rfl rfl W PA)).mono ?_
    rintro e w' ⟨rfl, w2, hB, hw⟩
    exact ⟨rfl, fin _ _ w2 w' (by omega) hB hw⟩
  · have hcl := chrB_lt o (((a % 16384 : Nat) : Int) / 1024)
    obtain ⟨k, hk⟩ : ∃ k : Nat, k = (chrB b (((a % 16384 : Nat) : Int) / 1024) * 1024 + ((a % 16384 : Nat) : Int) % 1024).toNat := ⟨_, rfl⟩
    have hki : chrB b (((a % 16384 : Nat) : Int) / 1024) * 1024 + ((a % 16384 : Nat) : Int) % 1024 = (k : Int) := by omega
    have CA : ∀ W, Calls Try.prog 50 #[.agg b.cells, .int .u16 (a % 16384 : Nat)] W fun e w' => e = .returned (.int .i64 (k : Nat)) ∧ Below W.heap.size W w' := fun W => by
      have h := chrAt_all W b ((a % 16384 : Nat) : Int) B (by omega) (by omega)
      unfold chrAtA at h
      rw [if_pos ⟨hval, by omega⟩, hki] at h
      exact h
    cases hr : b.chrRam
    · have e : pokF f b a v = f := by unfold pokF; rw [if_pos ⟨by omega, hr⟩]
      rw [e]
      refine (poke_no p b.cells hbs a v _ ha hv (by omega) w (fun W => runAt_nil p b.cells hbs (C.h6.trans (by rw [hr])) a ha (by omega) k (by omega) W CA)).mono ?_
      rintro e w' ⟨rfl, hB⟩
      exact ⟨rfl, Onb.ofBelow hB, cs, hb.below (Blk.lt hb) hB, V⟩
    · have hc8 := chrB_ram o hr (((a % 16384 : Nat) : Int) / 1024)
      have e : pokF f b a v = upd f (4385 + k) (pkv a v) := by unfold pokF whr; rw [if_neg (by rw [hr]; simp), if_neg h1, if_neg h2, ← hk]
      rw [e]
      have k8 : k < 8192 := by omega
      refine (poke_at p cs f V b.cells hbs a v (4385 + k) (min (k + (1024 - a % 1024)) 8192 - k) _ ha hv (by omega) (by omega) (by omega) (cel_b _ (by omega)) w hb (fun W => runAt_chr p b.cells hbs (C.h6.trans (by rw [hr])) _ a ha (by omega) k _ k8 rfl W CA)).mono ?_
      rintro e w' ⟨rfl, w2, hB, hw⟩
      exact ⟨rfl, fin _ _ w2 w' (by omega) hB hw⟩
end Go.Proofs.Ytecaipakaaongaa
