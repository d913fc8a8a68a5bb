/-
  A cartridge of an older format that every later one can tell: what the check says of it, and that turned there and back it is the same; plain facts, no conditions.
-/
import Derived.Test.YtpdbndkckioamaaDoorCnvCode0
set_option linter.unusedSimpArgs false
set_option linter.unusedVariables false
namespace Go.Proofs.YtpdbndkckioamaaDoor

/-- A cartridge of one of the two older formats that NES 2.0 can tell too. -/
structure Th (d : CF) : Prop where
  f : d.fmt = 0 ∨ d.fmt = 1
  m : 0 ≤ d.map ∧ d.map ≤ 15 + 240 * d.fmt
  sub : d.sub = 0
  con : 0 ≤ d.con ∧ d.con ≤ d.fmt
  kind : d.kind = 0
  tim : 0 ≤ d.tim ∧ d.tim ≤ d.fmt
  dev : d.dev = 0
  misc : d.misc = 0
  cn : d.cn = 0
  work : ∃ k : Nat, k ≤ 7 ∧ (d.fmt = 0 → k = 0) ∧ d.pr = (if d.bat = true then 0 else 8192 * 2 ^ k) ∧ d.pn = (if d.bat = true then 8192 * 2 ^ k else 0)
  np : ∃ j : Nat, 1 ≤ j ∧ j ≤ 3 ∧ d.np = 16384 * j
  nq : ∃ j : Nat, j ≤ 2 ∧ d.nq = 8192 * j
  cr : d.cr = if d.nq = 0 then 8192 else 0
  nt : d.nt = 0 ∨ d.nt = 512
  nr : d.nr ≤ 9
theorem firstNo_all : ∀ (l : List Bool) (i : Int), (∀ b ∈ l, b = true) → Chk.firstNo i l = -1
  | [], _, _ => rfl
  | b :: l, i, h => by
    have hb := h b (List.mem_cons_self ..)
    subst hb
    exact firstNo_all l (i + 1) fun b hb => h b (List.mem_cons_of_mem _ hb)
theorem ck_good (c : CF) (hf : Chk.within c.fmt 2 = true) (hm : ∀ b ∈ Chk.may c, b = true) (hl : Chk.imageLen c ≤ 2097152) : ckE c = 0 ∧ ckN c = 0 := by
  have h : Chk.wrong c = -1 := by unfold Chk.wrong; rw [if_pos hf]; exact firstNo_all _ _ hm
  unfold ckE ckN
  rw [h, if_neg (by decide), if_neg (by omega), if_neg (by decide), if_neg (by omega)]
  exact ⟨rfl, rfl⟩
theorem within_ok {n hi : Int} (h0 : 0 ≤ n) (h1 : n ≤ hi) : Chk.within n hi = true := by simp [Chk.within, h0, h1]
theorem ram_ok : ∀ k : Nat, k ≤ 7 → Chk.ramOk (8192 * 2 ^ k) = true := by decide
/-- The fields that a turning changes, each way. -/
theorem th_any (d : CF) (h : Th d) (g : Int) (ms : Int) (hg : g = 2 ∨ g = 1 ∨ g = 0) (hge : d.fmt ≤ g) (hms : ms = if g = 2 then (if d.nr = 0 then 0 else 1) else 0) : ckE { d with fmt := g, misc := ms } = 0 ∧ ckN { d with fmt := g, misc := ms } = 0 := by
  obtain ⟨k, hk, hk0, hpr, hpn⟩ := h.work
  obtain ⟨j, hj1, hj3, hnp⟩ := h.np
  obtain ⟨i, hi2, hnq⟩ := h.nq
  have hp : (1 : Int) ≤ 2 ^ k ∧ (2 : Int) ^ k ≤ 128 := by
    have : ∀ k : Nat, k ≤ 7 → (1 : Int) ≤ 2 ^ k ∧ (2 : Int) ^ k ≤ 128 := by decide
    exact this k hk
  have hram := ram_ok k hk
  have w0 : ∀ (n : Int), n = 0 → Chk.ramOk n = true := by intro n hn; subst hn; decide
  have hcr : Chk.ramOk d.cr = true := by rw [h.cr]; split <;> decide
  have hmod : (8192 * (2 : Int) ^ k).tmod 8192 = 0 := by rw [Int.mul_tmod_right]
  have hdiv : (8192 * (2 : Int) ^ k).tdiv 8192 = 2 ^ k := by rw [Int.mul_tdiv_cancel_left _ (by decide)]
  have hf := h.f
  have hmm := h.m
  have hc := h.con
  have ht := h.tim
  have hnt := h.nt
  have hnr := h.nr
  refine ck_good _ (within_ok (by show 0 ≤ g; omega) (by show g ≤ 2; omega)) ?_ (by unfold Chk.imageLen; show 16 + d.nt + d.np + d.nq + d.nr ≤ _; omega)
  have rows : g = 2 ∧ Chk.row g = [4095, 15, 3, 3, 63, 3, 0] ∨ g = 1 ∧ Chk.row g = [255, 0, 2, 1, 0, 0, 255] ∨ g = 0 ∧ d.fmt = 0 ∧ Chk.row g = [15, 0, 0, 0, 0, 0, 1] := by
    rcases hg with rfl | rfl | rfl
    · exact .inl ⟨rfl, rfl⟩
    · exact .inr (.inl ⟨rfl, rfl⟩)
    · exact .inr (.inr ⟨rfl, by omega, rfl⟩)
  have r0 : ∀ n m : Nat, Chk.romOk { d with fmt := g, misc := ms } n m = fun most => (decide (n ≤ most) && (decide (n % m = 0) || (decide (g = 2) && decide (Chk.oddPart 64 n ≤ 7)))) := fun _ _ => rfl
  intro b hb
  simp only [Chk.may, List.mem_cons, List.not_mem_nil, or_false] at hb
  have imp : Chk.implied { d with fmt := g, misc := ms } = d.cr := by rw [h.cr]; rfl
  rcases rows with ⟨rfl, hr⟩ | ⟨rfl, hr⟩ | ⟨rfl, hz, hr⟩
  · simp only [if_true] at hms
    rcases hb with rfl | rfl | rfl | rfl | rfl | rfl | rfl | rfl | rfl | rfl | rfl | rfl | rfl | rfl | rfl | rfl | rfl | rfl | rfl
    · rfl
    · rw [hr]; exact within_ok hmm.1 (by simp; omega)
    · rw [hr]; exact within_ok (by rw [h.sub]; decide) (by rw [h.sub]; decide)
    · rfl
    · rfl
    · rfl
    · rw [hr]; exact within_ok hc.1 (by simp; omega)
    · simp only [Chk.kindOk, if_true]; rw [h.kind]; refine within_ok (by decide) ?_; unfold Chk.kindTop; split <;> (try split) <;> decide
    · rw [hr]; exact within_ok ht.1 (by simp; omega)
    · rw [hr]; exact within_ok (by rw [h.dev]; decide) (by rw [h.dev]; decide)
    · rw [hr]; refine within_ok ?_ ?_ <;> (show _ ≤ _; simp only [hms]; split <;> decide)
    · simp only [Chk.workOk, if_true]; rw [hpr]; split; exact w0 _ rfl; exact hram
    · simp only [Chk.workOk, if_true]; rw [hpn]; split; exact hram; exact w0 _ rfl
    · simp only [Chk.chrOk, if_true]; exact hcr
    · simp only [Chk.chrOk, if_true]; exact w0 _ h.cn
    · rcases hnt with e | e <;> simp [e]
    · simp [Chk.romOk, hnp]; omega
    · simp [Chk.romOk, hnq]; omega
    · simp only [Chk.restOk]
      by_cases e : d.nr = 0
      · rw [if_pos e] at hms
        simp [hms, e]
      · rw [if_neg e] at hms
        simp [hms]
        omega
  · simp at hms
    subst hms
    rcases hb with rfl | rfl | rfl | rfl | rfl | rfl | rfl | rfl | rfl | rfl | rfl | rfl | rfl | rfl | rfl | rfl | rfl | rfl | rfl
    · rfl
    · rw [hr]; exact within_ok hmm.1 (by simp; omega)
    · rw [hr]; exact within_ok (by rw [h.sub]; decide) (by rw [h.sub]; decide)
    · rfl
    · rfl
    · rfl
    · rw [hr]; exact within_ok hc.1 (by simp; omega)
    · simp [Chk.kindOk, h.kind]
    · rw [hr]; exact within_ok ht.1 (by simp; omega)
    · rw [hr]; exact within_ok (by rw [h.dev]; decide) (by rw [h.dev]; decide)
    · rw [hr]; exact within_ok (by decide) (by decide)
    · simp only [Chk.workOk, hr]; rw [hpr]; cases d.bat <;> simp [hmod, hdiv] <;> omega
    · simp only [Chk.workOk, hr]; rw [hpn]; cases d.bat <;> simp [hmod, hdiv] <;> omega
    · simp [Chk.chrOk, imp]
    · simp [Chk.chrOk, h.cn]
    · rcases hnt with e | e <;> simp [e]
    · simp [Chk.romOk, hnp]; omega
    · simp [Chk.romOk, hnq]; omega
    · simp only [Chk.restOk]; simp; omega
  · simp at hms
    subst hms
    obtain rfl := hk0 hz
    rcases hb with rfl | rfl | rfl | rfl | rfl | rfl | rfl | rfl | rfl | rfl | rfl | rfl | rfl | rfl | rfl | rfl | rfl | rfl | rfl
    · rfl
    · rw [hr]; exact within_ok hmm.1 (by simp; omega)
    · rw [hr]; exact within_ok (by rw [h.sub]; decide) (by rw [h.sub]; decide)
    · rfl
    · rfl
    · rfl
    · rw [hr]; exact within_ok hc.1 (by simp; omega)
    · simp [Chk.kindOk, h.kind]
    · rw [hr]; exact within_ok ht.1 (by simp; omega)
    · rw [hr]; exact within_ok (by rw [h.dev]; decide) (by rw [h.dev]; decide)
    · rw [hr]; exact within_ok (by decide) (by decide)
    · simp only [Chk.workOk, hr]; rw [hpr]; cases d.bat <;> simp
    · simp only [Chk.workOk, hr]; rw [hpn]; cases d.bat <;> simp
    · simp [Chk.chrOk, imp]
    · simp [Chk.chrOk, h.cn]
    · rcases hnt with e | e <;> simp [e]
    · simp [Chk.romOk, hnp]; omega
    · simp [Chk.romOk, hnq]; omega
    · simp only [Chk.restOk]; simp; try omega
/-- The formats that such a cartridge can be told in. -/
def Fit (d : CF) (f : Int) : Prop := f = 2 ∨ f = d.fmt ∨ d.fmt = 0 ∧ f = 1
theorem Th.self {d : CF} (h : Th d) : ckE d = 0 ∧ ckN d = 0 := by
  have e : ({ d with fmt := d.fmt, misc := 0 } : CF) = d := by have := h.misc; cases d; simp_all
  have := th_any d h d.fmt 0 (by have := h.f; omega) (Int.le_refl _) (by rw [if_neg (by have := h.f; omega)])
  rwa [e] at this
theorem Th.turn {d : CF} (h : Th d) {f : Int} (hf : Fit d f) : ckE (cvD d f) = 0 ∧ ckN (cvD d f) = 0 := by
  have hd := h.f
  unfold cvD
  refine th_any d h f _ ?_ ?_ ?_
  · rcases hf with h1 | h1 | h1 <;> omega
  · rcases hf with h1 | h1 | h1 <;> omega
  · unfold tmN
    by_cases e : f = 2
    · rw [if_pos ⟨by omega, e⟩, if_pos e]
    · rw [if_neg (fun x => e x.2), if_neg (by omega), if_neg e]; exact h.misc
theorem Th.back {d : CF} (h : Th d) (f : Int) : cvD (cvD d f) d.fmt = d := by
  have hd := h.f
  have hm := h.misc
  have e : tmN (cvD d f) d.fmt = d.misc := by
    unfold tmN
    rw [if_neg (by omega)]
    show (if f = 2 ∧ d.fmt ≠ 2 ∧ tmN d f = 1 then (0 : Int) else tmN d f) = d.misc
    rw [hm]
    split
    · rfl
    · next hn =>
      unfold tmN at hn ⊢
      by_cases e : f = 2
      · rw [if_pos ⟨by omega, e⟩] at hn ⊢
        by_cases r : d.nr = 0
        · rw [if_pos r]
        · rw [if_neg r] at hn
          exact absurd ⟨e, by omega, rfl⟩ hn
      · rw [if_neg (fun x => e x.2), if_neg (by omega)]; exact hm
  show ({ d with fmt := d.fmt, misc := tmN (cvD d f) d.fmt } : CF) = d
  rw [e]
theorem Th.well {d : CF} (h : Th d) {f : Int} (hf : Fit d f) : cvK d f = 3 ∧ cvK (cvD d f) d.fmt = 3 := by
  have hd := h.f
  have h0 := h.self.1
  have h1 := (h.turn hf).1
  constructor
  · unfold cvK
    rw [if_neg (by rcases hf with x | x | x <;> omega), if_neg (by rw [h0]; simp), if_neg (by rw [h1]; simp)]
  · unfold cvK
    rw [if_neg (by omega), if_neg (by rw [h1]; simp), h.back f, if_neg (by rw [h0]; simp)]
end Go.Proofs.YtpdbndkckioamaaDoor
