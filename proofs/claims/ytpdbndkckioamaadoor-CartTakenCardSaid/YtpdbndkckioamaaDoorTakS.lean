/-
  What Parse takes, the check lets by; plain facts, no conditions.
  Facts on the header that a cartridge is printed with; plain facts, no conditions.
  What is printed is read as it was; plain facts, no conditions.
-/
import Derived.Test.YtpdbndkckioamaaDoorPagU
import Derived.Test.YtpdbndkckioamaaDoorPcuW
set_option linter.unusedSimpArgs false
set_option linter.unusedVariables false
namespace Go.Proofs.YtpdbndkckioamaaDoor
open Go.RowKit Classical
theorem firstNo_yes : ∀ (l : List Bool) (i : Int), (∀ b ∈ l, b = true) → Chk.firstNo i l = -1
  | [], _, _ => rfl
  | b :: l, i, h => by
    show (if b then Chk.firstNo (i + 1) l else i) = -1
    rw [if_pos (h b (List.mem_cons_self ..))]
    exact firstNo_yes l (i + 1) fun x hx => h x (List.mem_cons_of_mem _ hx)
theorem ramOk_rz : ∀ k : Nat, k ≤ 15 → Chk.ramOk ((rz k : Nat) : Int) = true := by decide +kernel
theorem odd_pow (m : Nat) (hm : m % 2 = 1) : ∀ (f e : Nat), e < f → Chk.oddPart f (m * 2 ^ e) = m
  | f + 1, 0, _ => by
    show (if m * 2 ^ 0 % 2 = 0 then Chk.oddPart f (m * 2 ^ 0 / 2) else m * 2 ^ 0) = m
    rw [Nat.pow_zero, Nat.mul_one, if_neg (by omega)]
  | f + 1, e + 1, h => by
    show (if m * 2 ^ (e + 1) % 2 = 0 then Chk.oddPart f (m * 2 ^ (e + 1) / 2) else m * 2 ^ (e + 1)) = m
    have e1 : m * 2 ^ (e + 1) = m * 2 ^ e * 2 := by rw [Nat.pow_succ, Nat.mul_assoc]
    rw [e1, if_pos (by omega), Nat.mul_div_cancel _ (by decide)]
    exact odd_pow m hm f e (by omega)
theorem sz_rom (low high unit : Nat) (hu : 0 < unit) : Hq.sz low high unit % unit = 0 ∨ (high = 15 ∧ Chk.oddPart 64 (Hq.sz low high unit) ≤ 7) := by
  unfold Hq.sz
  by_cases h : high = 15
  · rw [if_pos h]
    refine .inr ⟨h, ?_⟩
    rw [odd_pow (2 * (low % 4) + 1) (by omega) 64 (min (low / 4) 32) (by omega)]
    omega
  · rw [if_neg h]
    exact .inl (Nat.mul_mod_left _ _)
theorem fb_none (h : Hq) : ∀ (k i : Nat), 0 < i → h.fb k i = 0 → ∀ j, i ≤ j → j < i + k → bits BinOp.and IntKind.u8 ((h.l.getD j 0 : Nat) : Int) ((h.rs.getD j 0 : Nat) : Int) = 0
  | 0, i, _, _, j, h1, h2 => absurd h2 (by omega)
  | k + 1, i, hi, he, j, h1, h2 => by
    have e : (if bits BinOp.and IntKind.u8 ((h.l.getD i 0 : Nat) : Int) ((h.rs.getD i 0 : Nat) : Int) = 0 then h.fb k (i + 1) else i) = 0 := he
    by_cases hz : bits BinOp.and IntKind.u8 ((h.l.getD i 0 : Nat) : Int) ((h.rs.getD i 0 : Nat) : Int) = 0
    · rw [if_pos hz] at e
      rcases (show j = i ∨ i + 1 ≤ j by omega) with rfl | hj
      · exact hz
      · exact fb_none h k (i + 1) (by omega) e j hj (by omega)
    · rw [if_neg hz] at e; omega
theorem rs_zero (h : Hq) : h.rs.getD 0 0 = 0 := by
  unfold Hq.rs
  split
  · rfl
  · split <;> rfl
theorem bad_at (h : Hq) (B : h.Ok) (hb : h.bad = 0) (j : Nat) (h1 : 1 ≤ j) (h2 : j < 16) : bits BinOp.and IntKind.u8 ((h.l.getD j 0 : Nat) : Int) ((h.rs.getD j 0 : Nat) : Int) = 0 := by
  have e : (if bits BinOp.and IntKind.u8 ((h.l.getD 0 0 : Nat) : Int) ((h.rs.getD 0 0 : Nat) : Int) = 0 then h.fb 15 1 else 0) = 0 := hb
  rw [rs_zero, if_pos (show bits BinOp.and IntKind.u8 ((h.l.getD 0 0 : Nat) : Int) ((0 : Nat) : Int) = 0 from and_z h.b0 B.k0)] at e
  exact fb_none h 15 1 (by decide) e j h1 (by omega)
theorem and_255 : ∀ t : Fin 256, bits BinOp.and IntKind.u8 ((t.val : Nat) : Int) 255 = ((t.val : Nat) : Int) ∧ (bits BinOp.and IntKind.u8 ((t.val : Nat) : Int) 240 = 0 → t.val < 16) := by decide +kernel
/-- What the reserved bits say. -/
theorem con_ok (h : Hq) (B : h.Ok) (hb : h.bad = 0) (hf : h.f = 1) : h.b7 % 4 ≤ 2 := by
  have e := bad_at h B hb 7 (by decide) (by decide)
  have er : h.rs.getD 7 0 = if h.b7 % 4 = 3 then 3 else 0 := by unfold Hq.rs; rw [if_pos hf]; rfl
  rw [er] at e
  by_cases h3 : h.b7 % 4 = 3
  · rw [if_pos h3] at e
    have e2 : bits BinOp.and IntKind.u8 ((h.b7 : Nat) : Int) 3 = 0 := e
    rw [(by_and h.b7 B.k7).2.1, h3] at e2
    exact absurd e2 (by decide)
  · omega
theorem kind_ok (h : Hq) (B : h.Ok) (hb : h.bad = 0) (hf : h.f = 2) : (h.b13 : Int) ≤ Chk.kindTop ((h.b7 % 4 : Nat) : Int) := by
  have e := bad_at h B hb 13 (by decide) (by decide)
  have er : h.rs.getD 13 0 = Hq.kdM (h.b7 % 4) := by unfold Hq.rs; rw [if_neg (by omega), if_pos hf]; rfl
  rw [er] at e
  have hk := B.k13
  rcases (show h.b7 % 4 = 0 ∨ h.b7 % 4 = 1 ∨ h.b7 % 4 = 2 ∨ h.b7 % 4 = 3 by omega) with h0 | h0 | h0 | h0 <;> rw [h0] at e ⊢
  · have e2 : bits BinOp.and IntKind.u8 ((h.b13 : Nat) : Int) 255 = 0 := e
    rw [(and_255 ⟨h.b13, hk⟩).1] at e2
    have e3 : (h.b13 : Int) = 0 := e2
    show (h.b13 : Int) ≤ 0
    omega
  · show (h.b13 : Int) ≤ 255; omega
  · have e2 : bits BinOp.and IntKind.u8 ((h.b13 : Nat) : Int) 255 = 0 := e
    rw [(and_255 ⟨h.b13, hk⟩).1] at e2
    have e3 : (h.b13 : Int) = 0 := e2
    show (h.b13 : Int) ≤ 0
    omega
  · have e2 := (and_255 ⟨h.b13, hk⟩).2 e
    show (h.b13 : Int) ≤ 15
    have e3 : h.b13 < 16 := e2
    omega
theorem within_of {n : Nat} {hi : Int} (h : (n : Int) ≤ hi) : Chk.within ((n : Nat) : Int) hi = true := by
  unfold Chk.within
  simp [h]
/-- What is not wrong. -/
theorem e_none (h : Hq) (n : Nat) (he : (h.e n).1 = 0) : ((h.bad = 0 ∧ (h.prg ≠ 0 ∧ h.prg ≤ 1048576)) ∧ (h.chr ≤ 524288 ∧ h.fin ≤ n)) ∧ (¬ (h.f = 2 ∧ h.b14 % 4 = 0 ∧ h.fin < n) ∧ h.least ≤ n - h.fin) := by
  revert he
  unfold Hq.e
  repeat' split
  all_goals first | (intro he; simp at he; done) | (intro _; refine ⟨⟨⟨?_, ?_, ?_⟩, ?_, ?_⟩, ?_, ?_⟩ <;> first | assumption | omega)
/-- What Parse takes, the check lets by. -/
theorem pz_wrong (L : List Nat) (hB : Bytes L) (h0 : (pz L).1 = 0) : Chk.wrong (pC L) = -1 ∧ Chk.imageLen (pC L) ≤ 2097152 := by
  have hlen : L.length ≤ 2097152 ∧ ((hdOf L).e L.length).1 = 0 := by
    have h1 := h0
    unfold pz at h1
    by_cases hb : 2097152 < L.length
    · rw [if_pos hb] at h1; exact absurd h1 (by decide)
    · rw [if_neg hb] at h1
      by_cases hf : (frontE L L.length).1 ≠ 0
      · rw [if_pos hf] at h1; exact absurd h1 hf
      · rw [if_neg hf] at h1; exact ⟨by omega, h1⟩
  have ec : pC L = (hdOf L).cf (hdOf L).cr (hdOf L).tr (hdOf L).prg (hdOf L).chr (L.length - (hdOf L).fin) := if_pos h0
  have B := hd_ok L hB
  rw [ec]
  obtain ⟨hmax, he⟩ := hlen
  generalize hdOf L = h at *
  obtain ⟨⟨⟨hbad, hp0, hp1⟩, hq, hfin⟩, htl, hle⟩ := e_none h L.length he
  generalize L.length = n at *
  have efin : h.fin = 16 + h.tr + h.prg + h.chr := rfl
  have ltr : h.tr = 0 ∨ h.tr = 512 := by unfold Hq.tr; split <;> omega
  refine ⟨?_, by show 16 + h.tr + h.prg + h.chr + (n - h.fin) ≤ 2097152; omega⟩
  have k4 := B.k4; have k5 := B.k5; have k6 := B.k6; have k7 := B.k7; have k8 := B.k8; have k9 := B.k9; have k10 := B.k10; have k11 := B.k11; have k12 := B.k12; have k13 := B.k13; have k14 := B.k14; have k15 := B.k15
  have hwu : 1 ≤ h.wu ∧ h.wu ≤ 255 ∧ (h.f = 0 → h.wu = 1) := by
    unfold Hq.wu
    by_cases hf : h.f = 1
    · rw [if_pos hf]; omega
    · rw [if_neg hf]; omega
  have romP : ∀ c : CF, (c.fmt = ((h.f : Nat) : Int)) → Chk.romOk c h.prg 16384 1048576 = true := fun c hc => by
    unfold Chk.romOk
    rw [hc]
    have hs : h.prg % 16384 = 0 ∨ ((if h.f = 2 then h.b9 % 16 else 0) = 15 ∧ Chk.oddPart 64 h.prg ≤ 7) := sz_rom h.b4 _ 16384 (by decide)
    rcases hs with e | ⟨e, e'⟩
    · simp [e, hp1]
    · have hf : h.f = 2 := by by_cases hx : h.f = 2; exact hx; rw [if_neg hx] at e; omega
      simp [hf, e', hp1]
  have romQ : ∀ c : CF, (c.fmt = ((h.f : Nat) : Int)) → Chk.romOk c h.chr 8192 524288 = true := fun c hc => by
    unfold Chk.romOk
    rw [hc]
    have hs : h.chr % 8192 = 0 ∨ ((if h.f = 2 then h.b9 / 16 else 0) = 15 ∧ Chk.oddPart 64 h.chr ≤ 7) := sz_rom h.b5 _ 8192 (by decide)
    rcases hs with e | ⟨e, e'⟩
    · simp [e, hq]
    · have hf : h.f = 2 := by by_cases hx : h.f = 2; exact hx; rw [if_neg hx] at e; omega
      simp [hf, e', hq]
  have htr2 : (decide (h.tr = 0) || decide (h.tr = 512)) = true := by rcases ltr with e | e <;> simp [e]
  have hnp : decide (0 < h.prg) = true := by simp; omega
  obtain ⟨cc, hcc⟩ : ∃ cc, h.cf h.cr h.tr h.prg h.chr (n - h.fin) = cc := ⟨_, rfl⟩
  have efm : cc.fmt = ((h.f : Nat) : Int) := by rw [← hcc]; rfl
  rw [hcc]
  have hall : ∀ b ∈ Chk.may cc, b = true := by
    unfold Chk.may
    have e1 : cc.nt = h.tr := by rw [← hcc]; rfl
    have e2 : cc.np = h.prg := by rw [← hcc]; rfl
    have e3 : cc.nq = h.chr := by rw [← hcc]; rfl
    have e4 : cc.nr = n - h.fin := by rw [← hcc]; rfl
    have m1 : Chk.within cc.map ((Chk.row cc.fmt).getD 0 0) = true := by
      have em : cc.map = ((if h.f = 2 then h.b6 / 16 + h.b7 / 16 * 16 + h.b8 % 16 * 256 else if h.f = 1 then h.b6 / 16 + h.b7 / 16 * 16 else h.b6 / 16 : Nat) : Int) := by rw [← hcc]; rfl
      rw [em, efm]
      rcases h.f_lt with e | e | e <;> rw [e] <;> refine within_of ?_ <;> simp [Chk.row] <;> omega
    have m2 : Chk.within cc.sub ((Chk.row cc.fmt).getD 1 0) = true := by
      have em : cc.sub = ((if h.f = 2 then h.b8 / 16 else 0 : Nat) : Int) := by rw [← hcc]; rfl
      rw [em, efm]
      rcases h.f_lt with e | e | e <;> rw [e] <;> refine within_of ?_ <;> simp [Chk.row] <;> omega
    have m3 : Chk.within cc.con ((Chk.row cc.fmt).getD 2 0) = true := by
      have em : cc.con = ((if h.f = 0 then 0 else h.b7 % 4 : Nat) : Int) := by rw [← hcc]; rfl
      have h1 : h.f = 1 → h.b7 % 4 ≤ 2 := con_ok h B hbad
      rw [em, efm]
      rcases h.f_lt with e | e | e <;> rw [e] at h1 ⊢ <;> refine within_of ?_ <;> simp [Chk.row] <;> omega
    have m4 : Chk.kindOk cc = true := by
      have em : cc.kind = ((if h.f = 2 then h.b13 else 0 : Nat) : Int) := by rw [← hcc]; rfl
      have ek : cc.con = ((if h.f = 0 then 0 else h.b7 % 4 : Nat) : Int) := by rw [← hcc]; rfl
      have h2 : h.f = 2 → (h.b13 : Int) ≤ Chk.kindTop ((h.b7 % 4 : Nat) : Int) := kind_ok h B hbad
      unfold Chk.kindOk
      rw [em, ek, efm]
      rcases h.f_lt with e | e | e <;> rw [e] at h2 ⊢
      · simp
      · simp
      · rw [if_pos rfl, if_pos (show ((2 : Nat) : Int) = 2 from rfl), if_neg (by decide)]
        exact within_of (h2 rfl)
    have m5 : Chk.within cc.tim ((Chk.row cc.fmt).getD 3 0) = true := by
      have em : cc.tim = ((if h.f = 2 then h.b12 % 4 else if h.f = 1 then h.b9 % 2 else 0 : Nat) : Int) := by rw [← hcc]; rfl
      rw [em, efm]
      rcases h.f_lt with e | e | e <;> rw [e] <;> refine within_of ?_ <;> simp [Chk.row] <;> omega
    have m6 : Chk.within cc.dev ((Chk.row cc.fmt).getD 4 0) = true := by
      have em : cc.dev = ((if h.f = 2 then h.b15 % 64 else 0 : Nat) : Int) := by rw [← hcc]; rfl
      rw [em, efm]
      rcases h.f_lt with e | e | e <;> rw [e] <;> refine within_of ?_ <;> simp [Chk.row] <;> omega
    have m7 : Chk.within cc.misc ((Chk.row cc.fmt).getD 5 0) = true := by
      have em : cc.misc = ((if h.f = 2 then h.b14 % 4 else 0 : Nat) : Int) := by rw [← hcc]; rfl
      rw [em, efm]
      rcases h.f_lt with e | e | e <;> rw [e] <;> refine within_of ?_ <;> simp [Chk.row] <;> omega
    have m8 : Chk.workOk cc cc.pr (!cc.bat) = true := by
      have em : cc.pr = ((if h.f = 2 then rz (h.b10 % 16) else if h.bat then 0 else h.wu * 8192 : Nat) : Int) := by rw [← hcc]; rfl
      have eb : cc.bat = h.bat := by rw [← hcc]; rfl
      obtain ⟨u1, u2, u3⟩ := hwu
      have td : (((h.wu * 8192 : Nat) : Int)).tdiv 8192 = ((h.wu : Nat) : Int) := by rw [Int.tdiv_eq_ediv_of_nonneg (by omega)]; omega
      have tm : (((h.wu * 8192 : Nat) : Int)).tmod 8192 = 0 := by rw [Int.tmod_eq_emod_of_nonneg (by omega)]; omega
      have tp : (0 : Int) < ((h.wu * 8192 : Nat) : Int) := by omega
      unfold Chk.workOk
      rw [em, eb, efm]
      generalize h.wu * 8192 = ww at *
      by_cases f2 : h.f = 2
      · rw [f2, if_pos rfl, if_pos (show ((2 : Nat) : Int) = 2 from rfl)]
        exact ramOk_rz _ (by omega)
      · rw [if_neg f2, if_neg (by omega)]
        have hr : ((h.wu : Nat) : Int) ≤ (Chk.row ((h.f : Nat) : Int)).getD 6 0 := by
          rcases h.f_lt with e | e | e
          · rw [e, u3 e]; decide
          · rw [e]; simp [Chk.row]; omega
          · exact absurd e f2
        generalize (Chk.row ((h.f : Nat) : Int)).getD 6 0 = rr at *
        have tq : 0 < ww := by omega
        clear tp
        cases h.bat
        · first | (simp [tq, tm, td, hr]; done) | (simp; omega)
        · first | (simp [tq, tm, td, hr]; done) | (simp; omega)
    have m9 : Chk.workOk cc cc.pn cc.bat = true := by
      have em : cc.pn = ((if h.f = 2 then rz (h.b10 / 16) else if h.bat then h.wu * 8192 else 0 : Nat) : Int) := by rw [← hcc]; rfl
      have eb : cc.bat = h.bat := by rw [← hcc]; rfl
      obtain ⟨u1, u2, u3⟩ := hwu
      have td : (((h.wu * 8192 : Nat) : Int)).tdiv 8192 = ((h.wu : Nat) : Int) := by rw [Int.tdiv_eq_ediv_of_nonneg (by omega)]; omega
      have tm : (((h.wu * 8192 : Nat) : Int)).tmod 8192 = 0 := by rw [Int.tmod_eq_emod_of_nonneg (by omega)]; omega
      have tp : (0 : Int) < ((h.wu * 8192 : Nat) : Int) := by omega
      unfold Chk.workOk
      rw [em, eb, efm]
      generalize h.wu * 8192 = ww at *
      by_cases f2 : h.f = 2
      · rw [f2, if_pos rfl, if_pos (show ((2 : Nat) : Int) = 2 from rfl)]
        exact ramOk_rz _ (by omega)
      · rw [if_neg f2, if_neg (by omega)]
        have hr : ((h.wu : Nat) : Int) ≤ (Chk.row ((h.f : Nat) : Int)).getD 6 0 := by
          rcases h.f_lt with e | e | e
          · rw [e, u3 e]; decide
          · rw [e]; simp [Chk.row]; omega
          · exact absurd e f2
        generalize (Chk.row ((h.f : Nat) : Int)).getD 6 0 = rr at *
        have tq : 0 < ww := by omega
        clear tp
        cases h.bat
        · first | (simp [tq, tm, td, hr]; done) | (simp; omega)
        · first | (simp [tq, tm, td, hr]; done) | (simp; omega)
    have m10 : Chk.chrOk cc cc.cr (Chk.implied cc) = true := by
      have em : cc.cr = h.cr := by rw [← hcc]; rfl
      unfold Chk.chrOk Chk.implied
      rw [em, e3, efm]
      unfold Hq.cr
      by_cases f2 : h.f = 2
      · rw [if_pos f2, f2, if_pos (show ((2 : Nat) : Int) = 2 from rfl)]
        exact ramOk_rz _ (by omega)
      · rw [if_neg f2, if_neg (by omega)]
        simp
    have m11 : Chk.chrOk cc cc.cn 0 = true := by
      have em : cc.cn = ((if h.f = 2 then rz (h.b11 / 16) else 0 : Nat) : Int) := by rw [← hcc]; rfl
      unfold Chk.chrOk
      rw [em, efm]
      by_cases f2 : h.f = 2
      · rw [if_pos f2, f2, if_pos (show ((2 : Nat) : Int) = 2 from rfl)]
        exact ramOk_rz _ (by omega)
      · rw [if_neg f2, if_neg (by omega)]
        simp
    have m12 : Chk.restOk cc = true := by
      have em : cc.misc = ((if h.f = 2 then h.b14 % 4 else 0 : Nat) : Int) := by rw [← hcc]; rfl
      have ek : cc.con = ((if h.f = 0 then 0 else h.b7 % 4 : Nat) : Int) := by rw [← hcc]; rfl
      unfold Chk.restOk
      unfold Hq.least at hle
      rw [em, ek, efm, e4]
      generalize h.b14 % 4 = mi at *
      generalize h.b7 % 4 = co at *
      rcases h.f_lt with e | e | e <;> rw [e] at hle htl ⊢
      · simp
      · by_cases hc : co = 2
        · subst hc; simp at hle ⊢; omega
        · have hc' : ¬ ((co : Nat) : Int) = 2 := by omega
          simp [hc']
      · by_cases hm : mi = 0
        · subst hm; simp at htl ⊢; omega
        · have hm' : ¬ ((mi : Nat) : Int) = 0 := by omega
          have hle' : mi ≤ n - h.fin := by simpa using hle
          generalize n - h.fin = nf at *
          clear hle htl e4
          simp [hm']
          rw [if_neg hm]
          exact hle'
    have m13 := romP cc efm
    have m14 := romQ cc efm
    rw [m1, m2, m3, m4, m5, m6, m7, m8, m9, m10, m11, m12, e1, e2, e3, htr2, hnp, m13, m14]
    simp
  unfold Chk.wrong
  rw [if_pos (by rw [efm]; rcases h.f_lt with e | e | e <;> rw [e] <;> rfl)]
  exact firstNo_yes _ _ hall
end Go.Proofs.YtpdbndkckioamaaDoor
namespace Go.Proofs.YtpdbndkckioamaaDoor
open Go.RowKit Classical
theorem sz_back (n unit : Nat) (hu : unit = 16384 ∨ unit = 8192) (hb : n ≤ 1048576) (ho : n % unit = 0 ∨ Chk.oddPart 64 n ≤ 7) : Hq.sz (loB n unit) (hiB n unit) unit = n := by
  unfold Hq.sz loB hiB
  by_cases h0 : n % unit = 0
  · rw [if_pos h0, if_pos h0, if_neg (by decide), Nat.zero_mul, Nat.zero_add]
    exact Nat.div_mul_cancel (Nat.dvd_of_mod_eq_zero h0)
  · rw [if_neg h0, if_neg h0, if_pos rfl]
    have h7 : Chk.oddPart 64 n ≤ 7 := ho.resolve_left h0
    have hn0 : n ≠ 0 := fun h => h0 (by rw [h]; exact Nat.zero_mod _)
    have hc : Lib.ctz 64 n = Lib.ctzFrom 64 n := by rw [Lib.ctz, if_neg hn0]
    have h2 := odd_mul 64 n (by omega) (by omega)
    rw [← hc] at h2
    have h1 := odd_of n hn0 (by omega) 64 (by omega)
    generalize Chk.oddPart 64 n = o at *
    generalize Lib.ctz 64 n = k at *
    have hk : k ≤ 32 := by
      rcases Nat.lt_or_ge 32 k with h | h
      · have h3 : 2 ^ 33 ≤ 2 ^ k := Nat.pow_le_pow_right (by decide) h
        have h6 := Nat.mul_le_mul_right (2 ^ k) (show 1 ≤ o by omega)
        omega
      · exact h
    rw [show (k * 4 + o / 2) % 4 = o / 2 by omega, show (k * 4 + o / 2) / 4 = k by omega, Nat.min_eq_left hk, show 2 * (o / 2) + 1 = o by omega]
    exact h2
theorem cf_eq {a b : CF} (h1 : a.fmt = b.fmt) (h2 : a.map = b.map) (h3 : a.sub = b.sub) (h4 : a.con = b.con) (h5 : a.kind = b.kind) (h6 : a.tim = b.tim) (h7 : a.dev = b.dev) (h8 : a.misc = b.misc) (h9 : a.pr = b.pr) (h10 : a.pn = b.pn) (h11 : a.cr = b.cr) (h12 : a.cn = b.cn)
    (h13 : a.vert = b.vert) (h14 : a.four = b.four) (h15 : a.bat = b.bat) (h16 : a.nt = b.nt) (h17 : a.np = b.np) (h18 : a.nq = b.nq) (h19 : a.nr = b.nr) : a = b := by
  cases a; cases b
  simp only at h1 h2 h3 h4 h5 h6 h7 h8 h9 h10 h11 h12 h13 h14 h15 h16 h17 h18 h19
  subst h1 h2 h3 h4 h5 h6 h7 h8 h9 h10 h11 h12 h13 h14 h15 h16 h17 h18 h19
  rfl
/-- The headers of the three formats. -/
def hq0 (c : CF) (x : HN) : Hq := ⟨78, 69, 83, 26, loB c.np 16384, loB c.nq 8192, Go.Proofs.YtpdbndkckioamaaDoor.h6 c x, 4, 0, 0, 0, 0, 0, 0, 0, 0⟩
def hq1 (c : CF) (x : HN) : Hq := ⟨78, 69, 83, 26, loB c.np 16384, loB c.nq 8192, Go.Proofs.YtpdbndkckioamaaDoor.h6 c x, x.m / 16 * 16 + x.k, if x.u = 1 then 0 else x.u, x.t, 0, 0, 0, 0, 0, 0⟩
def hq2 (c : CF) (x : HN) : Hq := ⟨78, 69, 83, 26, loB c.np 16384, loB c.nq 8192, Go.Proofs.YtpdbndkckioamaaDoor.h6 c x, x.m / 16 % 16 * 16 + 8 + x.k, x.s * 16 + x.m / 256, hiB c.np 16384 + hiB c.nq 8192 * 16, x.a1 + x.a2 * 16, x.a3 + x.a4 * 16, x.t, x.kd, x.mi, x.d⟩
theorem hd_of0 (c : CF) (x : HN) (T : List Nat) (h : x.f = 0) : hdOf (hdL c x ++ T) = hq0 c x := by unfold hdL; rw [if_pos h]; rfl
theorem hd_of1 (c : CF) (x : HN) (T : List Nat) (h : x.f = 1) : hdOf (hdL c x ++ T) = hq1 c x := by unfold hdL; rw [if_neg (by omega), if_pos h]; rfl
theorem hd_of2 (c : CF) (x : HN) (T : List Nat) (h : x.f = 2) : hdOf (hdL c x ++ T) = hq2 c x := by unfold hdL; rw [if_neg (by omega), if_neg (by omega)]; rfl
/-- What a header says of the cartridge that it was made of. -/
structure Rt (c : CF) (h : Hq) : Prop where
  mg : h.b0 = 78 ∧ h.b1 = 69 ∧ h.b2 = 83 ∧ h.b3 = 26
  bad : h.bad = 0
  prg : h.prg = c.np
  chr : h.chr = c.nq
  tr : h.tr = c.nt
  cf : h.cf h.cr c.nt c.np c.nq c.nr = c
  tl : ¬ (h.f = 2 ∧ h.b14 % 4 = 0 ∧ 0 < c.nr)
  le : h.least ≤ c.nr
/-- The bits of the sixth byte. -/
theorem h6_is (c : CF) (x : HN) (hnt : c.nt = 0 ∨ c.nt = 512) : (((Go.Proofs.YtpdbndkckioamaaDoor.h6 c x < 256 ∧ Go.Proofs.YtpdbndkckioamaaDoor.h6 c x / 16 = x.m % 16) ∧ (decide (Go.Proofs.YtpdbndkckioamaaDoor.h6 c x % 2 = 1) = c.vert ∧ decide (Go.Proofs.YtpdbndkckioamaaDoor.h6 c x / 2 % 2 = 1) = c.bat)) ∧ decide (Go.Proofs.YtpdbndkckioamaaDoor.h6 c x / 8 % 2 = 1) = c.four) ∧ (if Go.Proofs.YtpdbndkckioamaaDoor.h6 c x / 4 % 2 = 1 then 512 else 0) = c.nt := by
  have hm : x.m % 16 < 16 := Nat.mod_lt _ (by decide)
  unfold Go.Proofs.YtpdbndkckioamaaDoor.h6
  generalize x.m % 16 = m at *
  generalize c.nt = t at *
  cases c.vert <;> cases c.bat <;> cases c.four <;> rcases hnt with rfl | rfl <;> simp <;> omega
/-- What the check says, field by field. -/
theorem may_is {c : CF} (hk : ckE c = 0) : (((((Chk.within c.sub ((Chk.row c.fmt).getD 1 0) = true ∧ Chk.within c.con ((Chk.row c.fmt).getD 2 0) = true) ∧ (Chk.kindOk c = true ∧ Chk.within c.tim ((Chk.row c.fmt).getD 3 0) = true)) ∧ ((Chk.within c.dev ((Chk.row c.fmt).getD 4 0) = true ∧ Chk.within c.misc ((Chk.row c.fmt).getD 5 0) = true) ∧ (Chk.workOk c c.pr (!c.bat) = true ∧ Chk.workOk c c.pn c.bat = true))) ∧ ((Chk.chrOk c c.cr (Chk.implied c) = true ∧ Chk.chrOk c c.cn 0 = true) ∧ (Chk.restOk c = true ∧ (c.nt = 0 ∨ c.nt = 512))))) := by
  have hall := (ck_may hk).2.1
  have g : ∀ b, b ∈ Chk.may c → b = true := hall
  refine ⟨⟨⟨⟨g _ (by simp [Chk.may]), g _ (by simp [Chk.may])⟩, g _ (by simp [Chk.may]), g _ (by simp [Chk.may])⟩, ⟨g _ (by simp [Chk.may]), g _ (by simp [Chk.may])⟩, g _ (by simp [Chk.may]), g _ (by simp [Chk.may])⟩, ⟨g _ (by simp [Chk.may]), g _ (by simp [Chk.may])⟩, g _ (by simp [Chk.may]), ?_⟩
  have := g (decide (c.nt = 0) || decide (c.nt = 512)) (by simp [Chk.may])
  simpa using this
theorem w_zero {n : Int} (h : Chk.within n 0 = true) : n = 0 := by
  obtain ⟨k, rfl, hk⟩ := within_nat h
  omega
theorem sizes_of {c : CF} {x : HN} (X : Hb c x) : (Hq.sz (loB c.np 16384) (hiB c.np 16384) 16384 = c.np ∧ loB c.np 16384 < 256) ∧ (Hq.sz (loB c.nq 8192) (hiB c.nq 8192) 8192 = c.nq ∧ loB c.nq 8192 < 256) := by
  have h1 := X.np
  have h2 := X.nq
  have o1 : c.np % 16384 = 0 ∨ Chk.oddPart 64 c.np ≤ 7 := X.npu.imp id (fun h => h.2)
  have o2 : c.nq % 8192 = 0 ∨ Chk.oddPart 64 c.nq ≤ 7 := X.nqu.imp id (fun h => h.2)
  exact ⟨⟨sz_back c.np 16384 (.inl rfl) h1 o1, lo_lt (fun h => by have := X.np0; omega) h1 (by omega) o1⟩, sz_back c.nq 8192 (.inr rfl) (by omega) o2, lo_lt (fun h e => h (by rw [e])) (by omega) (by omega) o2⟩
theorem work_one {c : CF} (hf : c.fmt = 0) {n : Int} {b : Bool} (h : Chk.workOk c n b = true) : n = if b then 8192 else 0 := by
  unfold Chk.workOk at h
  rw [hf, if_neg (by decide)] at h
  cases b
  · simpa using h
  · simp [Chk.row] at h
    obtain ⟨⟨h1, h2⟩, h3⟩ := h
    rw [Int.tdiv_eq_ediv_of_nonneg (by omega)] at h3
    have h4 : n % 8192 = 0 := by first | omega | (rw [Int.tmod_eq_emod_of_nonneg (by omega)] at h2; exact h2) | exact Int.emod_eq_zero_of_dvd h2 | exact Int.emod_eq_zero_of_dvd (Int.dvd_of_tmod_eq_zero h2)
    show n = 8192
    omega
theorem work_none {c : CF} (hf : c.fmt = 1) {n : Int} {b : Bool} (h : Chk.workOk c n b = true) : b = false → n = 0 := by
  unfold Chk.workOk at h
  rw [hf, if_neg (by decide)] at h
  rintro rfl
  simpa using h
theorem chr_imp {c : CF} (hf : c.fmt ≠ 2) {n i : Int} (h : Chk.chrOk c n i = true) : n = i := by
  unfold Chk.chrOk at h
  rw [if_neg hf] at h
  simpa using h
theorem kind_zero {c : CF} (hf : c.fmt ≠ 2) (h : Chk.kindOk c = true) : c.kind = 0 := by
  unfold Chk.kindOk at h
  rw [if_neg hf] at h
  simpa using h
theorem rt0 {c : CF} {x : HN} (hk : ckE c = 0) (X : Hb c x) (hf : x.f = 0) : Rt c (hq0 c x) := by
  have ef : c.fmt = 0 := by rw [X.cf, hf]; rfl
  obtain ⟨⟨⟨⟨m1, m2⟩, m3, m4⟩, ⟨m5, m6⟩, m7, m8⟩, ⟨m9, m10⟩, m11, hnt⟩ := may_is hk
  rw [ef] at m1 m2 m4 m5 m6
  obtain ⟨⟨⟨⟨g1, g2⟩, g3, g4⟩, g5⟩, g6⟩ := h6_is c x hnt
  obtain ⟨⟨z1, z2⟩, z3, z4⟩ := sizes_of X
  have i1 : hiB c.np 16384 = 0 := if_pos (X.npu.resolve_right (fun h => by omega))
  have i2 : hiB c.nq 8192 = 0 := if_pos (X.nqu.resolve_right (fun h => by omega))
  rw [i1] at z1
  rw [i2] at z3
  have hF : (hq0 c x).f = 0 := by unfold Hq.f; rw [show (hq0 c x).b7 = 4 from rfl, if_neg (by decide), if_neg (fun h => absurd h.1 (by decide))]
  have hP : (hq0 c x).prg = c.np := by unfold Hq.prg; rw [hF, if_neg (by decide)]; exact z1
  have hQ : (hq0 c x).chr = c.nq := by unfold Hq.chr; rw [hF, if_neg (by decide)]; exact z3
  have hbat : (hq0 c x).bat = c.bat := g4
  have hwu : (hq0 c x).wu = 1 := by unfold Hq.wu; rw [hF, if_neg (by decide)]
  have hcr : (hq0 c x).cr = c.cr := by
    unfold Hq.cr; rw [hF, if_neg (by decide), hQ, chr_imp (by rw [ef]; decide) m9]; rfl
  refine ⟨⟨rfl, rfl, rfl, rfl⟩, ?_, hP, hQ, g6, ?_, fun h => by have := h.1; omega, ?_⟩
  · refine bad_zero _ fun j hj => ?_
    have e : (hq0 c x).rs = [0, 0, 0, 0, 0, 0, 0, 0, 0, 0, 0, 0, 0, 0, 0, 0] := by unfold Hq.rs; rw [hF, if_neg (by decide), if_neg (by decide)]
    rw [e]
    rcases (show j = 0 ∨ j = 1 ∨ j = 2 ∨ j = 3 ∨ j = 4 ∨ j = 5 ∨ j = 6 ∨ j = 7 ∨ j = 8 ∨ j = 9 ∨ j = 10 ∨ j = 11 ∨ j = 12 ∨ j = 13 ∨ j = 14 ∨ j = 15 by omega) with rfl | rfl | rfl | rfl | rfl | rfl | rfl | rfl | rfl | rfl | rfl | rfl | rfl | rfl | rfl | rfl
    · exact and_z 78 (by decide)
    · exact and_z 69 (by decide)
    · exact and_z 83 (by decide)
    · exact and_z 26 (by decide)
    · exact and_z _ z2
    · exact and_z _ z4
    · exact and_z _ g1
    · exact and_z 4 (by decide)
    all_goals exact and_z 0 (by decide)
  · unfold Hq.cf
    rw [hF, hcr, hbat, hwu]
    refine cf_eq ef.symm ?_ (w_zero m1).symm (w_zero m2).symm (kind_zero (by rw [ef]; decide) m3).symm (w_zero m4).symm (w_zero m5).symm (w_zero m6).symm ?_ ?_ rfl (chr_imp (by rw [ef]; decide) m10).symm g3 g5 rfl rfl rfl rfl rfl
    · show (((Go.Proofs.YtpdbndkckioamaaDoor.h6 c x) / 16 : Nat) : Int) = c.map
      rw [g2, X.cm, Nat.mod_eq_of_lt (X.m0 hf)]
    · rw [work_one ef m7]; cases c.bat <;> rfl
    · rw [work_one ef m8]; cases c.bat <;> rfl
  · unfold Hq.least; rw [hF, if_neg (fun h => absurd h.1 (by decide)), if_neg (by decide)]; exact Nat.zero_le _
theorem hi_lt (n unit : Nat) : hiB n unit < 16 := by unfold hiB; split <;> omega
theorem rt1 {c : CF} {x : HN} (hk : ckE c = 0) (X : Hb c x) (hf : x.f = 1) : Rt c (hq1 c x) := by
  have ef : c.fmt = 1 := by rw [X.cf, hf]; rfl
  obtain ⟨⟨⟨⟨m1, m2⟩, m3, m4⟩, ⟨m5, m6⟩, m7, m8⟩, ⟨m9, m10⟩, m11, hnt⟩ := may_is hk
  rw [ef] at m1 m2 m4 m5 m6
  obtain ⟨⟨⟨⟨g1, g2⟩, g3, g4⟩, g5⟩, g6⟩ := h6_is c x hnt
  obtain ⟨⟨z1, z2⟩, z3, z4⟩ := sizes_of X
  have i1 : hiB c.np 16384 = 0 := if_pos (X.npu.resolve_right (fun h => by omega))
  have i2 : hiB c.nq 8192 = 0 := if_pos (X.nqu.resolve_right (fun h => by omega))
  rw [i1] at z1
  rw [i2] at z3
  have hx : x.k ≤ 2 := by obtain ⟨k, e, hk⟩ := within_nat m2; rw [X.ck] at e; have hk' : (k : Int) ≤ 2 := hk; omega
  have ht : x.t ≤ 1 := by obtain ⟨k, e, hk⟩ := within_nat m4; rw [X.ct] at e; have hk' : (k : Int) ≤ 1 := hk; omega
  have hm := X.m1 hf
  obtain ⟨w1, w2, w3⟩ := X.w hf
  have b74 : (x.m / 16 * 16 + x.k) / 4 % 4 = 0 := by omega
  have hF : (hq1 c x).f = 1 := by unfold Hq.f; rw [show (hq1 c x).b7 = x.m / 16 * 16 + x.k from rfl, if_neg (by omega), if_pos ⟨b74, rfl, rfl, rfl, rfl⟩]
  have hP : (hq1 c x).prg = c.np := by unfold Hq.prg; rw [hF, if_neg (by decide)]; exact z1
  have hQ : (hq1 c x).chr = c.nq := by unfold Hq.chr; rw [hF, if_neg (by decide)]; exact z3
  have hbat : (hq1 c x).bat = c.bat := g4
  have hwu : (hq1 c x).wu = x.u := by
    unfold Hq.wu; rw [hF, if_pos rfl]
    show max (if x.u = 1 then 0 else x.u) 1 = x.u
    by_cases hu : x.u = 1
    · rw [if_pos hu, hu]; rfl
    · rw [if_neg hu]; omega
  have hcr : (hq1 c x).cr = c.cr := by
    unfold Hq.cr; rw [hF, if_neg (by decide), hQ, chr_imp (by rw [ef]; decide) m9]; rfl
  have h74 : (hq1 c x).b7 % 4 = x.k := by show (x.m / 16 * 16 + x.k) % 4 = x.k; omega
  refine ⟨⟨rfl, rfl, rfl, rfl⟩, ?_, hP, hQ, g6, ?_, fun h => by have := h.1; omega, ?_⟩
  · refine bad_zero _ fun j hj => ?_
    have e : (hq1 c x).rs = [0, 0, 0, 0, 0, 0, 0, 0, 0, 254, 255, 255, 0, 0, 0, 0] := by unfold Hq.rs; rw [hF, if_pos rfl, h74, if_neg (by omega)]
    rw [e]
    rcases (show j = 0 ∨ j = 1 ∨ j = 2 ∨ j = 3 ∨ j = 4 ∨ j = 5 ∨ j = 6 ∨ j = 7 ∨ j = 8 ∨ j = 9 ∨ j = 10 ∨ j = 11 ∨ j = 12 ∨ j = 13 ∨ j = 14 ∨ j = 15 by omega) with rfl | rfl | rfl | rfl | rfl | rfl | rfl | rfl | rfl | rfl | rfl | rfl | rfl | rfl | rfl | rfl
    · exact and_z 78 (by decide)
    · exact and_z 69 (by decide)
    · exact and_z 83 (by decide)
    · exact and_z 26 (by decide)
    · exact and_z _ z2
    · exact and_z _ z4
    · exact and_z _ g1
    · exact and_z (x.m / 16 * 16 + x.k) (by omega)
    · exact and_z (if x.u = 1 then 0 else x.u) (by split <;> omega)
    · show bits BinOp.and IntKind.u8 ((x.t : Nat) : Int) 254 = 0
      have := (low_z x.t).1
      rwa [Nat.mod_eq_of_lt (by omega)] at this
    · show bits BinOp.and IntKind.u8 ((0 : Nat) : Int) 255 = 0; decide
    · show bits BinOp.and IntKind.u8 ((0 : Nat) : Int) 255 = 0; decide
    all_goals exact and_z 0 (by decide)
  · unfold Hq.cf
    rw [hF, hcr, hbat, hwu, h74]
    refine cf_eq ef.symm ?_ (w_zero m1).symm X.ck.symm (kind_zero (by rw [ef]; decide) m3).symm ?_ (w_zero m5).symm (w_zero m6).symm ?_ ?_ rfl (chr_imp (by rw [ef]; decide) m10).symm g3 g5 rfl rfl rfl rfl rfl
    · show (((Go.Proofs.YtpdbndkckioamaaDoor.h6 c x) / 16 + (x.m / 16 * 16 + x.k) / 16 * 16 : Nat) : Int) = c.map
      rw [g2, X.cm]; omega
    · show ((x.t % 2 : Nat) : Int) = c.tim
      rw [X.ct]; omega
    · have e7 := work_none ef m7
      have e8 := work_none ef m8
      cases hb : c.bat
      · rw [hb] at e8
        have := e8 rfl
        show ((x.u * 8192 : Nat) : Int) = c.pr
        omega
      · rw [hb] at e7
        exact (e7 rfl).symm
    · have e7 := work_none ef m7
      have e8 := work_none ef m8
      cases hb : c.bat
      · rw [hb] at e8
        exact (e8 rfl).symm
      · rw [hb] at e7
        have := e7 rfl
        show ((x.u * 8192 : Nat) : Int) = c.pn
        omega
  · unfold Hq.least
    rw [hF, h74]
    unfold Chk.restOk at m11
    rw [if_neg (fun h => absurd (ef.symm.trans h.1) (by decide)), ef, X.ck] at m11
    by_cases h2 : x.k = 2
    · rw [if_pos ⟨rfl, h2⟩]
      rw [h2] at m11
      simp at m11
      omega
    · rw [if_neg (fun h => h2 h.2), if_neg (by decide)]; exact Nat.zero_le _
theorem rt2 {c : CF} {x : HN} (hk : ckE c = 0) (X : Hb c x) (hf : x.f = 2) : Rt c (hq2 c x) := by
  have ef : c.fmt = 2 := by rw [X.cf, hf]; rfl
  obtain ⟨⟨⟨⟨m1, m2⟩, m3, m4⟩, ⟨m5, m6⟩, m7, m8⟩, ⟨m9, m10⟩, m11, hnt⟩ := may_is hk
  obtain ⟨⟨⟨⟨g1, g2⟩, g3, g4⟩, g5⟩, g6⟩ := h6_is c x hnt
  obtain ⟨⟨z1, z2⟩, z3, z4⟩ := sizes_of X
  have hh1 := hi_lt c.np 16384
  have hh2 := hi_lt c.nq 8192
  have hm := X.m
  have hs := X.s
  have hk4 := X.k
  have hkd := X.kd
  have ht := X.t
  have hd := X.d
  have hmi := X.mi
  obtain ⟨⟨p1, q1⟩, ⟨p2, q2⟩, ⟨p3, q3⟩, p4, q4⟩ := X.r hf
  have hF : (hq2 c x).f = 2 := by unfold Hq.f; rw [show (hq2 c x).b7 = x.m / 16 % 16 * 16 + 8 + x.k from rfl, if_pos (by omega)]
  have e9 : (hq2 c x).b9 % 16 = hiB c.np 16384 := by show (hiB c.np 16384 + hiB c.nq 8192 * 16) % 16 = _; omega
  have e9b : (hq2 c x).b9 / 16 = hiB c.nq 8192 := by show (hiB c.np 16384 + hiB c.nq 8192 * 16) / 16 = _; omega
  have hP : (hq2 c x).prg = c.np := by unfold Hq.prg; rw [hF, if_pos rfl, e9]; exact z1
  have hQ : (hq2 c x).chr = c.nq := by unfold Hq.chr; rw [hF, if_pos rfl, e9b]; exact z3
  have h74 : (hq2 c x).b7 % 4 = x.k := by show (x.m / 16 % 16 * 16 + 8 + x.k) % 4 = x.k; omega
  have h11 : (hq2 c x).b11 % 16 = x.a3 := by show (x.a3 + x.a4 * 16) % 16 = x.a3; omega
  have hcr : (hq2 c x).cr = c.cr := by unfold Hq.cr; rw [hF, if_pos rfl, h11, p3]
  have h14 : (hq2 c x).b14 % 4 = x.mi := by show x.mi % 4 = x.mi; omega
  have hmc := X.cmi
  unfold Chk.restOk at m11
  refine ⟨⟨rfl, rfl, rfl, rfl⟩, ?_, hP, hQ, g6, ?_, ?_, ?_⟩
  · refine bad_zero _ fun j hj => ?_
    have e : (hq2 c x).rs = [0, 0, 0, 0, 0, 0, 0, 0, 0, 0, 0, 0, 252, Hq.kdM x.k, 252, 192] := by unfold Hq.rs; rw [hF, if_neg (by decide), if_pos rfl, h74]
    rw [e]
    rcases (show j = 0 ∨ j = 1 ∨ j = 2 ∨ j = 3 ∨ j = 4 ∨ j = 5 ∨ j = 6 ∨ j = 7 ∨ j = 8 ∨ j = 9 ∨ j = 10 ∨ j = 11 ∨ j = 12 ∨ j = 13 ∨ j = 14 ∨ j = 15 by omega) with rfl | rfl | rfl | rfl | rfl | rfl | rfl | rfl | rfl | rfl | rfl | rfl | rfl | rfl | rfl | rfl
    · exact and_z 78 (by decide)
    · exact and_z 69 (by decide)
    · exact and_z 83 (by decide)
    · exact and_z 26 (by decide)
    · exact and_z _ z2
    · exact and_z _ z4
    · exact and_z _ g1
    · exact and_z (x.m / 16 % 16 * 16 + 8 + x.k) (by omega)
    · exact and_z (x.s * 16 + x.m / 256) (by omega)
    · exact and_z (hiB c.np 16384 + hiB c.nq 8192 * 16) (by omega)
    · exact and_z (x.a1 + x.a2 * 16) (by omega)
    · exact and_z (x.a3 + x.a4 * 16) (by omega)
    · show bits BinOp.and IntKind.u8 ((x.t : Nat) : Int) 252 = 0
      have := (low_z x.t).2.1
      rwa [Nat.mod_eq_of_lt (by omega)] at this
    · show bits BinOp.and IntKind.u8 ((x.kd : Nat) : Int) ((Hq.kdM x.k : Nat) : Int) = 0
      unfold Chk.kindOk at m3
      rw [if_pos ef, X.ckd, X.ck] at m3
      obtain ⟨kk, ek, hkk⟩ := within_nat m3
      rcases (show x.k = 0 ∨ x.k = 1 ∨ x.k = 2 ∨ x.k = 3 by omega) with h0 | h0 | h0 | h0 <;> rw [h0] at hkk ⊢
      · have h1 : (kk : Int) ≤ 0 := hkk
        rw [show x.kd = 0 by omega]; decide
      · exact and_z x.kd hkd
      · have h1 : (kk : Int) ≤ 0 := hkk
        rw [show x.kd = 0 by omega]; decide
      · have h1 : (kk : Int) ≤ 15 := hkk
        have := (low_z x.kd).2.2.1
        rwa [Nat.mod_eq_of_lt (by omega)] at this
    · show bits BinOp.and IntKind.u8 ((x.mi : Nat) : Int) 252 = 0
      have := (low_z x.mi).2.1
      rwa [Nat.mod_eq_of_lt (by omega)] at this
    · show bits BinOp.and IntKind.u8 ((x.d : Nat) : Int) 192 = 0
      have := (low_z x.d).2.2.2
      rwa [Nat.mod_eq_of_lt (by omega)] at this
  · unfold Hq.cf
    rw [hF, hcr, h74]
    refine cf_eq ef.symm ?_ ?_ X.ck.symm X.ckd.symm ?_ ?_ ?_ ?_ ?_ rfl ?_ g3 g5 g4 rfl rfl rfl rfl
    · show (((Go.Proofs.YtpdbndkckioamaaDoor.h6 c x) / 16 + (x.m / 16 % 16 * 16 + 8 + x.k) / 16 * 16 + (x.s * 16 + x.m / 256) % 16 * 256 : Nat) : Int) = c.map
      rw [g2, X.cm]; omega
    · show (((x.s * 16 + x.m / 256) / 16 : Nat) : Int) = c.sub
      rw [X.cs]; omega
    · show ((x.t % 4 : Nat) : Int) = c.tim
      rw [X.ct]; omega
    · show ((x.d % 64 : Nat) : Int) = c.dev
      rw [X.cd]; omega
    · show ((x.mi % 4 : Nat) : Int) = c.misc
      rw [X.cmi]; omega
    · show ((rz ((x.a1 + x.a2 * 16) % 16) : Nat) : Int) = c.pr
      rw [p1, show (x.a1 + x.a2 * 16) % 16 = x.a1 by omega]
    · show ((rz ((x.a1 + x.a2 * 16) / 16) : Nat) : Int) = c.pn
      rw [p2, show (x.a1 + x.a2 * 16) / 16 = x.a2 by omega]
    · show ((rz ((x.a3 + x.a4 * 16) / 16) : Nat) : Int) = c.cn
      rw [p4, show (x.a3 + x.a4 * 16) / 16 = x.a4 by omega]
  · rintro ⟨-, h1, h2⟩
    rw [h14] at h1
    rw [if_pos ⟨ef, by rw [hmc, h1]; rfl⟩] at m11
    simp at m11
    omega
  · unfold Hq.least
    rw [hF, if_neg (fun h => absurd h.1 (by decide)), if_pos rfl, h14]
    by_cases h0 : x.mi = 0
    · omega
    · rw [if_neg (fun h => h0 (by have := h.2; rw [hmc] at this; omega)), if_neg (fun h => absurd (ef.symm.trans h.1) (by decide)), if_pos ef, hmc] at m11
      simp at m11
      omega
end Go.Proofs.YtpdbndkckioamaaDoor
namespace Go.Proofs.YtpdbndkckioamaaDoor
open Go.RowKit Classical
theorem hdl16 (c : CF) (x : HN) : (hdL c x).length = 16 := by
  unfold hdL
  split
  · rfl
  · split <;> rfl
/-- What is printed is read as it was. -/
theorem im_round {c : CF} {x : HN} {T P Q R : List Nat} (hk : ckE c = 0) (X : Hb c x) (lt : T.length = c.nt) (lp : P.length = c.np) (lq : Q.length = c.nq) (lr : R.length = c.nr) (L : List Nat) (hL : L = hdL c x ++ T ++ P ++ Q ++ R) :
    ((pz L = (0, 0) ∧ pC L = c) ∧ (pT L = T ∧ pP L = P)) ∧ (pQ L = Q ∧ pR L = R) := by
  have ea : L = hdL c x ++ (T ++ (P ++ (Q ++ R))) := by rw [hL]; simp [List.append_assoc]
  obtain ⟨h, hh, RT⟩ : ∃ h, hdOf L = h ∧ Rt c h := by
    rcases (show x.f = 0 ∨ x.f = 1 ∨ x.f = 2 by have := X.f; omega) with e | e | e
    · exact ⟨_, by rw [ea, hd_of0 c x _ e], rt0 hk X e⟩
    · exact ⟨_, by rw [ea, hd_of1 c x _ e], rt1 hk X e⟩
    · exact ⟨_, by rw [ea, hd_of2 c x _ e], rt2 hk X e⟩
  have l16 := hdl16 c x
  have ln : L.length = 16 + c.nt + c.np + c.nq + c.nr := by rw [hL]; simp only [List.length_append, l16, lt, lp, lq, lr]
  have hmx : L.length ≤ 2097152 := by rw [ln]; exact (ck_may hk).2.2
  have hmg : L.getD 0 0 = 78 ∧ L.getD 1 0 = 69 ∧ L.getD 2 0 = 83 ∧ L.getD 3 0 = 26 := by
    have := RT.mg
    rw [← hh] at this
    exact this
  have efin : h.fin = 16 + c.nt + c.np + c.nq := by show 16 + h.tr + h.prg + h.chr = _; rw [RT.tr, RT.prg, RT.chr]
  have hp0 := X.np0
  have hp1 := X.np
  have hq1 := X.nq
  have hz : pz L = (0, 0) := by
    unfold pz
    rw [if_neg (by omega), front_good hmg (by omega), if_neg (fun h => h rfl), hh]
    unfold Hq.e
    rw [if_neg (fun h => h RT.bad), RT.prg, if_neg (by omega), RT.chr, if_neg (by omega), efin, if_neg (by omega), if_neg (fun h => RT.tl ⟨h.1, h.2.1, by have := h.2.2; omega⟩), if_neg (by have := RT.le; omega)]
  have h0 : (pz L).1 = 0 := by rw [hz]
  refine ⟨⟨⟨hz, ?_⟩, ?_, ?_⟩, ?_, ?_⟩
  · unfold pC
    rw [if_pos h0, hh, RT.tr, RT.prg, RT.chr, efin, show L.length - (16 + c.nt + c.np + c.nq) = c.nr by omega]
    exact RT.cf
  · unfold pT
    rw [if_pos h0, hh, RT.tr, hL, show hdL c x ++ T ++ P ++ Q ++ R = hdL c x ++ T ++ (P ++ Q ++ R) by simp [List.append_assoc]]
    exact cut_mid _ _ _ l16 lt
  · unfold pP
    rw [if_pos h0, hh, RT.tr, RT.prg, hL, show hdL c x ++ T ++ P ++ Q ++ R = (hdL c x ++ T) ++ P ++ (Q ++ R) by simp [List.append_assoc]]
    exact cut_mid _ _ _ (by simp only [List.length_append, l16, lt]) lp
  · unfold pQ
    rw [if_pos h0, hh, RT.tr, RT.prg, RT.chr, hL, show hdL c x ++ T ++ P ++ Q ++ R = (hdL c x ++ T ++ P) ++ Q ++ R by simp [List.append_assoc]]
    exact cut_mid _ _ _ (by simp only [List.length_append, l16, lt, lp]) lq
  · unfold pR
    rw [if_pos h0, hh, efin, show L.length - (16 + c.nt + c.np + c.nq) = c.nr by omega, hL]
    exact cut_end _ _ (by simp only [List.length_append, l16, lt, lp, lq]) lr
/-- What Parse takes, in the check's words. -/
theorem pz_ck (L : List Nat) (hB : Bytes L) (h0 : (pz L).1 = 0) : ckE (pC L) = 0 := by
  obtain ⟨h1, h2⟩ := pz_wrong L hB h0
  unfold ckE
  rw [h1, if_neg (by decide), if_neg (by omega)]
end Go.Proofs.YtpdbndkckioamaaDoor
