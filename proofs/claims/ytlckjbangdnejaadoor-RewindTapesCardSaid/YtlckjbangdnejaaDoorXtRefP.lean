/-
  The document's tape: Push.
-/
import Derived.Test.YtlckjbangdnejaaDoorXtRefB
set_option linter.unusedSimpArgs false
set_option linter.unusedVariables false
namespace Go.Proofs.YtlckjbangdnejaaDoor
open Go.RowKit Classical
/-- The tape's memory, however many lists it holds. -/
def Dq (FU : Nat → Prop) (u lim : Nat) (Os : List (List Nat)) (W : World) : Prop :=
  ∃ v es, FU u ∧ Blk W u #[.int .i64 lim, v] 68 ∧ Dv FU W v es ∧ Ev FU W es Os ∧ ∀ S ∈ Os, Good S
theorem Dq.dt {FU : Nat → Prop} {u lim : Nat} {Os : List (List Nat)} {W : World} (h : Dq FU u lim Os W) (hl : Os.length ≤ lim) : Dt FU u lim Os W := by
  obtain ⟨v, es, h1, h2, h3, h4, h5⟩ := h
  exact ⟨v, es, h1, h2, h3, h4, hl, h5⟩
theorem Dq.on {FU : Nat → Prop} {u lim : Nat} {Os : List (List Nat)} {W W' : World} (h : Dq FU u lim Os W) (hk : ∀ k, FU k → W'.heap[k]? = W.heap[k]?) : Dq FU u lim Os W' := by
  obtain ⟨v, es, hu, hB, hD, hE, h2⟩ := h
  exact ⟨v, es, hu, (hk u hu).trans hB, hD.on hk, ⟨hE.1, fun i hi => (hE.2 i hi).on hk⟩, h2⟩
theorem Dq.mono {FU FQ : Nat → Prop} {u lim : Nat} {Os : List (List Nat)} {W : World} (h : Dq FU u lim Os W) (hs : ∀ k, FU k → FQ k) : Dq FQ u lim Os W := by
  obtain ⟨v, es, hu, hB, hD, hE, h2⟩ := h
  exact ⟨v, es, hs u hu, hB, hD.mono hs, ⟨hE.1, fun i hi => (hE.2 i hi).mono hs⟩, h2⟩
theorem dq_opened {FU : Nat → Prop} {u lim : Nat} {Os : List (List Nat)} {w : World} (h : Dq FU u lim Os w) (hn : 0 < Os.length) :
    ∃ (g o c : Nat), Blk w u #[.int .i64 lim, .slice (some ⟨g, o, none⟩) Os.length c] 68 ∧ Os.length ≤ c ∧ (2 ≤ Os.length → Dq FU u lim (Os.drop 1) (w.setCell ⟨u, 1, none⟩ (.slice (some ⟨g, o + 1, none⟩) (Os.length - 1) (c - 1)))) := by
  obtain ⟨v, es, hu, hB, ⟨a, c, rfl, hnone, hx⟩, hE, hG⟩ := h
  have hes := hE.1
  cases a with
  | none => have := (hnone rfl).1; rw [this] at hes; simp at hes; omega
  | some p =>
    obtain ⟨g, o, cur, rfl, hg, hC, hoc, hnc, hcells⟩ := hx p rfl
    rw [hes] at hB hnc
    refine ⟨g, o, c, hB, hnc, fun h2 => ?_⟩
    have hgu : g ≠ u := blk_ne hC hB (by decide)
    have hne : ∀ i, i < es.length → ∀ k, (es.getD i undef).ownBlock = some k → k ≠ u := fun i hi k hk e => by
      rw [e] at hk
      exact (hE.2 i hi).1.notBlk hB (by decide) hk
    refine ⟨_, es.drop 1, hu, hB.set 1 _, ⟨_, c - 1, by rw [List.length_drop, hes], fun h => (by cases h), fun p hp => ?_⟩, ⟨by rw [List.length_drop, List.length_drop, hes], fun i hi => ?_⟩, fun T hT => hG T (List.mem_of_mem_drop hT)⟩
    · cases hp
      refine ⟨g, o + 1, cur, rfl, hg, hC.other hgu 1 _, by omega, by rw [List.length_drop]; omega, fun i hi => ?_⟩
      rw [List.length_drop] at hi
      rw [show o + 1 + i = o + (1 + i) by omega, hcells (1 + i) (by omega), List.getElem?_drop]
    · rw [List.length_drop] at hi
      have h1 := hE.2 (1 + i) (by omega)
      have e1 : (es.drop 1).getD i undef = es.getD (1 + i) undef := by simp [List.getD, Nat.add_comm]
      have e2 : (Os.drop 1).getD i [] = Os.getD (1 + i) [] := by simp [List.getD, Nat.add_comm]
      rw [e1, e2]
      exact ⟨h1.1.keep fun k hk => (Kp.set (S := fun k => k = u) w u 1 _ rfl).block k (h1.1.block k hk).2 (hne (1 + i) (by omega) k hk), h1.2⟩
theorem dpush_long (FU : Nat → Prop) (u lim : Nat) (Os : List (List Nat)) (a : Option Addr) (n k : Nat) (hn : 65536 < n) (w : World) : Calls Tryd.prog 40 #[.pointer (some ⟨u, 0, none⟩), .slice a n k] w fun e w' => e = .returned (.int .i64 1) ∧ w' = w := by
  have i1 : (65536 : Int) < (n : Int) := by omega
  go_enter Tryd.func40, Tryd.ntmps40
  go_wp2
  go_ret
  exact ⟨rfl, rfl⟩
set_option maxRecDepth 100000 in
set_option maxHeartbeats 3200000 in
theorem dpush_any (FU : Nat → Prop) (u lim : Nat) (Os : List (List Nat)) (w : World) (h : Dt FU u lim Os w) (hF : ∀ k, FU k → k < w.heap.size) (h1 : 1 ≤ lim) (hlim : lim ≤ 4096) (P : List Nat) (a : Option Addr) (n k : Nat) (hP : Good P) (hn : P.length = n) (RP : Row w a P) :
    Calls Tryd.prog 40 #[.pointer (some ⟨u, 0, none⟩), .slice a n k] w fun e w' => e = .returned (.int .i64 0) ∧ Dt (fun k => FU k ∨ (w.heap.size ≤ k ∧ k < w'.heap.size)) u lim (if lim < Os.length + 1 then (Os ++ [P]).drop 1 else Os ++ [P]) w' ∧ Kp FU w w' := by
  obtain ⟨v, es, hu, hB, hD, hE, hl, hG⟩ := h
  have HD : Hid (Dv FU w v es) := hD
  obtain ⟨a0, c0, hv0, -⟩ := hD
  obtain ⟨n0, hn0⟩ : ∃ n0, es.length = n0 := ⟨_, rfl⟩
  rw [hn0] at hv0
  subst hv0
  have HE : Hid (Ev FU w es Os ∧ es.length = n0 ∧ Os.length = n0 ∧ n0 ≤ lim) := ⟨hE, hn0, by rw [← hn0]; exact hE.1.symm, by rw [← hn0, hE.1]; exact hl⟩
  have hn4 : n0 ≤ 4096 := by have := HE.out.2.2.2; omega
  have HF : Hid (∀ k, FU k → k < w.heap.size) := hF
  have HU : Hid (FU u) := hu
  have HG : Hid ((∀ S ∈ Os, Good S) ∧ Good P) := ⟨hG, hP⟩
  have HN : Hid (P.length = n) := hn
  have hn65 : n ≤ 65536 := by rw [← hn]; exact hP.2
  have HB : Hid (Blk w u #[.int .i64 lim, .slice a0 n0 c0] 68) := hB
  have HR : Hid (Row w a P) := RP
  have i1 : ¬ (65536 : Int) < (n : Int) := by omega
  clear hu hB hE hl hG hn0 hF hP hn RP
  go_enter Tryd.func40, Tryd.ntmps40
  go_upto_region 5 with fail
  have b0 : Below w.heap.size w (w.drewN 1) := below_drawsX (Below.refl _ _) 1
  have s0 : (fun V => Blk V u #[.int .i64 lim, .slice a0 n0 c0] 68) (w.drewN 1) := HB.out.below HB.out.lt b0
  refine regionM 11 (S := fun V => Blk V u #[.int .i64 lim, .slice a0 n0 c0] 68) (by kernel_rfl) ?_
  change AnyM _ _ _ _ _ _ _ _ (w.drewN 1)
  refine takeM (i := 0) (v := .pointer (some ⟨u, 0, none⟩)) _ rfl (by kernel_rfl) (by kernel_rfl) (by kernel_rfl) (by kernel_rfl) (fun _ _ _ h => h) (.inl ⟨by kernel_rfl, fun _ _ => by kernel_rfl⟩) s0 rfl ?_
  refine takeM (i := 1) (v := .pointer (some ⟨u, 0, none⟩)) _ rfl (by kernel_rfl) (by kernel_rfl) (by kernel_rfl) (by kernel_rfl) (fun _ _ _ h => h) (.inl ⟨by kernel_rfl, fun _ _ => by kernel_rfl⟩) s0 rfl ?_
  refine takeM (i := 2) (v := .pointer (some ⟨u, 0, none⟩)) _ rfl (by kernel_rfl) (by kernel_rfl) (by kernel_rfl) (by kernel_rfl) (fun _ _ _ h => h) (.inl ⟨by kernel_rfl, fun _ _ => by kernel_rfl⟩) s0 rfl ?_
  refine takeM (i := 3) (v := .pointer (some ⟨u, 1, none⟩)) _ rfl (by kernel_rfl) (by kernel_rfl) (by kernel_rfl) (by kernel_rfl) (fun _ _ _ h => h) (.inl ⟨by kernel_rfl, fun _ _ => by kernel_rfl⟩) s0 rfl ?_
  refine takeM (i := 4) (v := .slice a0 n0 c0) _ rfl (by kernel_rfl) (by kernel_rfl) (by kernel_rfl) (by kernel_rfl) (fun _ _ _ h => h) (.inl ⟨by kernel_rfl, fun v hv => by have c : v.cell? ⟨u, 1, none⟩ = some (.slice a0 n0 c0) := hv.cell 1; go_simp⟩) s0 rfl ?_
  refine takeM (i := 5) (v := .slice a n k) _ rfl (by kernel_rfl) (by kernel_rfl) (by kernel_rfl) (by kernel_rfl) (fun _ _ _ h => h) (.inl ⟨by kernel_rfl, fun _ _ => by kernel_rfl⟩) s0 rfl ?_
  refine callME (i := 6) (f := 53) (args := #[.slice a n k]) (R := fun v w' => Tx w' (w.drewN 1).heap.size v P ∧ Below (w.drewN 1).heap.size (w.drewN 1) w') (by kernel_rfl) rfl (by kernel_rfl) (by kernel_rfl) (whole_any P a n k HN.out (by omega) _ (HR.out.below b0)) ?_
  rintro v9 w9 ⟨T9, B9⟩
  have b9 : Below w.heap.size w w9 := b0.trans B9
  obtain ⟨a9, k9, hv9⟩ := T9.len
  rw [HN.out] at hv9
  subst hv9
  have s9 : (fun V => Blk V u #[.int .i64 lim, .slice a0 n0 c0] 68) w9 := HB.out.below HB.out.lt b9
  refine ⟨s9, ?_⟩
  obtain ⟨p5, hp5⟩ : ∃ q, q = w9.heap.size := ⟨_, rfl⟩
  obtain ⟨V5, hv5⟩ : ∃ V', V' = w9.alloc (.cells #[.slice a9 n k9] 28) := ⟨_, rfl⟩
  have b5 : Below w.heap.size w V5 := by rw [hv5]; exact b9.alloc b9.size _
  have y5 : Blk V5 p5 #[.slice a9 n k9] 28 := by rw [hv5, hp5]; exact Blk.new w9 _ _
  have t5 : Tx V5 w.heap.size (.slice a9 n k9) P := by rw [hv5]; exact Tx.on T9 ((Below.refl _ _).alloc (Nat.le_refl _) _)
  have s5 : (fun V => Blk V u #[.int .i64 lim, .slice a0 n0 c0] 68) V5 := HB.out.below HB.out.lt b5
  refine worldMX (i := 7) (v := .slice (some ⟨p5, 0, none⟩) 1 1) (w1 := V5) _ (by kernel_rfl) rfl (by kernel_rfl) (by subst hp5; subst hv5; kernel_rfl) rfl ⟨s5, ?_⟩
  clear hp5 hv5
  have D5 : Dv FU V5 (.slice a0 n0 c0) es := HD.out.on fun m hm => b5.block m (HF.out m hm)
  obtain ⟨v6, V6, r6, d6, k6⟩ := dapp 22 FU V5 (.slice a0 n0 c0) es D5 p5 (.slice a9 n k9) rfl y5 (by rw [HE.out.2.1]; omega)
  obtain ⟨a6, c6, hv6, -⟩ : ∃ a6 c6, v6 = .slice a6 (n0 + 1) c6 ∧ True := by
    obtain ⟨a6, c6, e, -⟩ := d6
    exact ⟨a6, c6, by rw [e, List.length_append, HE.out.2.1]; rfl, trivial⟩
  subst hv6
  have hu28 : ¬ (FU u ∧ ∃ cur, Blk V5 u cur 28) := fun h => by
    obtain ⟨-, cur, h⟩ := h
    exact blk_ne h s5 (by decide) rfl
  have s6 : (fun V => Blk V u #[.int .i64 lim, .slice a0 n0 c0] 68) V6 := k6.blk s5 hu28
  refine worldMX (i := 8) (v := .slice a6 (n0 + 1) c6) (w1 := V6) _ (by kernel_rfl) rfl (by kernel_rfl) (exec_appX rfl (by kernel_rfl) (by kernel_rfl) r6) rfl ⟨s6, ?_⟩
  clear r6
  refine worldMX (i := 9) (v := .pointer (some ⟨u, 0, none⟩)) (w1 := V6) _ (by kernel_rfl) rfl (by kernel_rfl) (by kernel_rfl) rfl ⟨s6, ?_⟩
  refine worldMX (i := 10) (v := .pointer (some ⟨u, 1, none⟩)) (w1 := V6) _ (by kernel_rfl) rfl (by kernel_rfl) (by kernel_rfl) rfl ⟨s6, ?_⟩
  refine storeM (by kernel_rfl) (by kernel_rfl) ?_
  refine wpOp_store rfl (by kernel_rfl) 22 (.tmp 20) (.tmp 18) rfl u 1 (.slice a6 (n0 + 1) c6) #[.slice a6 (n0 + 1) c6] (by kernel_rfl) (by kernel_rfl) rfl (s6.thereAt 1 1 (by simp)) (by kernel_rfl) (by kernel_rfl) _ rfl ?_
  intro W6 eW6
  have KW : Hid (Kp FU w W6) := by
    rw [eW6]
    exact ((Kp.of_below (S := FU) (b5.mono (Nat.le_refl _))).trans (k6.mono fun k h => h.1)).trans (Kp.set V6 u 1 _ HU.out)
  have DQ : Hid (Dq (fun k => FU k ∨ (w.heap.size ≤ k ∧ k < W6.heap.size)) u lim (Os ++ [P]) W6) := by
    have hsz : W6.heap.size = V6.heap.size := by rw [eW6]; simp [World.setCells]
    have kset : Kp (fun k => k = u) V6 W6 := by rw [eW6]; exact Kp.set V6 u 1 _ rfl
    have hb6 : Blk W6 u #[.int .i64 lim, .slice a6 (n0 + 1) c6] 68 := by rw [eW6]; exact s6.set 1 _
    have tx6 : ∀ B e S, Tx V5 B e S → Tx W6 B e S := fun B e S hT => (hT.keep fun k hk => k6.block k (hT.block k hk).2 fun h => by
      obtain ⟨-, cur, h⟩ := h
      exact hT.notBlk h (by decide) hk).keep fun k hk => kset.block k (Nat.lt_of_lt_of_le (hT.block k hk).2 k6.size) fun h => by
      rw [h] at hk
      exact hT.notBlk s5 (by decide) hk
    refine ⟨_, es ++ [.slice a9 n k9], .inl HU.out, hb6, ?_, ⟨by rw [List.length_append, List.length_append, HE.out.1.1]; rfl, fun i hi => ?_⟩, fun S hS => ?_⟩
    · refine Dv.mono (FU := fun k => FU k ∨ (V5.heap.size ≤ k ∧ k < V6.heap.size)) ?_ (fun k hk => hk.imp id fun h => ⟨Nat.le_trans b5.size h.1, by rw [hsz]; exact h.2⟩)
      obtain ⟨a7, c7, e7, h7, x7⟩ := d6
      refine ⟨a7, c7, e7, h7, fun p hp => ?_⟩
      obtain ⟨g, o, cur, e, hg, hC, h3⟩ := x7 p hp
      exact ⟨g, o, cur, e, hg, kset.blk hC (blk_ne hC s6 (by decide)), h3⟩
    · by_cases hlast : i = es.length
      · subst hlast
        have e1 : (es ++ [Value.slice a9 n k9]).getD es.length undef = .slice a9 n k9 := by simp [List.getD]
        have e2 : (Os ++ [P]).getD es.length [] = P := by rw [HE.out.1.1]; simp [List.getD]
        rw [e1, e2]
        refine ⟨tx6 0 _ _ (orow_lower t5 (Nat.zero_le _)), fun k hk => .inr ⟨(t5.block k hk).1, ?_⟩⟩
        rw [hsz]
        exact Nat.lt_of_lt_of_le (t5.block k hk).2 k6.size
      · have hi2 : i < es.length := by rw [List.length_append] at hi; simp at hi; omega
        have h9 := HE.out.1.2 i hi2
        have e1 : (es ++ [Value.slice a9 n k9]).getD i undef = es.getD i undef := by simp [List.getD, List.getElem?_append_left hi2]
        have e2 : (Os ++ [P]).getD i [] = Os.getD i [] := by simp [List.getD, List.getElem?_append_left (show i < Os.length by rw [← HE.out.1.1]; exact hi2)]
        rw [e1, e2]
        exact ⟨tx6 0 _ _ (h9.1.keep fun k hk => b5.block k (HF.out k (h9.2 k hk))), fun k hk => .inl (h9.2 k hk)⟩
    · rcases List.mem_append.1 hS with h | h
      · exact HG.out.1 S h
      · rw [List.mem_singleton.1 h]; exact HG.out.2
  have HLE : Hid ((Os ++ [P]).length = n0 + 1 ∧ Os.length = n0) := ⟨by rw [List.length_append, HE.out.2.2.1]; rfl, HE.out.2.2.1⟩
  have HL2 : Hid (n0 ≤ lim) := HE.out.2.2.2
  clear eW6 s0 s9 s5 s6 hu28 k6 d6 D5 t5 y5 b5 T9 B9 b9 b0 HD HE HG HN HB HR HF
  obtain ⟨g, o, c, hbq, hnc, hcut⟩ := dq_opened DQ.out (by rw [HLE.out.1]; omega)
  rw [HLE.out.1] at hbq hnc hcut
  have HBQ : Hid (Blk W6 u #[.int .i64 lim, .slice (some ⟨g, o, none⟩) (n0 + 1) c] 68) := hbq
  have c0' : W6.cell? ⟨u, 0, none⟩ = some (.int .i64 lim) := hbq.cell 0
  have c1' : W6.cell? ⟨u, 1, none⟩ = some (.slice (some ⟨g, o, none⟩) (n0 + 1) c) := hbq.cell 1
  obtain ⟨m, hm⟩ : ∃ m, m = n0 + 1 := ⟨_, rfl⟩
  rw [← hm] at c1' hnc HBQ hcut
  have HM : Hid (m = n0 + 1) := hm
  have HCUT : Hid (2 ≤ m → Dq (fun k => FU k ∨ (w.heap.size ≤ k ∧ k < W6.heap.size)) u lim ((Os ++ [P]).drop 1) (W6.setCell ⟨u, 1, none⟩ (.slice (some ⟨g, o + 1, none⟩) (m - 1) (c - 1)))) := hcut
  clear hbq hcut hm
  go_upto_region 6 with fail
  go_quiet (fail)
  have KQ : Hid (Kp FU w (W6.drewN nq)) := KW.out.on (below_drawsX (Below.refl _ _) nq)
  have DQ1 : Hid (Dq (fun k => FU k ∨ (w.heap.size ≤ k ∧ k < (W6.drewN nq).heap.size)) u lim (Os ++ [P]) (W6.drewN nq)) := DQ.out.on fun k _ => rfl
  have HC1 : Hid (2 ≤ m → Dq (fun k => FU k ∨ (w.heap.size ≤ k ∧ k < (W6.drewN nq).heap.size)) u lim ((Os ++ [P]).drop 1) ((W6.drewN nq).setCell ⟨u, 1, none⟩ (.slice (some ⟨g, o + 1, none⟩) (m - 1) (c - 1)))) := fun h2 => (HCUT.out h2).on fun k _ => rfl
  have f1' : (W6.drewN nq).frozen? ⟨u, 1, none⟩ = false := HBQ.out.free 1
  have c1q : (W6.drewN nq).cell? ⟨u, 1, none⟩ = some (.slice (some ⟨g, o, none⟩) m c) := c1'
  generalize W6.drewN nq = W7 at *
  clear c0' c1' DQ HCUT KW HBQ
  by_cases hz : lim < m
  · have i2 : (lim : Int) < (m : Int) := by omega
    have i3 : ¬ c = 1 := by omega
    have i4 : 1 ≤ c := by omega
    have i5 : 1 ≤ m := by omega
    have KF : Hid (Kp FU w (W7.setCell ⟨u, 1, none⟩ (.slice (some ⟨g, o + 1, none⟩) (m - 1) (c - 1)))) := KQ.out.trans (Kp.set _ u 1 _ HU.out)
    have DF : Hid (Dt (fun k => FU k ∨ (w.heap.size ≤ k ∧ k < (W7.setCell ⟨u, 1, none⟩ (.slice (some ⟨g, o + 1, none⟩) (m - 1) (c - 1))).heap.size)) u lim ((Os ++ [P]).drop 1) (W7.setCell ⟨u, 1, none⟩ (.slice (some ⟨g, o + 1, none⟩) (m - 1) (c - 1)))) := by
      have hs : (W7.setCell ⟨u, 1, none⟩ (.slice (some ⟨g, o + 1, none⟩) (m - 1) (c - 1))).heap.size = W7.heap.size := by simp
      unfold Hid
      rw [hs]
      exact (HC1.out (by omega)).dt (by rw [List.length_drop, HLE.out.1]; have := HL2.out; omega)
    have HIF : Hid (lim < Os.length + 1) := by unfold Hid; rw [HLE.out.2, ← HM.out]; exact hz
    clear HC1 DQ1 KQ
    go_wp2
    go_ret
    try rw [if_pos HIF.out]
    refine ⟨rfl, ?_, KF.out⟩
    first | exact DF.out | (rw [← List.drop_one]; exact DF.out)
  · have i2 : ¬ (lim : Int) < (m : Int) := by omega
    have DF : Hid (Dt (fun k => FU k ∨ (w.heap.size ≤ k ∧ k < W7.heap.size)) u lim (Os ++ [P]) W7) := DQ1.out.dt (by rw [HLE.out.1, ← HM.out]; omega)
    have HIF : Hid (¬ lim < Os.length + 1) := by unfold Hid; rw [HLE.out.2, ← HM.out]; exact hz
    clear HC1 DQ1
    go_wp2
    go_ret
    try rw [if_neg HIF.out]
    exact ⟨rfl, DF.out, KQ.out⟩
end Go.Proofs.YtlckjbangdnejaaDoor
