/-
  What fillOam makes of a video memory; conditions: the sprites' third bytes lack their bits, the list is another block's, with room behind it.
  What Fill answers of every video memory; conditions: the list's bytes lie in memory, with room behind them.
-/
import Derived.Test.YtecaipakaaongaaXvCopy
import Derived.BigRegion
import Derived.StillTailTactics
set_option linter.unusedSimpArgs false
set_option linter.unusedVariables false
namespace Go.Proofs.Ytecaipakaaongaa
open Go.RowKit Classical
set_option maxRecDepth 100000 in
set_option maxHeartbeats 2000000 in
theorem fillOam_any (cs : Array Value) (f : Nat → Nat) (F : Fok f) (V : Vid cs f) (ho : oamF f = true) (b : Nat) (w : World) (hb : Blk w b cs 28)
    (l : List Nat) (n g off cap : Nat) (hn : n < cap) (hlen : n ≤ 140737488351232) (hg : g ≠ b) (hl : ∀ k, k < n → l.getD k 0 < 256) (hc : ∀ k, k < n → w.cell? ⟨g, off + k, none⟩ = some (.int .u8 (l.getD k 0 : Nat))) :
    Calls Try.prog 22 #[.pointer (some ⟨b, 0, none⟩), .slice (some ⟨g, off, none⟩) n cap] w fun e w' => e = .returned (.tuple #[]) ∧ Onl b w w' ∧ ∃ cs', Blk w' b cs' 28 ∧ Vid cs' (all2 f l n) := by
  obtain ⟨sk, hsk⟩ : ∃ sk, sk = n - 256 := ⟨_, rfl⟩
  obtain ⟨o, eo⟩ : ∃ o, o = f 256 := ⟨_, rfl⟩
  obtain ⟨at', hat⟩ : ∃ a, a = (o + sk) % 256 := ⟨_, rfl⟩
  obtain ⟨o2, ho2⟩ : ∃ a, a = (o + n) % 256 := ⟨_, rfl⟩
  obtain ⟨m, hm⟩ : ∃ m, m = n - sk := ⟨_, rfl⟩
  obtain ⟨n1, hn1⟩ : ∃ n1, n1 = min (256 - at') m := ⟨_, rfl⟩
  have o256 : o < 256 := by rw [eo]; exact F.b _ (by decide)
  have c0 : w.cell? ⟨b, 256, none⟩ = some (.int .u8 (o : Nat)) := by rw [eo]; exact (hb.cell _).trans (V.byte _ (by decide))
  have mx : ∀ w : World, (Builtin.max_ #[3, 3] 3 #[.int .i64 0, .int .i64 ((n : Int) - 256)]).run Try.prog w = .ok (.int .i64 (sk : Nat)) w := fun w => by
    rw [max2i, show max 0 ((n : Int) - 256) = (sk : Nat) by omega]
  have HB : Hid (Blk w b cs 28) := hb
  have sk1 : (sk : Int) ≤ (n : Int) := by omega
  have HE : Hid (sk = n - 256 ∧ o = f 256 ∧ at' = (o + sk) % 256 ∧ o2 = (o + n) % 256 ∧ m = n - sk ∧ n1 = min (256 - at') m) := ⟨hsk, eo, hat, ho2, hm, hn1⟩
  have at256 : at' < 256 := by omega
  have an : ¬ 256 = at' := by omega
  have at257 : (at' : Int) ≤ 256 := by omega
  have e1 : ((o : Int) + (sk : Int)) % 256 = (at' : Int) := by omega
  have e2 : ((o : Int) + (n : Int)) % 256 = (o2 : Int) := by omega
  have e3 : n - sk = m := by omega
  have fr := hb.free 256
  have sn : sk ≤ n := by omega
  have HC : Hid (∀ w1, Onl b w w1 → ∀ k, k < m → w1.cell? ⟨g, off + sk + k, none⟩ = some (.int .u8 (l.getD (sk + k) 0 : Nat))) := fun w1 h1 k hk => by
    rw [h1.cell hg, show off + sk + k = off + (sk + k) by omega]
    exact hc (sk + k) (by omega)
  have B1 : Hid (Blk (w.setCell ⟨b, 256, none⟩ (.int .u8 (o2 : Nat))) b (cs.setIfInBounds 256 (.int .u8 (o2 : Nat))) 28) := hb.set 256 _
  have V1 : Hid (Vid (cs.setIfInBounds 256 (.int .u8 (o2 : Nat))) (upd f 256 o2)) := V.set 256 o2 _ (cel_b _ (by decide)).symm
  have O1 : Hid (Onl b w (w.setCell ⟨b, 256, none⟩ (.int .u8 (o2 : Nat)))) := (Onl.refl b w).setCell 256 _
  clear hsk eo hat ho2 hm hn1 hb hc sn
  go_enter Try.func22, Try.ntmps22
  go_upto_region 4 with fail
  clear mx e1 e2 e3 c0 fr
  generalize (w.setCell ⟨b, 256, none⟩ (.int .u8 (o2 : Nat))) = w1 at *
  generalize (cs.setIfInBounds 256 (.int .u8 (o2 : Nat))) = cs1 at *
  have K1 := HC.out w1 O1.out
  have F1 : Hid (n1 = Nat.min m (256 - at')) := by have := HE.out; unfold Hid; show n1 = min m (256 - at'); omega
  have F2 : Hid (0 < n1 → ∃ ad : Addr, (some ⟨g, off + sk, none⟩ : Option Addr) = some ad ∧ ∀ j, j < n1 → w1.cell? (ad.add j) = some (.int .u8 (l.getD (sk + j) 0 : Nat))) := fun _ => ⟨_, rfl, fun j hj => by
    have := HE.out
    rw [Addr.add_mid]; exact K1 j (by omega)⟩
  have F3 : Hid (at' + n1 ≤ 12577) := by have := HE.out; unfold Hid; omega
  have n1m : (n1 : Int) ≤ (m : Int) := by have := HE.out; omega
  have ncs : ¬ cap - sk = n1 := by have := HE.out; omega
  clear K1
  go_cut [6] (fun r wx => r = .int .i64 (n1 : Nat) ∧ ∃ cs2, Hid (Blk wx b cs2 28) ∧ Hid (Vid cs2 (cpy (upd f 256 o2) at' n1 fun k => l.getD (sk + k) 0)) ∧ Hid (Onl b w wx))
  case first =>
    go_wp2_with (first
      | (refine wpList_copyV rfl (.tmp 37) (.tmp 38) 29 29 rfl 5 Try.underlying29 (by kernel_rfl) _ _ _ _ _ _ _ rfl rfl cs1 _ _ V1.out B1.out n1 (fun k => l.getD (sk + k) 0) F1.out F2.out F3.out ?_; intro w2 cs2 B2 V2 O2))
    go_meet
    exact ⟨rfl, cs2, B2, V2, O1.out.trans O2⟩
  case rest =>
  obtain ⟨rfl, cs2, B2, V2, O2⟩ := hcut
  have K2 := HC.out wc O2.out
  obtain ⟨n2, hn2⟩ : ∃ n2, n2 = m - n1 := ⟨_, rfl⟩
  have HN2 : Hid (n2 = m - n1) := hn2
  have mn2 : m - n1 = n2 := hn2.symm
  clear hn2
  have F4 : Hid (n2 = Nat.min n2 at') := by have := HE.out; have := HN2.out; unfold Hid; show n2 = min n2 at'; omega
  have F5 : Hid (0 < n2 → ∃ ad : Addr, (some ⟨g, off + sk + n1, none⟩ : Option Addr) = some ad ∧ ∀ j, j < n2 → wc.drew.cell? (ad.add j) = some (.int .u8 (l.getD (sk + n1 + j) 0 : Nat))) := fun _ => ⟨_, rfl, fun j hj => by
    have := HE.out; have := HN2.out
    rw [Addr.add_mid, show off + sk + n1 + j = off + sk + (n1 + j) by omega, show sk + n1 + j = sk + (n1 + j) by omega]; exact K2 (n1 + j) (by omega)⟩
  have F6 : Hid (0 + n2 ≤ 12577) := by have := HE.out; have := HN2.out; unfold Hid; omega
  have BD : Hid (Blk wc.drew b cs2 28) := B2.out
  clear K2
  go_upto_region 5 with fail
  go_cut [] (fun wx => ∃ cs3, Hid (Blk wx b cs3 28) ∧ Hid (Vid cs3 (cpy (cpy (upd f 256 o2) at' n1 fun k => l.getD (sk + k) 0) 0 n2 fun k => l.getD (sk + n1 + k) 0)) ∧ Hid (Onl b w wx))
  case first =>
    go_still_tail 9, (by kernel_rfl)
    go_wp2_with (first
      | (refine wpList_copyV rfl (.tmp 45) (.tmp 48) 29 29 rfl 5 Try.underlying29 (by kernel_rfl) _ _ _ _ _ _ _ rfl rfl cs2 _ _ V2.out BD.out n2 (fun k => l.getD (sk + n1 + k) 0) F4.out F5.out F6.out ?_; intro w3 cs3 B3 V3 O3))
    go_meet
    exact ⟨cs3, B3, V3, (O2.out.drew).trans O3⟩
  case rest =>
  clear B2 V2 O2 BD F4 F5 F6 mn2
  obtain ⟨cs3, B3, V3, O3⟩ := hcut
  obtain ⟨h, hh⟩ : ∃ h, h = cpy (cpy (upd f 256 o2) at' n1 fun k => l.getD (sk + k) 0) 0 n2 fun k => l.getD (sk + n1 + k) 0 := ⟨_, rfl⟩
  rw [← hh] at V3
  have FH : Fok h := by
    have h1 := HE.out
    have h2 := HN2.out
    rw [hh]
    exact ((F.set 256 o2 (by decide) (by omega)).cpyF at' n1 _ (by omega) fun k hk => hl _ (by omega)).cpyF 0 n2 _ (by omega) fun k hk => hl _ (by omega)
  have HH : Hid (h = cpy (cpy (upd f 256 o2) at' n1 fun k => l.getD (sk + k) 0) 0 n2 fun k => l.getD (sk + n1 + k) 0) := hh
  clear hh
  go_wp2
  go_loopw [7] (fun i wr => ∃ k : Nat, k ≤ 64 ∧ i = .int .i64 (4 * k + 2 : Nat) ∧ ∃ cs', Hid (Blk wr b cs' 28) ∧ Hid (Vid cs' (thr h k)) ∧ Hid (Onl b w wr)) (fun i _ => 64 - ((intOf i).toNat - 2) / 4)
  case atStart =>
    have e : thr h 0 = h := by
      funext j
      unfold thr
      rw [if_neg (by omega)]
    exact ⟨0, by omega, rfl, cs3, B3, by rw [e]; exact V3, O3⟩
  case round =>
    obtain ⟨k, hk, rfl, cs4, B4, V4, O4⟩ := hrel
    clear B3 V3 O3
    obtain ⟨p, hp⟩ : ∃ p, p = 4 * k + 2 := ⟨_, rfl⟩
    rw [← hp]
    have hp1 : 2 ≤ p := by omega
    have hp2 : p ≤ 258 := by omega
    have HP : Hid (p = 4 * k + 2) := hp
    clear hp
    obtain ⟨x, hx⟩ : ∃ x, x = thr h k p := ⟨_, rfl⟩
    have HX : Hid (x = thr h k p) := hx
    by_cases hlt : p < 256
    · have c : wr.cell? ⟨b, p, none⟩ = some (.int .u8 (x : Nat)) := by rw [hx]; exact (Blk.cell B4.out _).trans (V4.out.byte _ (by omega))
      have fr := Blk.free B4.out p
      have hx2 : x < 256 := by
        rw [hx]
        unfold thr
        split
        · exact mk8_lt (FH.b _ (by omega))
        · exact FH.b _ (by omega)
      have ha := and227 x hx2
      clear hx hx2
      go_wp2
      go_still_tail 10, (by kernel_rfl)
      go_wp2
      go_roundw
      case rel =>
        have hs := HP.out
        refine ⟨k + 1, by omega, by go_num, _, Blk.set B4.out p (.int .u8 (mk8 x : Nat)), ?_, (O4.out.drew).setCell p _⟩
        have := V4.out.set p (mk8 x) (.int .u8 (mk8 x : Nat)) (cel_b _ (by omega)).symm
        rw [thr_step, ← hs, ← HX.out]
        exact this
      case measure => have := HP.out; simp [intOf]; omega
    · go_wp2
      go_end0
      have h64 : k = 64 := by have := HP.out; omega
      subst h64
      have ea : all2 f l n = thr h 64 := by
        obtain ⟨q1, q2, q3, q4, q5, q6⟩ := HE.out
        rw [HH.out, HN2.out]
        unfold all2
        rw [← q2, ← q1, ← q3, ← q4, ← q5, ← q6]
      rw [ea]
      exact ⟨rfl, O4.out, cs4, B4.out, V4.out⟩
end Go.Proofs.Ytecaipakaaongaa
namespace Go.Proofs.Ytecaipakaaongaa
open Go.RowKit Classical
theorem Try.infoVid : (Try.prog.info? 28).map (·.size) = some 12585 := by kernel_rfl
def filF (f : Nat → Nat) (l : List Nat) (n : Nat) : Nat → Nat := if fitF f = true then fil f l n else f
theorem below_allocs {w : World} (a b : Obj) : Below w.heap.size w ((w.alloc a).alloc b) := ((Below.refl _ _).alloc (Nat.le_refl _) _).alloc (by simp) _
theorem results_cellV {fn : Func} {p : Tmp} {ty : TypeId} (h : fn.results = #[.cell p ty]) (tmps : Array Value) (P : Program) (w : World) :
    (results fn tmps).run P w = ((asAddr (tmps.getD p undef)).run P w).andThen fun a w₁ => (loadVar ty a).run P w₁ := by
  simp only [results, h]
  simp [Sem.run_bind, Result.andThen]
theorem ret_vid {P : Program} {fn : Func} {R : Ending → World → Prop} {ac : Act} {w : World} {p : Tmp} {ty : TypeId} {m : Nat} {L : Array Value} {d : TypeDesc} {t : TypeId} (h : fn.results = #[.cell p ty]) (hp : ac.tmps.getD p undef = .pointer (some ⟨m, 0, none⟩)) (hdf : ac.defers = [])
    (hb : Blk w m L t) (hu : P.underlying ty = some d) (hd : d.isRow = true) (hi : (P.info? ty).map (·.size) = some L.size) (hR : R (.returned (.agg L)) w) : bodyPost P fn R .ret ac w := by
  refine bodyPost_ret (v := .agg L) ?_ hdf hR
  rw [results_cellV h]
  rw [hp]
  have hr := run_loadVar_mid (P := P) w m 0 ty L.toList d hb.range' hu hd (by rw [Array.length_toList]; exact hi)
  simp only [asAddr, Sem.run_pure, Result.andThen_ok]
  rw [hr]
set_option maxRecDepth 100000 in
set_option maxHeartbeats 2000000 in
theorem fill_any (cs : Array Value) (f : Nat → Nat) (F : Fok f) (V : Vid cs f) (w : World)
    (l : List Nat) (n g off cap : Nat) (hn : n < cap) (hlen : n ≤ 140737488351232) (hl : ∀ k, k < n → l.getD k 0 < 256) (hg : g < w.heap.size) (hc : ∀ k, k < n → w.cell? ⟨g, off + k, none⟩ = some (.int .u8 (l.getD k 0 : Nat))) :
    Calls Try.prog 8 #[.agg cs, .slice (some ⟨g, off, none⟩) n cap] w fun e w' => ∃ cs', e = .returned (.agg cs') ∧ Vid cs' (filF f l n) ∧ Below w.heap.size w w' := by
  have HC : Hid (∀ w1, Below w.heap.size w w1 → ∀ k, k < n → w1.cell? ⟨g, off + k, none⟩ = some (.int .u8 (l.getD k 0 : Nat))) := fun w1 h1 k hk => (h1.cell (p := ⟨g, off + k, none⟩) hg).trans (hc k hk)
  have FA := fun (W : World) (b : Nat) (hB : Hid (Blk W b cs 28)) => vfits_any cs f F V b W hB.out
  go_enter Try.func8, Try.ntmps8
  go_upto_region 1 with fail
  have B0 : Hid (Blk ((w.alloc (.cells cs 28)).alloc (.cells Try.zeroCells28 28)) w.heap.size cs 28) := (Blk.new w cs _).old _
  have Z0 : Hid (Blk ((w.alloc (.cells cs 28)).alloc (.cells Try.zeroCells28 28)) (w.heap.size + 1) Try.zeroCells28 28) := by
    have := Blk.new (w.alloc (.cells cs 28)) Try.zeroCells28 28
    rwa [World.size_alloc] at this
  have L0 : Hid (Below w.heap.size w ((w.alloc (.cells cs 28)).alloc (.cells Try.zeroCells28 28))) := below_allocs _ _
  generalize ((w.alloc (.cells cs 28)).alloc (.cells Try.zeroCells28 28)) = W at *
  have I8 : Hid ((Try.prog.info? 28).map (·.size) = some 12585) := Try.infoVid
  have HV : Hid (Vid cs f) := V
  have V1 : Hid (cs.size = 12585) := V.1
  have O1 : Hid (cs.all (·.oneCell') = true) := V.one
  have w1lt : w.heap.size < w.heap.size + 1 := by omega
  by_cases h0 : n = 0
  · subst h0
    have HE0 : Hid (filF f l 0 = f) := by unfold Hid filF; split <;> rfl
    clear HC FA
    go_wp2_with (first
      | (refine wpList_load_blk rfl 28 _ rfl w.heap.size rfl cs _ B0.out Try.underlying28 rfl (by rw [V1.out]; exact I8.out) ?_)
        | (refine wpList_store_blk rfl 28 _ _ rfl (w.heap.size + 1) Try.zeroCells28 cs 28 rfl rfl Z0.out (V1.out.trans Try.zeroCells28_size.symm) (by rw [V1.out]; exact I8.out) O1.out w.heap.size w (by omega) L0.out ?_; intro w3 B3 L3 _))
    exact ret_vid Try.results8 rfl rfl B3 Try.underlying28 rfl (by rw [V1.out]; exact I8.out) ⟨cs, rfl, by rw [HE0.out]; exact HV.out, L3⟩
  have n0 : (0 : Int) < (n : Int) := by omega
  have n00 : 0 < n := by omega
  cases hf : fitF f
  · have HE0 : Hid (filF f l n = f) := by unfold Hid filF; rw [hf]; rfl
    rw [hf] at FA
    clear HC
    go_wp2_with (first
      | (go_at_call 21; refine (FA _ _ B0).mono ?_; rintro e w1 ⟨rfl, rfl⟩)
      | (refine wpList_load_blk rfl 28 _ rfl w.heap.size rfl cs _ B0.out Try.underlying28 rfl (by rw [V1.out]; exact I8.out) ?_)
        | (refine wpList_store_blk rfl 28 _ _ rfl (w.heap.size + 1) Try.zeroCells28 cs 28 rfl rfl Z0.out (V1.out.trans Try.zeroCells28_size.symm) (by rw [V1.out]; exact I8.out) O1.out w.heap.size w (by omega) L0.out ?_; intro w3 B3 L3 _))
    exact ret_vid Try.results8 rfl rfl B3 Try.underlying28 rfl (by rw [V1.out]; exact I8.out) ⟨cs, rfl, by rw [HE0.out]; exact HV.out, L3⟩
  · have HE0 : Hid (filF f l n = fil f l n) := by unfold Hid filF; rw [hf]; rfl
    rw [hf] at FA
    have ho : oamF f = true := by
      unfold fitF at hf
      simp only [Bool.and_eq_true] at hf
      exact hf.2.2.2.1
    have OA := fun (W1 : World) (hB : Hid (Blk W1 w.heap.size cs 28)) (hL : Hid (Below w.heap.size w W1)) => fillOam_any cs f F V ho w.heap.size W1 hB.out l n g off cap hn hlen (by omega) hl (HC.out W1 hL.out)
    obtain ⟨q, hq⟩ : ∃ q, q = n - 1 := ⟨_, rfl⟩
    have HQ : Hid (q = n - 1) := hq
    obtain ⟨la, hla⟩ : ∃ la, la = l.getD (n - 1) 0 := ⟨_, rfl⟩
    have HLA : Hid (la = l.getD (n - 1) 0) := hla
    have hlb : la < 256 := by rw [hla]; exact hl _ (by omega)
    have C1 : Hid (∀ w1, Below w.heap.size w w1 → w1.cell? ⟨g, off + q, none⟩ = some (.int .u8 (la : Nat))) := fun w1 h1 => by rw [hla, hq]; exact HC.out w1 h1 (n - 1) (by omega)
    have nn : ((n : Int) - 1) = (q : Int) := by omega
    have qn : (q : Int) < (n : Int) := by omega
    have HF : Hid (f 256 < 256) := F.b _ (by decide)
    clear hla HC hf hq
    go_upto_region 3 with (first
      | (go_at_call 21; refine (FA _ _ B0).mono ?_; rintro e w1 ⟨rfl, rfl⟩)
      | (go_at_call 22; refine (OA _ B0 L0).mono ?_; rintro e w2 ⟨rfl, O1, cs2, b2, v2⟩; have c1 := C1.out w2 (L0.out.trans (O1.below (Nat.le_refl _))); obtain ⟨y, c2⟩ : ∃ y : Nat, w2.cell? ⟨w.heap.size, 12584, none⟩ = some (.int .u8 y) := ⟨_, (b2.cell _).trans (v2.2 12584 (by decide))⟩; have fr := b2.free 12584; have L2 : Hid (Below w.heap.size w w2) := L0.out.trans (O1.below (Nat.le_refl _)); have B2 : Hid (Blk w2 w.heap.size cs2 28) := b2; have V2 : Hid (Vid cs2 (all2 f l n)) := v2; have Z2 : Hid (Blk w2 (w.heap.size + 1) Try.zeroCells28 28) := O1.blk Z0.out (by omega); clear b2 v2 O1 OA FA C1))
    clear hc hl F hn h0
    go_upto_region 4 with fail
    have Z3 : Hid (Blk (w2.setCell ⟨w.heap.size, 12584, none⟩ (.int .u8 (la : Nat))) (w.heap.size + 1) Try.zeroCells28 28) := Z2.out.other (by omega) 12584 _
    have B3 : Hid (Blk (w2.setCell ⟨w.heap.size, 12584, none⟩ (.int .u8 (la : Nat))) w.heap.size (cs2.setIfInBounds 12584 (.int .u8 (la : Nat))) 28) := B2.out.set 12584 _
    have L3 : Hid (Below w.heap.size w (w2.setCell ⟨w.heap.size, 12584, none⟩ (.int .u8 (la : Nat)))) := L2.out.setCell (p := ⟨w.heap.size, 12584, none⟩) (Nat.le_refl _) _
    have V3 : Vid (cs2.setIfInBounds 12584 (.int .u8 (la : Nat))) (upd (all2 f l n) 12584 la) := V2.out.set 12584 la _ rfl
    generalize (w2.setCell ⟨w.heap.size, 12584, none⟩ (.int .u8 (la : Nat))) = w3 at *
    generalize (cs2.setIfInBounds 12584 (.int .u8 (la : Nat))) = cs3 at *
    have VS : Hid (cs3.size = 12585) := V3.1
    have O3 : Hid (cs3.all (·.oneCell') = true) := V3.one
    have HV3 : Hid (Vid cs3 (filF f l n)) := by
      rw [HE0.out]
      have f256 : f 256 < 256 := HF.out
      refine ⟨V3.1, fun i hi => ?_⟩
      rw [V3.2 i hi]
      by_cases hi2 : i = 12584
      · subst hi2
        rw [upd_same, fil_io f l f256 n, if_neg (by omega), ← HLA.out]
      · rw [upd_ne _ _ hi2, all2_fil f l n f256 (fun k hk => oamF_at ho k hk) i hi2]
    clear V3
    go_wp2_with (first
        | (refine wpList_load_blk rfl 28 _ rfl w.heap.size rfl cs3 _ B3.out Try.underlying28 rfl (by rw [VS.out]; exact I8.out) ?_)
        | (refine wpList_store_blk rfl 28 _ _ rfl (w.heap.size + 1) Try.zeroCells28 cs3 28 rfl rfl Z3.out (VS.out.trans Try.zeroCells28_size.symm) (by rw [VS.out]; exact I8.out) O3.out w.heap.size w (by omega) L3.out ?_; intro w4 B4 L4 _))
    exact ret_vid Try.results8 rfl rfl B4 Try.underlying28 rfl (by rw [VS.out]; exact I8.out) ⟨cs3, rfl, HV3.out, L4⟩
end Go.Proofs.Ytecaipakaaongaa
