/-
  What fillOam makes of a video memory; conditions: the sprites' third bytes lack their bits, the list is another block's, with room behind it.
-/
import Derived.Test.YtokbnffofaeipaaXvCopy
import Derived.BigRegion
import Derived.StillTailTactics
set_option linter.unusedSimpArgs false
set_option linter.unusedVariables false
namespace Go.Proofs.Ytokbnffofaeipaa
open Go.RowKit Classical
set_option maxRecDepth 100000 in
set_option maxHeartbeats 2000000 in
theorem fillOam_any (cs : Array Value) (f : Nat → Nat) (F : Fok f) (V : Vid cs f) (ho : oamF f = true) (b : Nat) (w : World) (hb : Blk w b cs 28)
    (l : List Nat) (n g off cap : Nat) (hn : n < cap) (hlen : n ≤ 140737488351232) (hg : g ≠ b) (hl : ∀ k, k < n → l.getD k 0 < 256) (hc : ∀ k, k < n → w.cell? ⟨g, off + k, none⟩ = some (.int .u8 (l.getD k 0 : Nat))) :
    Calls Try.prog 22 #[.pointer (some ⟨b, 0, none⟩), .slice (some ⟨g, off, none⟩) n cap] w fun e w' => e = .returned (.tuple #[]) ∧ Onl b w w' ∧ ∃ cs', Blk w' b cs' 28 ∧ Vid cs' (all2 f l n) := by
  obtain ⟨sk, hsk⟩ : ∃ sk, sk = n - 256 := ⟨_, rfl⟩
  obtain ⟨o, eo⟩ : ∃ o, o = f 256 := ⟨_, rfl⟩
  obtain ⟨at', hat⟩ : ∃ a, a = (o + sk) % 256 := ⟨_, rfl⟩
  obtain ⟨o2, ho2⟩ : ∃ a, a = (o + n) % 256 := ⟨_, rfl⟩
  obtain ⟨m, hm⟩ : ∃ m, m = n - sk := ⟨_, rfl⟩
  obtain ⟨n1, hn1⟩ : ∃ n1, n1 = min (256 - at') m := ⟨_, rfl⟩
  have o256 : o < 256 := by rw [eo]; exact F.b _ (by decide)
  have c0 : w.cell? ⟨b, 256, none⟩ = some (.int .u8 (o : Nat)) := by rw [eo]; exact (hb.cell _).trans (V.byte _ (by decide))
  have mx : ∀ w : World, (Builtin.max_ #[3, 3] 3 #[.int .i64 0, .int .i64 ((n : Int) - 256)]).run Try.prog w = .ok (.int .i64 (sk : Nat)) w := fun w => by
    rw [max2i, show max 0 ((n : Int) - 256) = (sk : Nat) by omega]
  have HB : Hid (Blk w b cs 28) := hb
  have sk1 : (sk : Int) ≤ (n : Int) := by omega
  have HE : Hid (sk = n - 256 ∧ o = f 256 ∧ at' = (o + sk) % 256 ∧ o2 = (o + n) % 256 ∧ m = n - sk ∧ n1 = min (256 - at') m) := ⟨hsk, eo, hat, ho2, hm, hn1⟩
  have at256 : at' < 256 := by omega
  have an : ¬ 256 = at' := by omega
  have at257 : (at' : Int) ≤ 256 := by omega
  have e1 : ((o : Int) + (sk : Int)) % 256 = (at' : Int) := by omega
  have e2 : ((o : Int) + (n : Int)) % 256 = (o2 : Int) := by omega
  have e3 : n - sk = m := by omega
  have fr := hb.free 256
  have sn : sk ≤ n := by omega
  have HC : Hid (∀ w1, Onl b w w1 → ∀ k, k < m → w1.cell? ⟨g, off + sk + k, none⟩ = some (.int .u8 (l.getD (sk + k) 0 : Nat))) := fun w1 h1 k hk => by
    rw [h1.cell hg, show off + sk + k = off + (sk + k) by omega]
    exact hc (sk + k) (by omega)
  have B1 : Hid (Blk (w.setCell ⟨b, 256, none⟩ (.int .u8 (o2 : Nat))) b (cs.setIfInBounds 256 (.int .u8 (o2 : Nat))) 28) := hb.set 256 _
  have V1 : Hid (Vid (cs.setIfInBounds 256 (.int .u8 (o2 : Nat))) (upd f 256 o2)) := V.set 256 o2 _ (cel_b _ (by decide)).symm
  have O1 : Hid (Onl b w (w.setCell ⟨b, 256, none⟩ (.int .u8 (o2 : Nat)))) := (Onl.refl b w).setCell 256 _
  clear hsk eo hat ho2 hm hn1 hb hc sn
  go_enter Try.func22, Try.ntmps22
  go_upto_region 4 with fail
  clear mx e1 e2 e3 c0 fr
  generalize (w.setCell ⟨b, 256, none⟩ (.int .u8 (o2 : Nat))) = w1 at *
  generalize (cs.setIfInBounds 256 (.int .u8 (o2 : Nat))) = cs1 at *
  have K1 := HC.out w1 O1.out
  have F1 : Hid (n1 = Nat.min m (256 - at')) := by have := HE.out; unfold Hid; show n1 = min m (256 - at'); omega
  have F2 : Hid (0 < n1 → ∃ ad : Addr, (some ⟨g, off + sk, none⟩ : Option Addr) = some ad ∧ ∀ j, j < n1 → w1.cell? (ad.add j) = some (.int .u8 (l.getD (sk + j) 0 : Nat))) := fun _ => ⟨_, rfl, fun j hj => by
    have := HE.out
    rw [Addr.add_mid]; exact K1 j (by omega)⟩
  have F3 : Hid (at' + n1 ≤ 12577) := by have := HE.out; unfold Hid; omega
  have n1m : (n1 : Int) ≤ (m : Int) := by have := HE.out; omega
  have ncs : ¬ cap - sk = n1 := by have := HE.out; omega
  clear K1
  go_cut [6] (fun r wx => r = .int .i64 (n1 : Nat) ∧ ∃ cs2, Hid (Blk wx b cs2 28) ∧ Hid (Vid cs2 (cpy (upd f 256 o2) at' n1 fun k => l.getD (sk + k) 0)) ∧ Hid (Onl b w wx))
  case first =>
    go_wp2_with (first
      | (refine wpList_copyV rfl (.tmp 37) (.tmp 38) 29 29 rfl 5 Try.underlying29 (by kernel_rfl) _ _ _ _ _ _ _ rfl rfl cs1 _ _ V1.out B1.out n1 (fun k => l.getD (sk + k) 0) F1.out F2.out F3.out ?_; intro w2 cs2 B2 V2 O2))
    go_meet
    exact ⟨rfl, cs2, B2, V2, O1.out.trans O2⟩
  case rest =>
  obtain ⟨rfl, cs2, B2, V2, O2⟩ := hcut
  have K2 := HC.out wc O2.out
  obtain ⟨n2, hn2⟩ : ∃ n2, n2 = m - n1 := ⟨_, rfl⟩
  have HN2 : Hid (n2 = m - n1) := hn2
  have mn2 : m - n1 = n2 := hn2.symm
  clear hn2
  have F4 : Hid (n2 = Nat.min n2 at') := by have := HE.out; have := HN2.out; unfold Hid; show n2 = min n2 at'; omega
  have F5 : Hid (0 < n2 → ∃ ad : Addr, (some ⟨g, off + sk + n1, none⟩ : Option Addr) = some ad ∧ ∀ j, j < n2 → wc.drew.cell? (ad.add j) = some (.int .u8 (l.getD (sk + n1 + j) 0 : Nat))) := fun _ => ⟨_, rfl, fun j hj => by
    have := HE.out; have := HN2.out
    rw [Addr.add_mid, show off + sk + n1 + j = off + sk + (n1 + j) by omega, show sk + n1 + j = sk + (n1 + j) by omega]; exact K2 (n1 + j) (by omega)⟩
  have F6 : Hid (0 + n2 ≤ 12577) := by have := HE.out; have := HN2.out; unfold Hid; omega
  have BD : Hid (Blk wc.drew b cs2 28) := B2.out
  clear K2
  go_upto_region 5 with fail
  go_cut [] (fun wx => ∃ cs3, Hid (Blk wx b cs3 28) ∧ Hid (Vid cs3 (cpy (cpy (upd f 256 o2) at' n1 fun k => l.getD (sk + k) 0) 0 n2 fun k => l.getD (sk + n1 + k) 0)) ∧ Hid (Onl b w wx))
  case first =>
    go_still_tail 9, (by kernel_rfl)
    go_wp2_with (first
      | (refine wpList_copyV rfl (.tmp 45) (.tmp 48) 29 29 rfl 5 Try.underlying29 (by kernel_rfl) _ _ _ _ _ _ _ rfl rfl cs2 _ _ V2.out BD.out n2 (fun k => l.getD (sk + n1 + k) 0) F4.out F5.out F6.out ?_; intro w3 cs3 B3 V3 O3))
    go_meet
    exact ⟨cs3, B3, V3, (O2.out.drew).trans O3⟩
  case rest =>
  clear B2 V2 O2 BD F4 F5 F6 mn2
  obtain ⟨cs3, B3, V3, O3⟩ := hcut
  obtain ⟨h, hh⟩ : ∃ h, h = cpy (cpy (upd f 256 o2) at' n1 fun k => l.getD (sk + k) 0) 0 n2 fun k => l.getD (sk + n1 + k) 0 := ⟨_, rfl⟩
  rw [← hh] at V3
  have FH : Fok h := by
    have h1 := HE.out
    have h2 := HN2.out
    rw [hh]
    exact ((F.set 256 o2 (by decide) (by omega)).cpyF at' n1 _ (by omega) fun k hk => hl _ (by omega)).cpyF 0 n2 _ (by omega) fun k hk => hl _ (by omega)
  have HH : Hid (h = cpy (cpy (upd f 256 o2) at' n1 fun k => l.getD (sk + k) 0) 0 n2 fun k => l.getD (sk + n1 + k) 0) := hh
  clear hh
  go_wp2
  go_loopw [7] (fun i wr => ∃ k : Nat, k ≤ 64 ∧ i = .int .i64 (4 * k + 2 : Nat) ∧ ∃ cs', Hid (Blk wr b cs' 28) ∧ Hid (Vid cs' (thr h k)) ∧ Hid (Onl b w wr)) (fun i _ => 64 - ((intOf i).toNat - 2) / 4)
  case atStart =>
    have e : thr h 0 = h := by
      funext j
      unfold thr
      rw [if_neg (by omega)]
    exact ⟨0, by omega, rfl, cs3, B3, by rw [e]; exact V3, O3⟩
  case round =>
    obtain ⟨k, hk, rfl, cs4, B4, V4, O4⟩ := hrel
    clear B3 V3 O3
    obtain ⟨p, hp⟩ : ∃ p, p = 4 * k + 2 := ⟨_, rfl⟩
    rw [← hp]
    have hp1 : 2 ≤ p := by omega
    have hp2 : p ≤ 258 := by omega
    have HP : Hid (p = 4 * k + 2) := hp
    clear hp
    obtain ⟨x, hx⟩ : ∃ x, x = thr h k p := ⟨_, rfl⟩
    have HX : Hid (x = thr h k p) := hx
    by_cases hlt : p < 256
    · have c : wr.cell? ⟨b, p, none⟩ = some (.int .u8 (x : Nat)) := by rw [hx]; exact (Blk.cell B4.out _).trans (V4.out.byte _ (by omega))
      have fr := Blk.free B4.out p
      have hx2 : x < 256 := by
        rw [hx]
        unfold thr
        split
        · exact mk8_lt (FH.b _ (by omega))
        · exact FH.b _ (by omega)
      have ha := and227 x hx2
      clear hx hx2
      go_wp2
      go_still_tail 10, (by kernel_rfl)
      go_wp2
      go_roundw
      case rel =>
        have hs := HP.out
        refine ⟨k + 1, by omega, by go_num, _, Blk.set B4.out p (.int .u8 (mk8 x : Nat)), ?_, (O4.out.drew).setCell p _⟩
        have := V4.out.set p (mk8 x) (.int .u8 (mk8 x : Nat)) (cel_b _ (by omega)).symm
        rw [thr_step, ← hs, ← HX.out]
        exact this
      case measure => have := HP.out; simp [intOf]; omega
    · go_wp2
      go_end0
      have h64 : k = 64 := by have := HP.out; omega
      subst h64
      have ea : all2 f l n = thr h 64 := by
        obtain ⟨q1, q2, q3, q4, q5, q6⟩ := HE.out
        rw [HH.out, HN2.out]
        unfold all2
        rw [← q2, ← q1, ← q3, ← q4, ← q5, ← q6]
      rw [ea]
      exact ⟨rfl, O4.out, cs4, B4.out, V4.out⟩
end Go.Proofs.Ytokbnffofaeipaa
