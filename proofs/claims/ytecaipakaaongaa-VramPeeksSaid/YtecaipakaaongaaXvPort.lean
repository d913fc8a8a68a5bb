/-
  What withBits answers, and what writeScroll, writeAddr, goOn make of a video memory behind a pointer; conditions: V and T have 15 bits.
-/
import Derived.Test.YtecaipakaaongaaXvPortS
import Derived.Test.YtecaipakaaongaaXvCopy
set_option linter.unusedSimpArgs false
set_option linter.unusedVariables false
namespace Go.Proofs.Ytecaipakaaongaa
open Go.RowKit Classical
theorem withBits_any (t m v : Nat) (ht : t < 65536) (hm : m < 65536) (hv : v < 65536) (w : World) :
    Calls Try.prog 27 #[.int .u16 (t : Nat), .int .u16 (m : Nat), .int .u16 (v : Nat)] w fun e w' => e = .returned (.int .u16 (wb t m v : Nat)) ∧ w' = w := by
  have h1 := u16_andNot_nat t m ht hm
  have h2 := u16_and_nat v m hv hm
  have b1 : (t &&& (65535 - m)) < 65536 := Nat.lt_of_le_of_lt Nat.and_le_left ht
  have b2 : (v &&& m) < 65536 := Nat.lt_of_le_of_lt Nat.and_le_left hv
  have h3 := u16_or_nat _ _ b1 b2
  unfold wb
  generalize (t &&& (65535 - m)) = x at *
  generalize (v &&& m) = y at *
  generalize (x ||| y) = z at *
  go_enter Try.func27, Try.ntmps27
  go_wp2
  go_ret
  exact ⟨rfl, rfl⟩
theorem upd_upd (f : Nat → Nat) (i x y : Nat) : upd (upd f i x) i y = upd f i y := by
  funext j
  unfold upd
  split <;> rfl
theorem and32767 (x : Nat) (h : x < 65536) : bits .and .u16 (x : Int) 32767 = ((x % 32768 : Nat) : Int) := by
  have := u16_and_nat x 32767 h (by decide)
  rw [show ((32767 : Nat) : Int) = 32767 from rfl] at this
  rw [this, Nat.and_two_pow_sub_one_eq_mod x 15]
set_option maxRecDepth 100000 in
set_option maxHeartbeats 1000000 in
theorem goOn_any (cs : Array Value) (f : Nat → Nat) (F : Fok f) (V : Vid cs f) (hv : f 12577 < 32768) (b : Nat) (w : World) (hb : Blk w b cs 28) :
    Calls Try.prog 32 #[.pointer (some ⟨b, 0, none⟩)] w fun e w' => e = .returned (.tuple #[]) ∧ Onl b w w' ∧ ∃ cs', Blk w' b cs' 28 ∧ Vid cs' (onF f) := by
  have hw := F.wide
  have c7 : w.cell? ⟨b, 12577, none⟩ = some (.int .u16 (f 12577 : Nat)) := (hb.cell _).trans V.c77
  have c8 : w.cell? ⟨b, 12578, none⟩ = some (.int .u16 (f 12578 : Nat)) := (hb.cell _).trans V.c78
  have c9 : w.cell? ⟨b, 12579, none⟩ = some (.int .u8 (f 12579 : Nat)) := (hb.cell _).trans V.c79
  have c0 : w.cell? ⟨b, 12580, none⟩ = some (.bool (f 12580 != 0)) := (hb.cell _).trans (V.2 12580 (by decide))
  have c1 : w.cell? ⟨b, 12581, none⟩ = some (.bool (f 12581 != 0)) := (hb.cell _).trans (V.2 12581 (by decide))
  have f7 := hb.free 12577
  have f8 := hb.free 12578
  have f9 := hb.free 12579
  have f0 := hb.free 12580
  have HB : Hid (Blk w b cs 28) := hb
  have HV : Hid (Vid cs f) := V
  clear hb V
  obtain ⟨x, hx⟩ : ∃ x, x = f 12577 := ⟨_, rfl⟩
  rw [← hx] at c7 hv
  have HX : Hid (x = f 12577) := hx
  clear hx F
  rcases (show f 12581 = 0 ∨ f 12581 = 1 by omega) with h | h
  · obtain ⟨y, hy⟩ : ∃ y, y = x + 1 := ⟨_, rfl⟩
    obtain ⟨z, hz⟩ : ∃ z, z = y % 32768 := ⟨_, rfl⟩
    have ha := and32767 y (by omega)
    have e1 : (x : Int) + 1 = (y : Int) := by omega
    have yb : y < 65536 := by omega
    rw [← hz] at ha
    have EZ : onF f = upd f 12577 z := by unfold onF; rw [h, ← HX.out, if_neg (by decide), hz, hy]
    rw [EZ]
    have cz : (f 12581 != 0) = false := by rw [h]; rfl
    rw [cz] at c1
    clear hy hz h hw cz EZ
    go_enter Try.func32, Try.ntmps32
    go_wp2
    go_end0
    refine ⟨rfl, ((Onl.refl b w).setCell 12577 _).setCell 12577 _, _, Blk.set (Blk.set HB.out 12577 _) 12577 _, ?_⟩
    have := (HV.out.set 12577 y (.int .u16 (y : Nat)) rfl).set 12577 z (.int .u16 (z : Nat)) rfl
    rw [upd_upd] at this
    exact this
  · obtain ⟨y, hy⟩ : ∃ y, y = x + 32 := ⟨_, rfl⟩
    obtain ⟨z, hz⟩ : ∃ z, z = y % 32768 := ⟨_, rfl⟩
    have ha := and32767 y (by omega)
    have e1 : (x : Int) + 32 = (y : Int) := by omega
    have yb : y < 65536 := by omega
    rw [← hz] at ha
    have EZ : onF f = upd f 12577 z := by unfold onF; rw [h, ← HX.out, if_pos (by decide), hz, hy]
    rw [EZ]
    have cz : (f 12581 != 0) = true := by rw [h]; rfl
    rw [cz] at c1
    clear hy hz h hw cz EZ
    go_enter Try.func32, Try.ntmps32
    go_wp2
    go_end0
    refine ⟨rfl, ((Onl.refl b w).setCell 12577 _).setCell 12577 _, _, Blk.set (Blk.set HB.out 12577 _) 12577 _, ?_⟩
    have := (HV.out.set 12577 y (.int .u16 (y : Nat)) rfl).set 12577 z (.int .u16 (z : Nat)) rfl
    rw [upd_upd] at this
    exact this
theorem and63 (x : Nat) (h : x < 256) : bits .and .u8 (x : Int) 63 = ((x % 64 : Nat) : Int) := by
  revert h; revert x; decide +kernel
theorem and7V (x : Nat) (h : x < 256) : bits .and .u8 (x : Int) 7 = ((x % 8 : Nat) : Int) := by
  revert h; revert x; decide +kernel
set_option maxRecDepth 100000 in
set_option maxHeartbeats 1000000 in
theorem writeAddr_any (cs : Array Value) (f : Nat → Nat) (F : Fok f) (V : Vid cs f) (ht : f 12578 < 32768) (v : Nat) (hv : v < 256) (b : Nat) (w : World) (hb : Blk w b cs 28) :
    Calls Try.prog 30 #[.pointer (some ⟨b, 0, none⟩), .int .u8 (v : Nat)] w fun e w' => e = .returned (.tuple #[]) ∧ Onl b w w' ∧ ∃ cs', Blk w' b cs' 28 ∧ Vid cs' (plcF f v) := by
  have hw := F.w
  have c7 : w.cell? ⟨b, 12577, none⟩ = some (.int .u16 (f 12577 : Nat)) := (hb.cell _).trans V.c77
  have c8 : w.cell? ⟨b, 12578, none⟩ = some (.int .u16 (f 12578 : Nat)) := (hb.cell _).trans V.c78
  have c9 : w.cell? ⟨b, 12579, none⟩ = some (.int .u8 (f 12579 : Nat)) := (hb.cell _).trans V.c79
  have c0 : w.cell? ⟨b, 12580, none⟩ = some (.bool (f 12580 != 0)) := (hb.cell _).trans (V.2 12580 (by decide))
  have c1 : w.cell? ⟨b, 12581, none⟩ = some (.bool (f 12581 != 0)) := (hb.cell _).trans (V.2 12581 (by decide))
  have f7 := hb.free 12577
  have f8 := hb.free 12578
  have f9 := hb.free 12579
  have f0 := hb.free 12580
  have HB : Hid (Blk w b cs 28) := hb
  have HV : Hid (Vid cs f) := V
  clear hb V
  obtain ⟨t, et⟩ : ∃ t, t = f 12578 := ⟨_, rfl⟩
  rw [← et] at c8 ht
  have HT : Hid (t = f 12578) := et
  clear et F
  rcases (show f 12580 = 0 ∨ f 12580 = 1 by omega) with h | h
  · obtain ⟨q, hq⟩ : ∃ q, q = v % 64 := ⟨_, rfl⟩
    have h63 := and63 v hv
    rw [← hq] at h63
    have WB := fun W => withBits_any t 32512 (q * 256) (by omega) (by decide) (by omega) W
    have e := wbF t v ht hv
    rw [← hq] at e
    rw [e] at WB
    obtain ⟨z, hz⟩ : ∃ z, z = q * 256 + t % 256 := ⟨_, rfl⟩
    rw [← hz] at WB
    obtain ⟨s, hs⟩ : ∃ s, s = q * 256 := ⟨_, rfl⟩
    rw [← hs] at WB
    have es : (q : Int) * 256 = (s : Int) := by omega
    have sb : s < 65536 := by omega
    have EZ : Hid (plcF f v = upd (upd f 12578 z) 12580 1) := by unfold Hid plcF; rw [h, if_neg (by decide), ← HT.out, ← hq, ← hz]
    have cz : (f 12580 != 0) = false := by rw [h]; rfl
    rw [cz] at c0
    clear hq hz hs e h cz
    go_enter Try.func30, Try.ntmps30
    go_wp2_with (go_at_call 27; refine (WB _).mono ?_; rintro e w1 ⟨rfl, rfl⟩)
    go_end0
    refine ⟨rfl, ((Onl.refl b w1).setCell 12578 _).setCell 12580 _, _, Blk.set (Blk.set HB.out 12578 _) 12580 _, ?_⟩
    rw [EZ.out]
    exact (HV.out.set 12578 z (.int .u16 (z : Nat)) rfl).set 12580 1 (.bool true) rfl
  · have WB := fun W => withBits_any t 255 v (by omega) (by decide) (by omega) W
    rw [wbE t v (by omega) hv] at WB
    obtain ⟨z, hz⟩ : ∃ z, z = t / 256 * 256 + v := ⟨_, rfl⟩
    rw [← hz] at WB
    have EZ : Hid (plcF f v = upd (upd (upd f 12578 z) 12577 z) 12580 0) := by unfold Hid plcF; rw [h, if_pos rfl, ← HT.out, ← hz]
    have cz : (f 12580 != 0) = true := by rw [h]; rfl
    rw [cz] at c0
    clear hz h cz
    go_enter Try.func30, Try.ntmps30
    go_wp2_with (go_at_call 27; refine (WB _).mono ?_; rintro e w1 ⟨rfl, rfl⟩)
    go_end0
    refine ⟨rfl, (((Onl.refl b w1).setCell 12578 _).setCell 12577 _).setCell 12580 _, _, Blk.set (Blk.set (Blk.set HB.out 12578 _) 12577 _) 12580 _, ?_⟩
    rw [EZ.out]
    exact ((HV.out.set 12578 z (.int .u16 (z : Nat)) rfl).set 12577 z (.int .u16 (z : Nat)) rfl).set 12580 0 (.bool false) rfl
set_option maxRecDepth 100000 in
set_option maxHeartbeats 2000000 in
theorem writeScroll_any (cs : Array Value) (f : Nat → Nat) (F : Fok f) (V : Vid cs f) (ht : f 12578 < 32768) (v : Nat) (hv : v < 256) (b : Nat) (w : World) (hb : Blk w b cs 28) :
    Calls Try.prog 29 #[.pointer (some ⟨b, 0, none⟩), .int .u8 (v : Nat)] w fun e w' => e = .returned (.tuple #[]) ∧ Onl b w w' ∧ ∃ cs', Blk w' b cs' 28 ∧ Vid cs' (scrF f v) := by
  have hw := F.w
  have c7 : w.cell? ⟨b, 12577, none⟩ = some (.int .u16 (f 12577 : Nat)) := (hb.cell _).trans V.c77
  have c8 : w.cell? ⟨b, 12578, none⟩ = some (.int .u16 (f 12578 : Nat)) := (hb.cell _).trans V.c78
  have c9 : w.cell? ⟨b, 12579, none⟩ = some (.int .u8 (f 12579 : Nat)) := (hb.cell _).trans V.c79
  have c0 : w.cell? ⟨b, 12580, none⟩ = some (.bool (f 12580 != 0)) := (hb.cell _).trans (V.2 12580 (by decide))
  have c1 : w.cell? ⟨b, 12581, none⟩ = some (.bool (f 12581 != 0)) := (hb.cell _).trans (V.2 12581 (by decide))
  have f7 := hb.free 12577
  have f8 := hb.free 12578
  have f9 := hb.free 12579
  have f0 := hb.free 12580
  have HB : Hid (Blk w b cs 28) := hb
  have HV : Hid (Vid cs f) := V
  clear hb V
  obtain ⟨t, et⟩ : ∃ t, t = f 12578 := ⟨_, rfl⟩
  rw [← et] at c8 ht
  have HT : Hid (t = f 12578) := et
  obtain ⟨x, ex⟩ : ∃ x, x = f 12579 := ⟨_, rfl⟩
  rw [← ex] at c9
  clear et F ex
  obtain ⟨q, hq⟩ : ∃ q, q = v / 8 := ⟨_, rfl⟩
  obtain ⟨r, hr⟩ : ∃ r, r = v % 8 := ⟨_, rfl⟩
  have h7 := and7V v hv
  rw [← hr] at h7
  have h8 : (v : Int) / 8 = (q : Int) := by omega
  have qb : q < 32 := by omega
  have rb : r < 8 := by omega
  rcases (show f 12580 = 0 ∨ f 12580 = 1 by omega) with h | h
  · have WB := fun W => withBits_any t 31 q (by omega) (by decide) (by omega) W
    have e := wbD t v (by omega) hv
    rw [← hq] at e
    rw [e] at WB
    obtain ⟨z, hz⟩ : ∃ z, z = t - t % 32 + q := ⟨_, rfl⟩
    rw [← hz] at WB
    have EZ : Hid (scrF f v = upd (upd (upd f 12578 z) 12579 r) 12580 1) := by unfold Hid scrF; rw [h, if_neg (by decide), ← HT.out, ← hq, ← hr, ← hz]
    have cz : (f 12580 != 0) = false := by rw [h]; rfl
    rw [cz] at c0
    clear hq hr hz e h cz
    go_enter Try.func29, Try.ntmps29
    go_wp2_with (go_at_call 27; refine (WB _).mono ?_; rintro e w1 ⟨rfl, rfl⟩)
    go_end0
    refine ⟨rfl, (((Onl.refl b w1).setCell 12578 _).setCell 12579 _).setCell 12580 _, _, Blk.set (Blk.set (Blk.set HB.out 12578 _) 12579 _) 12580 _, ?_⟩
    rw [EZ.out]
    exact ((HV.out.set 12578 z (.int .u16 (z : Nat)) rfl).set 12579 r (.int .u8 (r : Nat)) rfl).set 12580 1 (.bool true) rfl
  · obtain ⟨s1, hs1⟩ : ∃ s1, s1 = r * 4096 := ⟨_, rfl⟩
    obtain ⟨s2, hs2⟩ : ∃ s2, s2 = q * 32 := ⟨_, rfl⟩
    obtain ⟨t1, ht1⟩ : ∃ t1, t1 = t % 4096 + r * 4096 := ⟨_, rfl⟩
    have t1b : t1 < 65536 := by omega
    have WB1 := fun W => withBits_any t 28672 s1 (by omega) (by decide) (by omega) W
    have WB2 := fun W => withBits_any t1 992 s2 t1b (by decide) (by omega) W
    have e1 := wbB t v ht hv
    have e2 := wbC t1 v t1b hv
    rw [← hr, ← hs1, hs1, ← ht1, ← hs1] at e1
    rw [← hq, ← hs2] at e2
    rw [e1] at WB1
    rw [e2] at WB2
    obtain ⟨z, hz⟩ : ∃ z, z = t1 - t1 / 32 % 32 * 32 + s2 := ⟨_, rfl⟩
    rw [← hz] at WB2
    have EZ : Hid (scrF f v = upd (upd f 12578 z) 12580 0) := by unfold Hid scrF scrT1; rw [h, if_pos rfl, ← HT.out, ← hq, ← hr, ← ht1, ← hs2, ← hz]
    have m1 : (r : Int) * 4096 = (s1 : Int) := by omega
    have m2 : (q : Int) * 32 = (s2 : Int) := by omega
    have s1b : s1 < 65536 := by omega
    have s2b : s2 < 65536 := by omega
    have cz : (f 12580 != 0) = true := by rw [h]; rfl
    rw [cz] at c0
    clear hq hr hz e1 e2 h cz hs1 hs2 ht1
    go_enter Try.func29, Try.ntmps29
    go_wp2_with (first
      | (go_at_call_of 27 (Value.int .u16 (t : Nat)); refine (WB1 _).mono ?_; rintro e w1 ⟨rfl, rfl⟩)
      | (go_at_call_of 27 (Value.int .u16 (t1 : Nat)); refine (WB2 _).mono ?_; rintro e w2 ⟨rfl, ew⟩; rw [ew]; clear ew))
    go_end0
    refine ⟨rfl, (((Onl.refl b w1).setCell 12578 _).setCell 12578 _).setCell 12580 _, _, Blk.set (Blk.set (Blk.set HB.out 12578 _) 12578 _) 12580 _, ?_⟩
    rw [EZ.out, ← upd_upd f 12578 t1 z]
    exact ((HV.out.set 12578 t1 (.int .u16 (t1 : Nat)) rfl).set 12578 z (.int .u16 (z : Nat)) rfl).set 12580 0 (.bool false) rfl
end Go.Proofs.Ytecaipakaaongaa
