/-
  What Print answers: the error, or the header and the four lists; conditions: the lists lie in memory, the tables in their variables.
-/
import Derived.Test.YtpdbndkckioamaaDoorPrtHead
import Derived.Deep.DeepCutAuto
namespace Go.Proofs.YtpdbndkckioamaaDoor
open Go.RowKit
theorem ckN_zero {c : CF} (h : ckE c = 0) : ckN c = 0 := by
  unfold ckE at h
  unfold ckN
  split at h
  · cases h
  · next h1 =>
    rw [if_neg h1]
    split at h
    · cases h
    · next h2 => rw [if_neg h2]
/-- The image. -/
def imL (c : CF) (x : HN) (T P Q R : List Nat) : List Nat := if ckE c = 0 then hdL c x ++ T ++ P ++ Q ++ R else []
/-- What a Print is to answer. -/
def PrOk (c : CF) (L : List Nat) (w : World) (e : Ending) (w' : World) : Prop :=
  ∃ a n k, e = .returned (.tuple #[.slice a n k, .int .i64 (ckE c), .int .i64 (ckN c)]) ∧ L.length = n ∧ Row w' a L ∧ n ≤ k ∧ Below w.heap.size w w'
theorem Tx.rowC {w : World} {base : Nat} {v : Value} {l : List Nat} (h : Tx w base v l) : ∃ a k, v = .slice a l.length k ∧ RowF base w a l ∧ l.length ≤ k := by
  obtain ⟨a, k, e, hr⟩ := h.rowF
  refine ⟨a, k, e, hr, ?_⟩
  obtain ⟨hlen, h⟩ := h
  rcases h with ⟨hv, hn⟩ | ⟨g, cap, cur, hv, _, _, hn, _⟩
  · rw [e] at hv
    injection hv with _ h1 h2
    omega
  · rw [e] at hv
    injection hv with _ h1 h2
    omega
theorem hdL_len (c : CF) (x : HN) : (hdL c x).length = 16 := by
  unfold hdL
  split
  · rfl
  · split <;> rfl
theorem PrOk.good {c : CF} {x : HN} {T P Q R : List Nat} {w w' : World} {base : Nat} {v : Value} (h0 : ckE c = 0) (h : Tx w' base v (hdL c x ++ T ++ P ++ Q ++ R)) (hb : Below w.heap.size w w') :
    PrOk c (imL c x T P Q R) w (.returned (.tuple #[v, .int .i64 0, .int .i64 0])) w' := by
  obtain ⟨a, k, rfl, hr, hk⟩ := h.rowC
  refine ⟨a, _, k, by rw [h0, ckN_zero h0], ?_, ?_, hk, hb⟩
  · unfold imL; rw [if_pos h0]
  · unfold imL; rw [if_pos h0]; exact hr.row
theorem PrOk.bad {c : CF} {x : HN} {T P Q R : List Nat} {w w' : World} (h0 : ckE c ≠ 0) (hb : Below w.heap.size w w') :
    PrOk c (imL c x T P Q R) w (.returned (.tuple #[.slice none 0 0, .int .i64 (ckE c), .int .i64 (ckN c)])) w' := by
  refine ⟨none, 0, 0, rfl, ?_, ?_, Nat.le_refl _, hb⟩
  · unfold imL; rw [if_neg h0]; rfl
  · unfold imL; rw [if_neg h0]; exact .inl rfl
theorem vals_toList (l : List Nat) : (vals l).toArray.toList = vals l := rfl
theorem Blk.rowB {W : World} {g : Nat} {l : List Nat} {t : TypeId} (h : Blk W g (vals l).toArray t) : Row W (some ⟨g, 0, none⟩) l := by
  refine .inr ⟨g, 0, rfl, fun i hi => ?_⟩
  rw [Nat.zero_add, h.cell i]
  simp [vals, hi]
theorem vals_one' (l : List Nat) : (vals l).toArray.all (·.oneCell') = true := by
  rw [Array.all_eq_true_iff_forall_mem]
  intro v hv
  exact vals_one l v (by simpa using hv)
set_option maxRecDepth 100000 in
set_option maxHeartbeats 3200000 in
theorem print_any (cs : Array Value) (c : CF) (x : HN) (T P Q R : List Nat) (w : World) (X : Cl w cs c T P Q R) (hx : ckE c = 0 → Hb c x)
    (hpr : -9223372036854775808 ≤ c.pr ∧ c.pr ≤ 9223372036854775807) (hpn : -9223372036854775808 ≤ c.pn ∧ c.pn ≤ 9223372036854775807) (B : Bnd w) (Tt : Tz w) :
    Calls Tryd.prog 16 #[.agg cs] w (PrOk c (imL c x T P Q R) w) := by
  have HS : Hid (cs.size = 19) := X.c.size
  have hsz := X.c.size
  go_enter Tryd.func16, Tryd.ntmps16
  go_upto_region 1 with fail
  have hb0 : Below w.heap.size w (w.alloc (.cells cs 25)) := (Below.refl _ _).alloc (Nat.le_refl _) _
  have b0 : Blk (w.alloc (.cells cs 25)) w.heap.size cs 25 := Blk.new w cs _
  generalize w.alloc (.cells cs 25) = W0 at *
  clear hsz
  have CK : Hid (Calls _ _ _ _ _) := check_any cs c X.c hpr hpn W0 (B.below B.lt hb0) (Tt.below hb0)
  go_wp2_with (refine wpList_load_mid rfl 25 _ rfl w.heap.size 0 rfl cs.toList _ b0.range Tryd.underlying25 rfl (by rw [Array.length_toList, HS.out]; exact Tryd.infoCart) ?_; rw [Array.toArray_toList])
  refine CK.out.mono ?_
  rintro e W1 ⟨rfl, hb1⟩
  have b1 := b0.below b0.lt hb1
  have hbw1 := hb0.trans (hb1.mono hb0.size)
  clear CK b0 hb0 hb1
  by_cases h0 : ckE c = 0
  · have u : (ckE c != 0) = false := by simp [h0]
    have Hx := hx h0
    have H0 : Hid (ckE c = 0) := h0
    clear h0 hx
    go_upto_region 4 with fail
    have HD : Hid (Calls _ _ _ _ _) := head_any cs c x X.c Hx W1 (Tt.below hbw1)
    have HL : Hid ((vals (hdL c x)).toArray.size = 16 ∧ (vals (hdL c x)).toArray.all (·.oneCell') = true) := ⟨by simp [vals, hdL_len], vals_one' _⟩
    go_cut [7] (fun p wx => ∃ g, p = .pointer (some ⟨g, 0, none⟩) ∧ Blk wx g (vals (hdL c x)).toArray 67 ∧ Blk wx w.heap.size cs 25 ∧ Below w.heap.size w wx)
    case first =>
      generalize (vals (hdL c x)).toArray = L at *
      go_wp2_with (first
        | (refine wpList_load_mid rfl 25 _ rfl w.heap.size 0 rfl cs.toList _ b1.range Tryd.underlying25 rfl (by rw [Array.length_toList, HS.out]; exact Tryd.infoCart) ?_; rw [Array.toArray_toList])
        | (go_at_call 35; go_must (refine HD.out.mono ?_; rintro e W2 ⟨rfl, hb2⟩; have b2 := b1.below b1.lt hb2; have hbw2 := hbw1.trans (hb2.mono hbw1.size)))
        | (refine wpList_store_mid rfl 67 _ _ rfl _ 0 L rfl rfl ((Blk.new _ _ _).there _ (by first | exact HL.out.1.symm | (rw [HL.out.1]; rfl))) (by rw [HL.out.1]; exact infoHdr) HL.out.2 ?_))
      go_meet
      have hl : Below W2.heap.size W2 ((W2.alloc (.cells Z16 67)).setCells W2.heap.size 0 L.toList) := setCells_below (Nat.le_refl _) _ _ _ _ ((Below.refl _ _).alloc (Nat.le_refl _) _)
      exact ⟨_, rfl, (Blk.new W2 Z16 67).setAll (L := L) HL.out.1, b2.below b2.lt hl, hbw2.trans (hl.mono hbw2.size)⟩
    case rest =>
    clear HD b1 hbw1
    obtain ⟨g, rfl, bh, b3, hbw3⟩ := hcut
    generalize wc = W3 at *
    clear W1
    go_upto_region 5 with fail
    have HI : Hid (Calls _ _ _ _ _) := imageLen_any cs c X.c W3
    have HIL : Hid (Chk.imageLen c ≤ 2097152) := Hx.len
    have HC : Hid (16 + T.length + P.length + Q.length + R.length ≤ 2097152) := by
      have h := Hx.len
      unfold Chk.imageLen at h
      rw [← X.lt, ← X.lp, ← X.lq, ← X.lr] at h
      exact h
    clear Hx
    generalize Chk.imageLen c = il at *
    have hil := HIL.out
    go_cut [8] (fun v wx => ∃ W4, Tx wx W4.heap.size v [] ∧ Below W4.heap.size W4 wx ∧ W4.heap.size ≤ wx.heap.size ∧ Below W3.heap.size W3 W4)
    case first =>
      obtain ⟨i0, hi, hz0, hz1, hz2⟩ := info_parts Tryd.infoU8
      go_wp2_with (refine wpList_load_mid rfl 25 _ rfl w.heap.size 0 rfl cs.toList _ b3.range Tryd.underlying25 rfl (by rw [Array.length_toList, HS.out]; exact Tryd.infoCart) ?_; rw [Array.toArray_toList])
      refine HI.out.mono ?_
      rintro e W4 ⟨rfl, hb4⟩
      go_wp2_with (at_make; refine wpList_make_own _ rfl _ _ 22 rfl W4.heap.size 5 i0 (.int .u8 0) 1 Tryd.underlying22 hi hz0 hz1 .i64 .i64 _ il rfl rfl rfl (by rw [hz2]; omega) (by unfold maxLen; omega) (Nat.le_refl _) ?_; intro W5 hown hgrow)
      go_meet
      have h5 := (Below.refl W4.heap.size W4).grown hgrow (Nat.le_refl _) (by simp)
      exact ⟨W4, hown, h5, h5.size, hb4⟩
    case rest =>
    obtain ⟨W4, tx, hb45, hs45, hb34⟩ := hcut
    generalize wc = W5 at *
    have hb35 : Below W3.heap.size W3 W5 := hb34.trans (hb45.mono hb34.size)
    have lw : ∀ {W : World}, Below W4.heap.size W4 W → Below W3.heap.size W3 W := fun h => hb34.trans (h.mono hb34.size)
    have LW : Hid (∀ W : World, Below W4.heap.size W4 W → Below W3.heap.size W3 W) := fun W h => lw h
    have XW : Hid (∀ W : World, Below W4.heap.size W4 W → Cl W cs c T P Q R) := fun W h => X.below (hbw3.trans ((lw h).mono hbw3.size))
    have BW : Hid (∀ W : World, Below W4.heap.size W4 W → Blk W w.heap.size cs 25) := fun W h => b3.below b3.lt (lw h)
    have FW : Hid (∀ W : World, Below W4.heap.size W4 W → Below w.heap.size w W) := fun W h => hbw3.trans ((lw h).mono hbw3.size)
    have RH : Hid (Row W5 (some ⟨g, 0, none⟩) (hdL c x)) := (bh.below bh.lt hb35).rowB
    have LH : Hid ((hdL c x).length = 16) := hdL_len c x
    clear lw HI hil HL
    go_upto_region 6 with fail
    go_cut [8] (fun v wx => Tx wx W4.heap.size v (hdL c x) ∧ Below W4.heap.size W4 wx ∧ W4.heap.size ≤ wx.heap.size)
    case first =>
      go_wp2_with (at_builtin; refine wpList_appR rfl _ _ rfl tx hb45 hs45 rfl rfl LH.out RH.out (by rw [LH.out]; decide) ?_; intro v' W6 t6 hb6 hs6)
      go_meet
      exact ⟨by rwa [List.nil_append] at t6, hb6, hs6⟩
    case rest =>
    clear tx hb45 hs45 RH hb35 bh
    obtain ⟨tx, hb45, hs45⟩ := hcut
    generalize wc = W5 at *
    go_upto_region 7 with fail
    obtain ⟨aa, ka, ea, ra⟩ := (XW.out _ hb45).rt
    have dd := ((BW.out _ hb45).cell 15).trans ea
    have LT : Hid (T.length = c.nt) := X.lt
    have RT : Hid (Row W5 aa T) := ra
    have LN : Hid ((hdL c x).length + T.length ≤ 140737488355328) := by
      have h := HC.out
      have h2 := LH.out
      unfold Hid
      try simp only [List.length_append]
      omega
    clear ea ra
    go_cut [8] (fun v wx => Tx wx W4.heap.size v (hdL c x ++ T) ∧ Below W4.heap.size W4 wx ∧ W4.heap.size ≤ wx.heap.size)
    case first =>
      go_wp2_with (at_builtin; refine wpList_appR rfl _ _ rfl tx hb45 hs45 rfl rfl LT.out RT.out LN.out ?_; intro v' W6 t6 hb6 hs6)
      go_meet
      exact ⟨t6, hb6, hs6⟩
    case rest =>
    clear tx hb45 hs45 dd LT RT LN
    obtain ⟨tx, hb45, hs45⟩ := hcut
    generalize wc = V1 at *
    go_upto_region 8 with fail
    obtain ⟨aa, ka, ea, ra⟩ := (XW.out _ hb45).rp
    have dd := ((BW.out _ hb45).cell 16).trans ea
    have LT : Hid (P.length = c.np) := X.lp
    have RT : Hid (Row V1 aa P) := ra
    have LN : Hid ((hdL c x ++ T).length + P.length ≤ 140737488355328) := by
      have h := HC.out
      have h2 := LH.out
      unfold Hid
      try simp only [List.length_append]
      omega
    clear ea ra
    go_cut [8] (fun v wx => Tx wx W4.heap.size v (hdL c x ++ T ++ P) ∧ Below W4.heap.size W4 wx ∧ W4.heap.size ≤ wx.heap.size)
    case first =>
      go_wp2_with (at_builtin; refine wpList_appR rfl _ _ rfl tx hb45 hs45 rfl rfl LT.out RT.out LN.out ?_; intro v' W6 t6 hb6 hs6)
      go_meet
      exact ⟨t6, hb6, hs6⟩
    case rest =>
    clear tx hb45 hs45 dd LT RT LN
    obtain ⟨tx, hb45, hs45⟩ := hcut
    generalize wc = V2 at *
    go_upto_region 9 with fail
    obtain ⟨aa, ka, ea, ra⟩ := (XW.out _ hb45).rq
    have dd := ((BW.out _ hb45).cell 17).trans ea
    have LT : Hid (Q.length = c.nq) := X.lq
    have RT : Hid (Row V2 aa Q) := ra
    have LN : Hid ((hdL c x ++ T ++ P).length + Q.length ≤ 140737488355328) := by
      have h := HC.out
      have h2 := LH.out
      unfold Hid
      try simp only [List.length_append]
      omega
    clear ea ra
    go_cut [8] (fun v wx => Tx wx W4.heap.size v (hdL c x ++ T ++ P ++ Q) ∧ Below W4.heap.size W4 wx ∧ W4.heap.size ≤ wx.heap.size)
    case first =>
      go_wp2_with (at_builtin; refine wpList_appR rfl _ _ rfl tx hb45 hs45 rfl rfl LT.out RT.out LN.out ?_; intro v' W6 t6 hb6 hs6)
      go_meet
      exact ⟨t6, hb6, hs6⟩
    case rest =>
    clear tx hb45 hs45 dd LT RT LN
    obtain ⟨tx, hb45, hs45⟩ := hcut
    generalize wc = V3 at *
    go_upto_region 10 with fail
    obtain ⟨aa, ka, ea, ra⟩ := (XW.out _ hb45).rr
    have dd := ((BW.out _ hb45).cell 18).trans ea
    have LT : Hid (R.length = c.nr) := X.lr
    have RT : Hid (Row V3 aa R) := ra
    have LN : Hid ((hdL c x ++ T ++ P ++ Q).length + R.length ≤ 140737488355328) := by
      have h := HC.out
      have h2 := LH.out
      unfold Hid
      try simp only [List.length_append]
      omega
    clear ea ra
    go_cut [8] (fun v wx => Tx wx W4.heap.size v (hdL c x ++ T ++ P ++ Q ++ R) ∧ Below W4.heap.size W4 wx ∧ W4.heap.size ≤ wx.heap.size)
    case first =>
      go_wp2_with (at_builtin; refine wpList_appR rfl _ _ rfl tx hb45 hs45 rfl rfl LT.out RT.out LN.out ?_; intro v' W6 t6 hb6 hs6)
      go_meet
      exact ⟨t6, hb6, hs6⟩
    case rest =>
    clear tx hb45 hs45 dd LT RT LN
    obtain ⟨tx, hb45, hs45⟩ := hcut
    generalize wc = V4 at *
    go_wp2
    go_ret3
    exact PrOk.good H0.out tx (FW.out _ hb45)
  · have u : (ckE c != 0) = true := by simp [h0]
    have H0 : Hid (ckE c ≠ 0) := h0
    clear h0 hx
    go_wp2
    go_ret3
    exact PrOk.bad H0.out hbw1
end Go.Proofs.YtpdbndkckioamaaDoor
