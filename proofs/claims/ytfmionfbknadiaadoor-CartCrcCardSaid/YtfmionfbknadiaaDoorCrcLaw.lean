/-
  The law CartCrc returns true, whatever its two lists, its place and its byte; condition: the table of sixteen words lies in its variable.
-/
import Derived.Test.YtfmionfbknadiaaDoorFeed
import Derived.Deep.DeepCutAuto
import Derived.BigRegion
namespace Go.Proofs.YtfmionfbknadiaaDoor
open Go.RowKit
theorem crc_known : crc CrcM.known = 3421780262 := CrcM.known_sum
theorem crc_nil : crc [] = 0 := by decide
theorem crc_zero : crc [0] = 3523407757 := CrcM.zero_sum
theorem known_bytes : CrcM.Bytes CrcM.known := by unfold CrcM.Bytes CrcM.known; decide
theorem Tab.below {w w' : World} {B : Nat} (h : Tab w) (hB : 0 < B) (hb : Below B w w') : Tab w' := fun i hi => (hb.cell (p := ⟨0, i, none⟩) hB).trans (h i hi)

/-- The first k bytes of a XOR b. -/
def xors (A B : List Nat) (k : Nat) : List Nat := List.zipWith (· ^^^ ·) (A.take k) (B.take k)
theorem xors_len (A B : List Nat) (k : Nat) (ha : k ≤ A.length) (hb : k ≤ B.length) : (xors A B k).length = k := by simp [xors]; omega
theorem xor_step (A B : List Nat) (n k : Nat) (h : k < n) (ha : n ≤ A.length) (hb : n ≤ B.length) :
    (xors A B k ++ List.replicate (n - k) 0).set k (A.getD k 0 ^^^ B.getD k 0) = xors A B (k + 1) ++ List.replicate (n - (k + 1)) 0 := by
  have hl := xors_len A B k (by omega) (by omega)
  have hka : k < A.length := by omega
  have hkb : k < B.length := by omega
  have e : xors A B (k + 1) = xors A B k ++ [A.getD k 0 ^^^ B.getD k 0] := by
    unfold xors
    rw [List.take_succ_eq_append_getElem hka, List.take_succ_eq_append_getElem hkb, List.zipWith_append (by simp; omega)]
    simp [hka, hkb]
  rw [e, List.set_append_right _ _ (by omega), hl, Nat.sub_self, show n - k = n - (k + 1) + 1 by omega, List.replicate_succ, List.set_cons_zero, List.append_assoc]
  rfl
theorem xors_bytes {A B : List Nat} (hA : CrcM.Bytes A) (hB : CrcM.Bytes B) (k : Nat) : CrcM.Bytes (xors A B k) := by
  intro x hx
  unfold xors at hx
  obtain ⟨i, hi, rfl⟩ := List.mem_iff_getElem.1 hx
  rw [List.getElem_zipWith]
  exact Nat.xor_lt_two_pow (n := 8) (bytes_take hA k _ (List.getElem_mem _)) (bytes_take hB k _ (List.getElem_mem _))
theorem Hid.mk3 {a b c : Prop} (h1 : a) (h2 : b) (h3 : c) : Hid (a ∧ b ∧ c) := ⟨h1, h2, h3⟩
theorem Row.below0 {w w' : World} {a : Option Addr} {l : List Nat} (h : Row w a l) (hb : Below w.heap.size w w') : Row w' a l := h.below hb
theorem crc_n (n : Nat) (l : List Nat) (hn : l.length = n) (hl : CrcM.Bytes l) (hlen : n ≤ 140737488351232) (a : Option Addr) (cap : Nat) (w : World) (hrow : Row w a l) (tab : Tab w) :
    Calls Tryd.prog 6 #[.slice a n cap] w fun e w' => e = .returned (.int .u32 (crc l : Nat)) ∧ w' = w := by
  subst hn; exact crc_any l hl hlen a cap w hrow tab
theorem copied_n (n : Nat) (l : List Nat) (hn : l.length = n) (hl : CrcM.Bytes l) (hlen : n ≤ 140737488351232) (a : Option Addr) (cap : Nat) (w : World) (hrow : Row w a l) :
    Calls Tryd.prog 7 #[.slice a n cap] w fun e w' => ∃ g, e = .returned (.slice (some ⟨g, 0, none⟩) n n) ∧ w.heap.size ≤ g ∧ Own w' g l ∧ Below w.heap.size w w' := by
  subst hn; exact copied_any l hl hlen a cap w hrow
theorem Hid.mk2 {a b : Prop} (h1 : a) (h2 : b) : Hid (a ∧ b) := ⟨h1, h2⟩
theorem zero_bytes {n : Nat} : CrcM.Bytes (List.replicate n 0) := fun x hx => by rw [List.eq_of_mem_replicate hx]; decide
theorem crc_lt {l : List Nat} (h : CrcM.Bytes l) : crc l < 4294967296 := Nat.xor_lt_two_pow (n := 32) (CrcM.feed_lt l h _ (by decide)) (by decide)
theorem xor6 (p q o u : Nat) : (p ^^^ u) ^^^ (q ^^^ u) ^^^ (o ^^^ u) = p ^^^ q ^^^ o ^^^ u := by
  apply Nat.eq_of_testBit_eq
  intro i
  simp only [Nat.testBit_xor]
  cases p.testBit i <;> cases q.testBit i <;> cases o.testBit i <;> cases u.testBit i <;> rfl
theorem crc_xor (A B : List Nat) (n : Nat) (hna : n ≤ A.length) (hnb : n ≤ B.length) : crc (A.take n) ^^^ crc (B.take n) ^^^ crc (List.replicate n 0) = crc (xors A B n) := by
  have h := CrcM.feed_lin (A.take n) (B.take n) 4294967295 4294967295 4294967295 (by simp; omega)
  rw [show (A.take n).length = n by simp; omega] at h
  rw [show (4294967295 : Nat) ^^^ 4294967295 ^^^ 4294967295 = 4294967295 by decide] at h
  unfold crc xors
  rw [h]
  generalize CrcM.feed 4294967295 (A.take n) = p
  generalize CrcM.feed 4294967295 (B.take n) = q
  generalize CrcM.feed 4294967295 (List.replicate n 0) = o
  exact xor6 p q o 4294967295
theorem sums_walk (A B : List Nat) (n : Nat) (hA : CrcM.Bytes A) (hB : CrcM.Bytes B) (hna : n ≤ A.length) (hnb : n ≤ B.length) :
    bits .xor .u32 (crc (A.take n) : Nat) (crc (B.take n) : Nat) = (crc (A.take n) ^^^ crc (B.take n) : Nat) ∧
    bits .xor .u32 (crc (A.take n) ^^^ crc (B.take n) : Nat) (crc (List.replicate n 0) : Nat) = (crc (xors A B n) : Nat) := by
  have h1 := crc_lt (bytes_take hA n)
  have h2 := crc_lt (bytes_take hB n)
  have h3 := crc_lt (zero_bytes (n := n))
  refine ⟨u32_xor_nat _ _ h1 h2, ?_⟩
  rw [← crc_xor A B n hna hnb]
  exact u32_xor_nat _ _ (Nat.xor_lt_two_pow (n := 32) h1 h2) h3
theorem crc_turn (X : List Nat) (hX : CrcM.Bytes X) (m turn : Nat) (hm : m < X.length) (ht : turn < 256) (h0 : turn ≠ 0) : crc (X.set m (X.getD m 0 ^^^ turn)) ≠ crc X := by
  intro h
  have h := CrcM.xor_inj_left h
  have hy := bytes_at hX m
  have e2 : X = X.take m ++ X.getD m 0 :: X.drop (m + 1) := by
    have := List.take_append_drop m X
    rw [List.drop_eq_getElem_cons hm] at this
    rw [show X.getD m 0 = X[m] by simp [hm]]
    exact this.symm
  rw [List.set_eq_take_append_cons_drop, if_pos hm] at h
  have e3 : CrcM.feed 4294967295 X = CrcM.feed 4294967295 (X.take m ++ X.getD m 0 :: X.drop (m + 1)) := by rw [← e2]
  rw [e3] at h
  refine CrcM.feed_turn (X.take m) (X.drop (m + 1)) _ _ (bytes_take hX m) (fun x hx => hX x (List.mem_of_mem_drop hx)) (Nat.xor_lt_two_pow (n := 8) hy ht) hy ?_ 4294967295 (by decide) h
  intro e
  apply h0
  have : X.getD m 0 ^^^ turn = X.getD m 0 ^^^ 0 := by rw [e, Nat.xor_zero]
  rw [Nat.xor_comm _ turn, Nat.xor_comm _ 0] at this
  exact CrcM.xor_inj_left this
abbrev K9 : Array Value := #[.int .u8 49, .int .u8 50, .int .u8 51, .int .u8 52, .int .u8 53, .int .u8 54, .int .u8 55, .int .u8 56, .int .u8 57]
set_option maxRecDepth 100000 in
set_option maxHeartbeats 1000000 in
theorem law (A B : List Nat) (hA : CrcM.Bytes A) (hB : CrcM.Bytes B) (hla : A.length ≤ 140737488351232) (hlb : B.length ≤ 140737488351232) (a b : Option Addr) (capa capb : Nat) (at' : Int) (turn : Nat) (w : World)
    (ra : Row w a A) (rb : Row w b B) 
    (hca : A.length ≤ capa) (hcb : B.length ≤ capb) (h1 : -9223372036854775808 ≤ at') (h2 : at' ≤ 9223372036854775807) (ht : turn < 256) (tab : Tab w) (hpos : 0 < w.heap.size) :
    Calls Tryd.prog 3 #[.slice a A.length capa, .slice b B.length capb, .int .i64 at', .int .u8 turn] w fun e w' => e = .returned (.bool true) ∧ Below w.heap.size w w' := by
  go_enter Tryd.func3, Tryd.ntmps3
  go_wp2_with fail
  have hb1 : Below w.heap.size w (w.alloc (.cells K9 5)) := (Below.refl _ _).alloc (Nat.le_refl _) _
  have ho1 : Own (w.alloc (.cells K9 5)) w.heap.size CrcM.known := heap_alloc_new w _
  have r1 := ho1.row
  have t1 := tab.below hpos hb1
  clear ho1
  generalize w.alloc (.cells K9 5) = w1 at *
  refine (crc_any CrcM.known known_bytes (by decide) (some ⟨w.heap.size, 0, none⟩) 9 w1 r1 t1).mono ?_
  rintro e w1 ⟨rfl, rfl⟩
  rw [crc_known]
  clear r1
  go_wp2_with fail
  refine (crc_any [] (by intro x hx; cases hx) (by decide) none 0 w1 (.inl rfl) t1).mono ?_
  rintro e w1 ⟨rfl, rfl⟩
  rw [crc_nil]
  go_wp2_with fail
  have hz1 := hb1.size
  have hb2 : Below w.heap.size w (w1.alloc (.cells #[.int .u8 0] 5)) := hb1.alloc hz1 _
  have ho2 : Own (w1.alloc (.cells #[.int .u8 0] 5)) w1.heap.size [0] := heap_alloc_new w1 _
  have r2 := ho2.row
  have t2 := tab.below hpos hb2
  clear ho2 hb1 t1
  generalize w1.alloc (.cells #[.int .u8 0] 5) = w2 at *
  refine (crc_any [0] (by unfold CrcM.Bytes; decide) (by decide) (some ⟨w1.heap.size, 0, none⟩) 1 w2 r2 t2).mono ?_
  rintro e w2 ⟨rfl, rfl⟩
  rw [crc_zero]
  clear r2
  generalize w1.heap.size = z1 at *
  go_upto_if 42 with fail
  obtain ⟨n, hna, hnb, hmin⟩ : ∃ n : Nat, n ≤ A.length ∧ n ≤ B.length ∧ Hid ((B.length < A.length → n = B.length) ∧ (¬ B.length < A.length → n = A.length)) :=
    ⟨min A.length B.length, by omega, by omega, ⟨fun _ => by omega, fun _ => by omega⟩⟩
  go_cut [13] (fun v wx => v = .int .i64 n ∧ wx = w2)
  case first =>
    by_cases hab : B.length < A.length
    · have H : Hid ((B.length : Int) = n) := by have := hmin.out.1 hab; unfold Hid; omega
      go_wp2
      go_meet
      case rel => exact ⟨congrArg (Value.int .i64) H.out, rfl⟩
    · have H : Hid ((A.length : Int) = n) := by have := hmin.out.2 hab; unfold Hid; omega
      go_wp2
      go_meet
      case rel => exact ⟨congrArg (Value.int .i64) H.out, rfl⟩
  case rest =>
    obtain ⟨rfl, rfl⟩ := hcut
    obtain ⟨i0, hi, hz0, hz1', hz2⟩ := info_parts Tryd.info5
    have hzw := hb2.size
    go_wp2_with (at_make; refine wpList_make_full _ rfl _ _ 22 rfl w.heap.size 5 i0 (.int .u8 0) 1 Tryd.underlying22 hi hz0 hz1' .i64 .i64 _ _ n rfl rfl rfl rfl (by rw [hz2]; omega) (by unfold maxLen; omega) hzw ?_; intro w3 hown hgrow)
    have ho := Own.of_row (List.replicate n 0) (vals_zero _) hown
    have hb3 := hb2.grown hgrow hzw (by simp)
    have hb23 := (Below.refl wc.heap.size wc).grown hgrow (Nat.le_refl _) (by simp)
    clear hown hgrow hi hz0 hz1' hz2
    generalize hx : wc.heap.size = x0 at *
    clear hx
    go_loopw [15] (fun i wr => ∃ k : Nat, k ≤ n ∧ i = .int .i64 k ∧ Own wr x0 (xors A B k ++ List.replicate (n - k) 0) ∧ Below w.heap.size w wr) (fun i _ => n - (intOf i).toNat)
    case atStart => exact ⟨0, Nat.zero_le _, rfl, by simpa [xors] using ho, hb3⟩
    case round =>
      obtain ⟨k, hk, rfl, hor, hbr⟩ := hrel
      by_cases hkn : k < n
      · rcases ra with rfl | ⟨ab, aoff, rfl, ca⟩
        · simp at hna; omega
        rcases rb with rfl | ⟨bb, boff, rfl, cb⟩
        · simp at hnb; omega
        have cak : wr.cell? ⟨ab, aoff + k, none⟩ = some (.int .u8 (A.getD k 0 : Nat)) := (hbr.cell (p := ⟨ab, aoff + k, none⟩) (cell_lt (ca k (by omega)))).trans (ca k (by omega))
        have cbk : wr.cell? ⟨bb, boff + k, none⟩ = some (.int .u8 (B.getD k 0 : Nat)) := (hbr.cell (p := ⟨bb, boff + k, none⟩) (cell_lt (cb k (by omega)))).trans (cb k (by omega))
        have hxl : (xors A B k ++ List.replicate (n - k) 0).length = n := by rw [List.length_append, xors_len A B k (by omega) (by omega)]; simp; omega
        have hfr := hor.free k
        have hold := hor.cell k (by omega)
        have hset := hor.set k (A.getD k 0 ^^^ B.getD k 0)
        have hbs := hbr.setCell (p := ⟨x0, k, none⟩) hzw (.int .u8 (A.getD k 0 ^^^ B.getD k 0 : Nat))
        rw [xor_step A B n k hkn hna hnb] at hset
        have ex := u8_xor_nat (A.getD k 0) (B.getD k 0) (bytes_at hA k) (bytes_at hB k)
        have hya := bytes_at hA k
        have hyb := bytes_at hB k
        clear ca cb hor hbr ho hb3 hb23 hxl
        generalize A.getD k 0 ^^^ B.getD k 0 = z at *
        generalize A.getD k 0 = y1 at *
        generalize B.getD k 0 = y2 at *
        have hka : k < A.length := by omega
        have hkb : k < B.length := by omega
        go_wp2
        go_region
        all_goals go_wp2
        all_goals
          go_roundw
          case rel => exact ⟨k + 1, by omega, by go_num, hset, hbs.drew⟩
          case measure => simp [intOf]; omega
      · have e : xors A B k ++ List.replicate (n - k) 0 = xors A B n := by
          rw [show k = n by omega]; simp
        rw [e] at hor
        have hkn' : ¬ (k : Int) < n := by omega
        clear hb3 hb23 ho e hkn hk
        have ta : (A.take n).length = n := by simp; omega
        have tb : (B.take n).length = n := by simp; omega
        have hxn := xors_len A B n hna hnb
        have hnc : n ≤ capa := by omega
        have hnd : n ≤ capb := by omega
        have Ht := Hid.mk3 ta tb hxn
        clear ta tb hxn
        go_wp2_with fail
        refine (copied_n n (A.take n) Ht.out.1 (bytes_take hA n) (by omega) a capa wr ((ra.below0 hbr).take n)).mono ?_
        rintro e wA ⟨gA, rfl, hgA, oA, bA⟩
        have hbA : Below w.heap.size w wA := hbr.trans (bA.mono hbr.size)
        have oXA := hor.below hor.lt bA
        go_wp2_with fail
        refine (crc_n n (A.take n) Ht.out.1 (bytes_take hA n) (by omega) (some ⟨gA, 0, none⟩) n wA oA.row (tab.below hpos hbA)).mono ?_
        rintro e wA ⟨rfl, rfl⟩
        clear oA bA hor hbr
        go_wp2_with fail
        refine (copied_n n (B.take n) Ht.out.2.1 (bytes_take hB n) (by omega) b capb wA ((rb.below0 hbA).take n)).mono ?_
        rintro e wB ⟨gB, rfl, hgB, oB, bB⟩
        have hbB : Below w.heap.size w wB := hbA.trans (bB.mono hbA.size)
        have oXB := oXA.below oXA.lt bB
        go_wp2_with fail
        refine (crc_n n (B.take n) Ht.out.2.1 (bytes_take hB n) (by omega) (some ⟨gB, 0, none⟩) n wB oB.row (tab.below hpos hbB)).mono ?_
        rintro e wB ⟨rfl, rfl⟩
        clear oB bB oXA hbA
        go_wp2_with fail
        refine (crc_n n (xors A B n) Ht.out.2.2 (xors_bytes hA hB n) (by omega) (some ⟨x0, 0, none⟩) n wB oXB.row (tab.below hpos hbB)).mono ?_
        rintro e wB ⟨rfl, rfl⟩
        obtain ⟨i0, hi, hz0, hz1', hz2⟩ := info_parts Tryd.info5
        have hzB := hbB.size
        go_wp2_with (at_make; refine wpList_make_full _ rfl _ _ 22 rfl w.heap.size 5 i0 (.int .u8 0) 1 Tryd.underlying22 hi hz0 hz1' .i64 .i64 _ _ n rfl rfl rfl rfl (by rw [hz2]; omega) (by unfold maxLen; omega) hzB ?_; intro w4 hown hgrow)
        have oZ := Own.of_row (List.replicate n 0) (vals_zero _) hown
        have hb4 := hbB.grown hgrow hzB (by simp)
        have hbz := (Below.refl wB.heap.size wB).grown hgrow (Nat.le_refl _) (by simp)
        have oX4 := oXB.below oXB.lt hbz
        clear hown hgrow hi hz0 hz1' hz2
        refine (crc_n n (List.replicate n 0) (by simp) zero_bytes (by omega) (some ⟨wB.heap.size, 0, none⟩) n w4 oZ.row (tab.below hpos hb4)).mono ?_
        rintro e w4 ⟨rfl, rfl⟩
        clear oZ oXB hbB
        have hbX := xors_bytes hA hB n
        obtain ⟨e1, e2⟩ := sums_walk A B n hA hB hna hnb
        have Hturn := Hid.mk2 (fun (m : Nat) (hm : m < n) (h0 : turn ≠ 0) => crc_turn (xors A B n) hbX m turn (by have := Ht.out.2.2; omega) ht h0) (fun m : Nat => bytes_at hbX m)
        have Hb := Hid.mk2 hbX (tab.below hpos hb4)
        have Hlen := Hid.mk2 Ht.out.2.2 (tab.below hpos hb4)
        have Hcl := Hid.mk2 (fun m (hm : m < n) => oX4.cell m (by have := Ht.out.2.2; omega)) (fun m => oX4.free m)
        clear ra rb tab hbX
        generalize wB.heap.size = z4 at *
        generalize crc (A.take n) ^^^ crc (B.take n) = PQ at *
        generalize crc (A.take n) = P at *
        generalize crc (B.take n) = Q at *
        generalize crc (List.replicate n 0) = O at *
        by_cases hn0 : n = 0
        · have hn0' : ((n : Int) == 0) = true := by simp [hn0]
          go_wp2
          go_ret
          exact ⟨rfl, hb4⟩
        · have hn0' : ((n : Int) == 0) = false := by simp [hn0]
          by_cases ht0 : turn = 0
          · have ht0' : ((turn : Int) == 0) = true := by simp [ht0]
            go_wp2
            go_ret
            exact ⟨rfl, hb4⟩
          · have ht0' : ((turn : Int) == 0) = false := by simp [ht0]
            go_wp2_with fail
            have hsp := spanV_bd at' 0 ((n : Int) - 1) (by omega)
            refine (span_any at' 0 ((n : Int) - 1) w4 h1 h2 (by omega) (by omega) (by omega)).mono ?_
            rintro e w4 ⟨rfl, rfl⟩
            generalize spanV at' 0 ((n : Int) - 1) = sp at *
            obtain ⟨m, rfl⟩ := Int.eq_ofNat_of_zero_le hsp.1
            have hmn : m < n := by omega
            have Hne := Hid.mk2 (Hturn.out.1 m hmn ht0) (oX4.set m ((xors A B n).getD m 0 ^^^ turn))
            have hcm := Hcl.out.1 m hmn
            have hfm := Hcl.out.2 m
            have hy := Hturn.out.2 m
            have ex := u8_xor_nat ((xors A B n).getD m 0) turn hy ht
            have hby : CrcM.Bytes ((xors A B n).set m ((xors A B n).getD m 0 ^^^ turn)) := by
              intro x hx
              rcases List.mem_or_eq_of_mem_set hx with hx | rfl
              · exact Hb.out.1 x hx
              · exact Nat.xor_lt_two_pow (n := 8) hy ht
            have hb5 := hb4.setCell (p := ⟨x0, m, none⟩) hzw (.int .u8 ((xors A B n).getD m 0 ^^^ turn : Nat))
            have HX := Hid.mk2 hby (show ((xors A B n).set m ((xors A B n).getD m 0 ^^^ turn)).length = n by rw [List.length_set]; exact Ht.out.2.2)
            have HT5 := Hid.mk2 ((Hb.out.2).below (B := x0) (by omega) ((Below.refl _ _).setCell (p := ⟨x0, m, none⟩) (Nat.le_refl _) (.int .u8 ((xors A B n).getD m 0 ^^^ turn : Nat)))) trivial
            clear hby hsp oX4 hb4 hb2 t2 hbz Hcl
            generalize (xors A B n).set m ((xors A B n).getD m 0 ^^^ turn) = X' at *
            generalize (xors A B n).getD m 0 ^^^ turn = y' at *
            generalize (xors A B n).getD m 0 = y at *
            go_wp2_with fail
            refine (crc_n n X' HX.out.2 HX.out.1 (by omega) (some ⟨x0, 0, none⟩) n _ (by exact Hne.out.2.row) (by exact HT5.out.1)).mono ?_
            rintro e w5 ⟨rfl, rfl⟩
            have hne : (((crc X' : Nat) : Int) != ((crc (xors A B n) : Nat) : Int)) = true := by
              have := Hne.out.1
              rw [bne_iff_ne]
              omega
            go_wp2
            go_ret
            exact ⟨rfl, hb5⟩
end Go.Proofs.YtfmionfbknadiaaDoor
