/-
  What the document's within, power, ram, memory, units, odd answer.
  What the document's top and numbers answer.
  What the document's memories answers.
  What the document's memories answers in the two older formats.
  What the document's rest and lists answer.
  What the document's numbers answers.
  What the document's Check answers: what the program's answers.
-/
import Derived.Test.YtpdbndkckioamaaDoorChkA
import Derived.Test.YtpdbndkckioamaaDoorChkD
import Derived.BigQuiet
import Derived.Deep.QuietTactic
set_option linter.unusedSimpArgs false
set_option linter.unusedVariables false
namespace Go.Proofs.YtpdbndkckioamaaDoor
open Go.RowKit
theorem rwithin_any (n lo hi : Int) (w : World) :
    Calls Tryd.prog 76 #[.int .i64 n, .int .i64 lo, .int .i64 hi] w fun e w' => e = .returned (.bool (decide (lo ≤ n) && decide (n ≤ hi))) ∧ w' = w := by
  by_cases h1 : lo ≤ n
  · have H : Hid (decide (lo ≤ n) = true) := decide_eq_true h1
    go_enter Tryd.func76, Tryd.ntmps76
    go_wp2
    go_ret
    exact ⟨retBo (by rw [H.out]; rfl), rfl⟩
  · have H : Hid (decide (lo ≤ n) = false) := decide_eq_false h1
    go_enter Tryd.func76, Tryd.ntmps76
    go_wp2
    go_ret
    exact ⟨retBo (by rw [H.out]; rfl), rfl⟩
theorem retN {a b : Int} (h : a = b) : Ending.returned (.int .i64 a) = .returned (.int .i64 b) := by rw [h]
theorem power_any (k : Nat) (hk : k ≤ 15) (w : World) :
    Calls Tryd.prog 82 #[.int .i64 (k : Nat), .int .i64 64, .int .i64 1073741824] w fun e w' => e = .returned (.int .i64 ((64 * 2 ^ k : Nat) : Int)) ∧ w' = w := by
  have hb : ∀ i : Nat, i ≤ 15 → 64 * 2 ^ i ≤ 2097152 := by decide
  have HB : Hid _ := hb
  clear hb
  go_enter Tryd.func82, Tryd.ntmps82
  go_upto_region 3 with fail
  go_loop [7, 8] (fun n x => ∃ i : Nat, i ≤ k ∧ x = .int .i64 i ∧ n = .int .i64 ((64 * 2 ^ i : Nat) : Int)) (fun _ x => k - (intOf x).toNat)
  case atStart => exact ⟨0, by omega, rfl, rfl⟩
  case round =>
    obtain ⟨i, hi, rfl, rfl⟩ := hrel
    have h0 := HB.out i (by omega)
    by_cases hik : i < k
    · have h1 := HB.out (i + 1) (by omega)
      have HP : Hid (64 * 2 ^ (i + 1) = 64 * 2 ^ i * 2) := by unfold Hid; rw [Nat.pow_succ, Nat.mul_assoc]
      rw [HP.out] at h1
      generalize 64 * 2 ^ i = p at *
      go_wp2
      go_round
      case rel => exact ⟨i + 1, by omega, by go_num, by rw [HP.out]; go_num⟩
      case measure => simp [intOf]; omega
    · obtain rfl : i = k := by omega
      go_wp2
      go_ret
      exact ⟨rfl, rfl⟩
theorem rram_any (k : Nat) (hk : k ≤ 15) (w : World) :
    Calls Tryd.prog 67 #[.int .i64 (k : Nat)] w fun e w' => e = .returned (.int .i64 (ramV k : Nat)) ∧ w' = w := by
  have PC : Hid (Calls _ _ _ _ _) := power_any k hk w
  by_cases h0 : k = 0
  · have H : Hid (ramV k = 0) := by unfold Hid ramV; rw [if_pos h0]
    subst h0
    go_enter Tryd.func67, Tryd.ntmps67
    go_wp2
    go_ret
    exact ⟨by rw [H.out]; rfl, rfl⟩
  · have H : Hid (ramV k = 64 * 2 ^ k) := by unfold Hid ramV; rw [if_neg h0]
    have h0' : ((k : Int) == 0) = false := by rw [beq_eq_false_iff_ne]; omega
    go_enter Tryd.func67, Tryd.ntmps67
    go_wp2_with (go_at_call 82; go_must (refine PC.out.mono ?_; rintro e w1 ⟨rfl, hw1⟩; obtain rfl := hw1.symm))
    go_ret
    exact ⟨by rw [H.out]; rfl, rfl⟩
theorem memory_any (n : Int) (w : World) :
    Calls Tryd.prog 77 #[.int .i64 n] w fun e w' => e = .returned (.bool (Chk.ramOk n)) ∧ w' = w := by
  have RC : Hid (∀ k : Nat, k ≤ 15 → Calls _ _ _ _ _) := fun k hk => rram_any k hk w
  have HI : Hid _ := ramOk_iff n
  go_enter Tryd.func77, Tryd.ntmps77
  go_upto_region 2 with fail
  go_loop [3] (fun x => ∃ i : Nat, i ≤ 16 ∧ x = .int .i64 i ∧ Hid (∀ j : Nat, j < i → n ≠ (ramV j : Nat))) (fun x => 16 - (intOf x).toNat)
  case atStart => exact ⟨0, by omega, rfl, fun j hj => absurd hj (Nat.not_lt_zero _)⟩
  case round =>
    obtain ⟨i, hi, rfl, hA⟩ := hrel
    by_cases h16 : i ≤ 15
    · have rc := RC.out i h16
      have HR : Hid (Calls _ _ _ _ _) := rc
      clear rc
      by_cases he : (ramV i : Int) = n
      · have HT : Hid (Chk.ramOk n = true) := HI.out.2 ⟨i, by omega, he.symm⟩
        have he' : ((ramV i : Int) == n) = true := by rw [beq_iff_eq]; exact he
        generalize ramV i = r at *
        clear he
        go_wp2_with (go_at_call 67; go_must (refine HR.out.mono ?_; rintro e w1 ⟨rfl, hw1⟩; obtain rfl := hw1.symm))
        go_ret
        exact ⟨by rw [HT.out]; rfl, rfl⟩
      · have HE : Hid (n ≠ (ramV i : Nat)) := fun h => he h.symm
        have he' : ((ramV i : Int) == n) = false := by rw [beq_eq_false_iff_ne]; exact he
        generalize ramV i = r at HR he'
        clear he
        go_wp2_with (go_at_call 67; go_must (refine HR.out.mono ?_; rintro e w1 ⟨rfl, hw1⟩; obtain rfl := hw1.symm))
        go_round
        case rel => exact ⟨i + 1, by omega, by go_num, fun j hj => (Nat.lt_succ_iff_lt_or_eq.1 hj).elim (fun h => hA.out j h) (fun h => by rw [h]; exact HE.out)⟩
        case measure => simp [intOf]; omega
    · obtain rfl : i = 16 := by omega
      have HF : Hid (Chk.ramOk n = false) := by
        unfold Hid
        rw [Bool.eq_false_iff]
        intro h
        obtain ⟨k, hk, e⟩ := HI.out.1 h
        exact hA.out k hk e
      go_wp2
      go_ret
      exact ⟨by rw [HF.out]; rfl, rfl⟩
/-- The document's units. -/
def unOk (n unit lo hi : Int) : Bool := decide (0 ≤ n) && decide (n % unit = 0) && decide (lo ≤ n / unit) && decide (n / unit ≤ hi)
set_option maxRecDepth 100000 in
theorem units_any (n unit lo hi : Int) (hu : unit = 16384 ∨ unit = 8192) (h1 : -9223372036854775808 ≤ n) (h2 : n ≤ 9223372036854775807) (w : World) :
    Calls Tryd.prog 78 #[.int .i64 n, .int .i64 unit, .int .i64 lo, .int .i64 hi] w fun e w' => e = .returned (.bool (unOk n unit lo hi)) ∧ w' = w := by
  have HU : Hid (unOk n unit lo hi = (decide (0 ≤ n) && decide (n % unit = 0) && decide (lo ≤ n / unit) && decide (n / unit ≤ hi))) := rfl
  by_cases h0 : 0 ≤ n
  · rw [decide_eq_true h0] at HU
    have h0' : decide (0 ≤ n) = true := decide_eq_true h0
    rcases hu with rfl | rfl
    · by_cases hm : n % 16384 = 0
      · rw [decide_eq_true hm] at HU
        have hd0 : 0 ≤ n / 16384 := by omega
        have hd1 : n / 16384 ≤ 9223372036854775807 := by omega
        have HX : Hid ((n % 16384 == 0) = true) := by unfold Hid; rw [beq_iff_eq]; exact hm
        by_cases hl : lo ≤ n / 16384
        · rw [decide_eq_true hl] at HU
          have hl' : decide (lo ≤ n / 16384) = true := decide_eq_true hl
          go_enter Tryd.func78, Tryd.ntmps78
          go_wp2
          go_ret
          exact ⟨retBo (by rw [HU.out]; first | rfl | simp [HX.out]), rfl⟩
        · rw [decide_eq_false hl] at HU
          have hl' : decide (lo ≤ n / 16384) = false := decide_eq_false hl
          go_enter Tryd.func78, Tryd.ntmps78
          go_wp2
          go_ret
          exact ⟨retBo (by rw [HU.out]; first | rfl | simp [HX.out]), rfl⟩
      · rw [decide_eq_false hm] at HU
        have HX : Hid ((n % 16384 == 0) = false) := by unfold Hid; rw [beq_eq_false_iff_ne]; exact hm
        go_enter Tryd.func78, Tryd.ntmps78
        go_wp2
        go_ret
        exact ⟨retBo (by rw [HU.out]; first | rfl | simp [HX.out]), rfl⟩
    · by_cases hm : n % 8192 = 0
      · rw [decide_eq_true hm] at HU
        have hd0 : 0 ≤ n / 8192 := by omega
        have hd1 : n / 8192 ≤ 9223372036854775807 := by omega
        have HX : Hid ((n % 8192 == 0) = true) := by unfold Hid; rw [beq_iff_eq]; exact hm
        by_cases hl : lo ≤ n / 8192
        · rw [decide_eq_true hl] at HU
          have hl' : decide (lo ≤ n / 8192) = true := decide_eq_true hl
          go_enter Tryd.func78, Tryd.ntmps78
          go_wp2
          go_ret
          exact ⟨retBo (by rw [HU.out]; first | rfl | simp [HX.out]), rfl⟩
        · rw [decide_eq_false hl] at HU
          have hl' : decide (lo ≤ n / 8192) = false := decide_eq_false hl
          go_enter Tryd.func78, Tryd.ntmps78
          go_wp2
          go_ret
          exact ⟨retBo (by rw [HU.out]; first | rfl | simp [HX.out]), rfl⟩
      · rw [decide_eq_false hm] at HU
        have HX : Hid ((n % 8192 == 0) = false) := by unfold Hid; rw [beq_eq_false_iff_ne]; exact hm
        go_enter Tryd.func78, Tryd.ntmps78
        go_wp2
        go_ret
        exact ⟨retBo (by rw [HU.out]; first | rfl | simp [HX.out]), rfl⟩
  · rw [decide_eq_false h0] at HU
    clear hu
    go_enter Tryd.func78, Tryd.ntmps78
    go_wp2
    go_ret
    exact ⟨by rw [HU.out]; rfl, rfl⟩
theorem odd_eq (n : Nat) (hn : 0 < n) : ∀ f : Nat, n ≤ 2 ^ f → Chk.oddPart f n = if n % 2 = 0 then Chk.oddPart f (n / 2) else n := by
  intro f
  induction f generalizing n with
  | zero =>
    intro h
    have : n = 1 := by simp at h; omega
    subst this
    rfl
  | succ f ih =>
    intro h
    rw [Chk.oddPart]
    by_cases h2 : n % 2 = 0
    · rw [if_pos h2, if_pos h2]
      have h3 : n / 2 ≤ 2 ^ f := by rw [Nat.pow_succ] at h; omega
      rw [Chk.oddPart, ih (n / 2) (by omega) h3]
    · rw [if_neg h2, if_neg h2]
theorem rodd_any (n0 : Nat) (hn : n0 ≤ 9223372036854775807) (w : World) :
    Calls Tryd.prog 79 #[.int .i64 (n0 : Nat)] w fun e w' => e = .returned (.bool (decide (0 < n0) && decide (Chk.oddPart 64 n0 ≤ 7))) ∧ w' = w := by
  by_cases h0 : 0 < n0
  · have H : Hid (decide (0 < n0) = true) := decide_eq_true h0
    have h0' : ¬ (n0 : Int) < 1 := by omega
    go_enter Tryd.func79, Tryd.ntmps79
    go_upto_region 3 with fail
    go_loop [0] (fun x => ∃ n : Nat, 0 < n ∧ n ≤ n0 ∧ x = .int .i64 n ∧ Hid (Chk.oddPart 64 n0 = Chk.oddPart 64 n)) (fun x => (intOf x).toNat)
    case atStart => exact ⟨n0, h0, Nat.le_refl _, rfl, rfl⟩
    case round =>
      obtain ⟨n, hp, hle, rfl, hE⟩ := hrel
      have HO : Hid (Chk.oddPart 64 n = if n % 2 = 0 then Chk.oddPart 64 (n / 2) else n) := odd_eq n hp 64 (by omega)
      by_cases h2 : n % 2 = 0
      · have h2' : (n : Int) % 2 = 0 := by omega
        rw [if_pos h2] at HO
        clear h2
        go_wp2
        go_round
        case rel => exact ⟨n / 2, by omega, by omega, by go_num, hE.out.trans HO.out⟩
        case measure => simp [intOf]; omega
      · have h2' : ¬ (n : Int) % 2 = 0 := by omega
        rw [if_neg h2] at HO
        have HQ : Hid (decide ((n : Int) ≤ 7) = decide (n ≤ 7)) := by unfold Hid; rw [decide_eq_decide]; omega
        clear h2
        go_wp2
        go_ret
        exact ⟨retBo (by rw [hE.out, HO.out, HQ.out]), rfl⟩
  · have H : Hid (decide (0 < n0) = false) := decide_eq_false h0
    obtain rfl : n0 = 0 := by omega
    go_enter Tryd.func79, Tryd.ntmps79
    go_wp2
    go_ret
    exact ⟨by rw [H.out]; rfl, rfl⟩
end Go.Proofs.YtpdbndkckioamaaDoor
namespace Go.Proofs.YtpdbndkckioamaaDoor
open Go.RowKit
/-- The greatest values of the numbered fields. -/
def topL : List Int := [2, 2, 2, 15, 255, 4095, 0, 0, 15, 0, 0, 0, 0, 0, 0, 0, 0, 0, 0, 2, 3, 0, 0, 255, 0, 1, 3, 0, 0, 63, 0, 0, 3]
def topN (i f : Nat) : Int := topL.getD (i * 3 + f) 0
def topV : Array Value := (topL.map (Value.int .i64)).toArray
theorem topN_bd : ∀ i : Nat, i < 11 → ∀ f : Nat, f < 3 → 0 ≤ topN i f ∧ topN i f ≤ 4095 := by decide +kernel
set_option maxRecDepth 100000 in
theorem top_any (i f : Nat) (hi : i < 11) (hf : f < 3) (w : World) :
    Calls Tryd.prog 75 #[.int .i64 (i : Nat), .int .i64 (f : Nat)] w fun e w' => e = .returned (.int .i64 (topN i f)) ∧ Below w.heap.size w w' := by
  go_enter Tryd.func75, Tryd.ntmps75
  go_upto_region 1 with fail
  go_cut [5] (fun p wx => p = .pointer (some ⟨w.heap.size, 0, none⟩) ∧ wx.cell? ⟨w.heap.size, i * 3 + f, none⟩ = some (.int .i64 (topN i f)) ∧ Below w.heap.size w wx)
  case first =>
    have HC : Hid (∀ z : Array Value, z.size = 33 → ((w.alloc (.cells z 121)).setCells w.heap.size 0 topV.toList).cell? ⟨w.heap.size, i * 3 + f, none⟩ = some (.int .i64 (topN i f))) := by
      intro z hz
      rw [((Blk.new w z 121).setAll (L := topV) (by rw [hz]; rfl)).cell]
      have key : ∀ i : Nat, i < 11 → ∀ f : Nat, f < 3 → topL[i * 3 + f]? = some (topN i f) := by decide +kernel
      rw [topV, List.getElem?_toArray, List.getElem?_map, key i hi f hf]
      rfl
    have HT : Hid (∀ z : Array Value, z.size = 33 → (w.alloc (.cells z 121)).there w.heap.size 0 33) := fun z hz => (Blk.new w z 121).there 33 hz
    go_wp2_with (refine wpList_store_mid rfl 121 _ _ rfl w.heap.size 0 topV rfl (by kernel_rfl) (HT.out _ rfl) (by kernel_rfl) (by kernel_rfl) ?_)
    simp only [Act.put]
    go_meet
    exact ⟨rfl, HC.out _ rfl, setCells_below (Nat.le_refl _) _ _ _ _ ((Below.refl _ _).alloc (Nat.le_refl _) _)⟩
  case rest =>
  obtain ⟨rfl, hc, hb⟩ := hcut
  obtain ⟨t, ht⟩ : ∃ t, topN i f = t := ⟨_, rfl⟩
  rw [ht] at hc
  have HT : Hid (topN i f = t) := ht
  clear ht
  go_wp2
  go_ret
  exact ⟨by rw [HT.out]; rfl, hb⟩
/-- The document's value and greatest value of a numbered field. -/
def vvN (c : CF) (i : Nat) : Int := [0, c.map, c.sub, 0, 0, 0, c.con, c.kind, c.tim, c.dev, c.misc].getD i 0
def hiN (c : CF) (i f : Nat) : Int := if i = 7 then (if c.con = 1 then topN 7 f else if c.con = 3 then (if 15 < topN 7 f then 15 else topN 7 f) else 0) else topN i f
theorem may_num (c : CF) (f : Nat) (hf : f < 3) (hc : c.fmt = (f : Int)) (i : Nat) (h1 : 1 ≤ i) (h2 : i ≤ 10) : (Chk.may c).getD i false = (decide (0 ≤ vvN c i) && decide (vvN c i ≤ hiN c i f)) := by
  have hff : f = 0 ∨ f = 1 ∨ f = 2 := by omega
  have hii : i = 1 ∨ i = 2 ∨ i = 3 ∨ i = 4 ∨ i = 5 ∨ i = 6 ∨ i = 7 ∨ i = 8 ∨ i = 9 ∨ i = 10 := by omega
  have hr : Chk.row c.fmt = if f = 0 then [15, 0, 0, 0, 0, 0, 1] else if f = 1 then [255, 0, 2, 1, 0, 0, 255] else [4095, 15, 3, 3, 63, 3, 0] := by
    unfold Chk.row
    rcases hff with rfl | rfl | rfl <;> rw [hc] <;> rfl
  rcases hii with rfl | rfl | rfl | rfl | rfl | rfl | rfl | rfl | rfl | rfl
  · show Chk.within c.map ((Chk.row c.fmt).getD 0 0) = _
    rw [hr]; rcases hff with rfl | rfl | rfl <;> rfl
  · show Chk.within c.sub ((Chk.row c.fmt).getD 1 0) = _
    rw [hr]; rcases hff with rfl | rfl | rfl <;> rfl
  · rcases hff with rfl | rfl | rfl <;> rfl
  · rcases hff with rfl | rfl | rfl <;> rfl
  · rcases hff with rfl | rfl | rfl <;> rfl
  · show Chk.within c.con ((Chk.row c.fmt).getD 2 0) = _
    rw [hr]; rcases hff with rfl | rfl | rfl <;> rfl
  · show Chk.kindOk c = (decide (0 ≤ c.kind) && decide (c.kind ≤ hiN c 7 f))
    unfold Chk.kindOk hiN
    rw [if_pos rfl]
    rcases hff with rfl | rfl | rfl
    · rw [if_neg (by rw [hc]; decide), show topN 7 0 = 0 from rfl]
      simp only [show ¬ (15 : Int) < 0 by decide, if_false, ite_self]
      rw [Bool.eq_iff_iff]; simp; omega
    · rw [if_neg (by rw [hc]; decide), show topN 7 1 = 0 from rfl]
      simp only [show ¬ (15 : Int) < 0 by decide, if_false, ite_self]
      rw [Bool.eq_iff_iff]; simp; omega
    · rw [if_pos (show c.fmt = 2 from hc), show topN 7 2 = 255 from rfl, if_pos (show (15 : Int) < 255 by decide)]
      rfl
  · show Chk.within c.tim ((Chk.row c.fmt).getD 3 0) = _
    rw [hr]; rcases hff with rfl | rfl | rfl <;> rfl
  · show Chk.within c.dev ((Chk.row c.fmt).getD 4 0) = _
    rw [hr]; rcases hff with rfl | rfl | rfl <;> rfl
  · show Chk.within c.misc ((Chk.row c.fmt).getD 5 0) = _
    rw [hr]; rcases hff with rfl | rfl | rfl <;> rfl
/-- The first no among a run of fields. -/
def runNo (l : List Bool) (a n : Nat) : Int := Chk.firstNo a ((l.drop a).take n)
theorem getD_run (l : List Bool) (a n j : Nat) (hj : j < n) : ((l.drop a).take n).getD j false = l.getD (a + j) false := by
  simp [List.getD, List.getElem?_take, hj, List.getElem?_drop]
theorem firstNo_shift (l : List Bool) : ∀ (i : Int), 0 ≤ i → Chk.firstNo i l = if Chk.firstNo 0 l < 0 then -1 else i + Chk.firstNo 0 l := by
  induction l with
  | nil => intro i _; rfl
  | cons b l ih =>
    intro i hi
    cases b
    · simp [Chk.firstNo]
    · simp only [Chk.firstNo, if_true]
      rw [ih (i + 1) (by omega), ih (0 + 1) (by omega)]
      by_cases h : Chk.firstNo 0 l < 0
      · simp [h]
      · simp only [h, if_false]
        rw [if_neg (by omega)]
        omega
theorem runNo_at (l : List Bool) (a n k : Nat) (hl : a + n ≤ l.length) (hk : k < n) (h : ∀ j, j < k → l.getD (a + j) false = true) (hn : l.getD (a + k) false = false) : runNo l a n = ((a + k : Nat) : Int) := by
  have hlen : ((l.drop a).take n).length = n := by simp; omega
  have e := firstNo_at ((l.drop a).take n) k (fun j hj => by rw [getD_run l a n j (by omega)]; exact h j hj) (by omega) (by rw [getD_run l a n k hk]; exact hn)
  unfold runNo
  rw [firstNo_shift _ _ (by omega), e, if_neg (by omega)]
  omega
theorem runNo_none (l : List Bool) (a n : Nat) (hl : a + n ≤ l.length) (h : ∀ j, j < n → l.getD (a + j) false = true) : runNo l a n = -1 := by
  have hlen : ((l.drop a).take n).length = n := by simp; omega
  have e := firstNo_none ((l.drop a).take n) (fun j hj => by rw [getD_run l a n j (by omega)]; exact h j (by omega))
  unfold runNo
  rw [firstNo_shift _ _ (by omega), e]
  rfl
end Go.Proofs.YtpdbndkckioamaaDoor
namespace Go.Proofs.YtpdbndkckioamaaDoor
open Go.RowKit
/-- The four memories. -/
def l4 (c : CF) (i : Nat) : Int := [c.pr, c.pn, c.cr, c.cn].getD i 0
theorem may_mem2 (c : CF) (hc : c.fmt = 2) (i : Nat) (hi : i < 4) : (Chk.may c).getD (11 + i) false = Chk.ramOk (l4 c i) := by
  have : i = 0 ∨ i = 1 ∨ i = 2 ∨ i = 3 := by omega
  rcases this with rfl | rfl | rfl | rfl
  · show Chk.workOk c c.pr (!c.bat) = _
    unfold Chk.workOk; rw [if_pos hc]; rfl
  · show Chk.workOk c c.pn c.bat = _
    unfold Chk.workOk; rw [if_pos hc]; rfl
  · show Chk.chrOk c c.cr (Chk.implied c) = _
    unfold Chk.chrOk; rw [if_pos hc]; rfl
  · show Chk.chrOk c c.cn 0 = _
    unfold Chk.chrOk; rw [if_pos hc]; rfl
set_option maxRecDepth 100000 in
set_option maxHeartbeats 1000000 in
theorem memories2_any (cs : Array Value) (c : CF) (C : IsC cs c) (hc : c.fmt = 2) (w : World) :
    Calls Tryd.prog 56 #[.agg cs] w fun e w' => e = .returned (.int .i64 (runNo (Chk.may c) 11 4)) ∧ Below w.heap.size w w' := by
  have hsz := C.size
  go_enter Tryd.func56, Tryd.ntmps56
  go_upto_region 1 with fail
  have hb0 : Below w.heap.size w (w.alloc (.cells cs 25)) := (Below.refl _ _).alloc (Nat.le_refl _) _
  have b0 : Blk (w.alloc (.cells cs 25)) w.heap.size cs 25 := Blk.new w cs _
  generalize w.alloc (.cells cs 25) = W at *
  have d11 := (b0.cell 11).trans C.h11
  have d12 := (b0.cell 12).trans C.h12
  have d13 := (b0.cell 13).trans C.h13
  have d14 := (b0.cell 14).trans C.h14
  clear hsz
  go_cut [3] (fun p wx => ∃ lb : Nat, p = .pointer (some ⟨lb, 0, none⟩) ∧ Blk wx w.heap.size cs 25 ∧ Blk wx lb #[.int .i64 c.pr, .int .i64 c.pn, .int .i64 c.cr, .int .i64 c.cn] 112 ∧ Below w.heap.size w wx)
  case first =>
    go_wp2
    go_meet
    exact ⟨_, rfl, b0.old _, Blk.new _ _ _, hb0.alloc hb0.size _⟩
  case rest =>
  clear d11 d12 d13 d14 b0 hb0
  obtain ⟨lb, rfl, bA, lA, hbA⟩ := hcut
  have d0 := (bA.cell 0).trans C.h0
  rw [hc] at d0
  go_upto_region 4 with fail
  rename_i wz
  go_loop [4] (fun x => ∃ i : Nat, i ≤ 4 ∧ x = .int .i64 i ∧ Hid (∀ j, j < i → (Chk.may c).getD (11 + j) false = true)) (fun x => 4 - (intOf x).toNat)
  case atStart => exact ⟨0, by omega, rfl, fun j hj => absurd hj (Nat.not_lt_zero _)⟩
  case round =>
    obtain ⟨i, hi, rfl, hA⟩ := hrel
    by_cases h4 : i < 4
    · have HC := lA.cell i
      have e4 : (#[.int .i64 c.pr, .int .i64 c.pn, .int .i64 c.cr, .int .i64 c.cn] : Array Value)[i]? = some (.int .i64 (l4 c i)) := by
        have : i = 0 ∨ i = 1 ∨ i = 2 ∨ i = 3 := by omega
        rcases this with rfl | rfl | rfl | rfl <;> rfl
      have dl := HC.trans e4
      have MC0 := fun W : World => memory_any (l4 c i) W
      have hm := may_mem2 c hc i h4
      clear HC e4
      cases hok : Chk.ramOk (l4 c i)
      · have HN : Hid (runNo (Chk.may c) 11 4 = ((11 + i : Nat) : Int)) := runNo_at _ 11 4 i (by show 11 + 4 ≤ 19; decide) h4 (fun j hj => hA.out j hj) (by rw [hm]; exact hok)
        rw [hok] at MC0
        have MC : Hid (∀ W : World, _) := MC0
        clear MC0 hm hok
        generalize l4 c i = v at *
        go_wp2_with (go_at_call 77; go_must (refine (MC.out _).mono ?_; rintro e w2 ⟨rfl, hw2⟩; obtain rfl := hw2.symm))
        go_ret
        exact ⟨retN (by rw [HN.out]; omega), hbA⟩
      · have HM : Hid ((Chk.may c).getD (11 + i) false = true) := by unfold Hid; rw [hm]; exact hok
        rw [hok] at MC0
        have MC : Hid (∀ W : World, _) := MC0
        clear MC0 hm hok
        generalize l4 c i = v at *
        go_wp2_with (go_at_call 77; go_must (refine (MC.out _).mono ?_; rintro e w2 ⟨rfl, hw2⟩; obtain rfl := hw2.symm))
        go_round
        case rel => exact ⟨i + 1, by omega, by go_num, fun j hj => (Nat.lt_succ_iff_lt_or_eq.1 hj).elim (fun h => hA.out j h) (fun h => by rw [h]; exact HM.out)⟩
        case measure => simp [intOf]; omega
    · obtain rfl : i = 4 := by omega
      have HN : Hid (runNo (Chk.may c) 11 4 = -1) := runNo_none _ 11 4 (by show 11 + 4 ≤ 19; decide) (fun j hj => hA.out j hj)
      go_wp2
      go_ret
      exact ⟨by rw [HN.out]; rfl, hbA⟩
/-- The greatest number of units of work RAM. -/
def moN (c : CF) : Int := (Chk.row c.fmt).getD 6 0
theorem work_yes (c : CF) (hc : c.fmt = 0 ∨ c.fmt = 1) (n : Int) : Chk.workOk c n true = unOk n 8192 1 (moN c) := by
  unfold Chk.workOk unOk moN
  rw [if_neg (by omega), if_pos rfl]
  by_cases h : 0 < n
  · rw [Int.tmod_eq_emod_of_nonneg (by omega), Int.tdiv_eq_ediv_of_nonneg (by omega)]
    rw [Bool.eq_iff_iff]
    simp
    omega
  · rw [Bool.eq_iff_iff]
    simp
    omega
theorem work_no (c : CF) (hc : c.fmt = 0 ∨ c.fmt = 1) (n : Int) : Chk.workOk c n false = unOk n 8192 0 0 := by
  unfold Chk.workOk unOk
  rw [if_neg (by omega)]
  rw [Bool.eq_iff_iff]
  simp
  omega
end Go.Proofs.YtpdbndkckioamaaDoor
namespace Go.Proofs.YtpdbndkckioamaaDoor
open Go.RowKit
/-- What stands in memory behind the lists of bounds. -/
structure M4 (w : World) (cs : Array Value) (c : CF) (lb lo hi : Nat) (l0 l1 h0 h1 : Int) (W : World) : Prop where
  b : Blk W w.heap.size cs 25
  l : Blk W lb #[.int .i64 c.pr, .int .i64 c.pn, .int .i64 c.cr, .int .i64 c.cn] 112
  o : Blk W lo #[.int .i64 l0, .int .i64 l1] 114
  h : Blk W hi #[.int .i64 h0, .int .i64 h1] 114
  bl : Below w.heap.size w W
theorem M4.stoO {w : World} {cs : Array Value} {c : CF} {lb lo hi : Nat} {l0 l1 h0 h1 : Int} {W : World} (K : M4 w cs c lb lo hi l0 l1 h0 h1 W) (a b : Int) (n1 : w.heap.size < lo) (n2 : lb < lo) (n3 : lo < hi) :
    M4 w cs c lb lo hi a b h0 h1 (W.setCells lo 0 (#[.int .i64 a, .int .i64 b] : Array Value).toList) :=
  ⟨K.b.otherCells (by omega) _ _, K.l.otherCells (by omega) _ _, K.o.setAll rfl, K.h.otherCells (by omega) _ _, setCells_below (by omega) _ _ _ _ K.bl⟩
theorem M4.stoH {w : World} {cs : Array Value} {c : CF} {lb lo hi : Nat} {l0 l1 h0 h1 : Int} {W : World} (K : M4 w cs c lb lo hi l0 l1 h0 h1 W) (a b : Int) (n1 : w.heap.size < lo) (n2 : lb < lo) (n3 : lo < hi) :
    M4 w cs c lb lo hi l0 l1 a b (W.setCells hi 0 (#[.int .i64 a, .int .i64 b] : Array Value).toList) :=
  ⟨K.b.otherCells (by omega) _ _, K.l.otherCells (by omega) _ _, K.o.otherCells (by omega) _ _, K.h.setAll rfl, setCells_below (by omega) _ _ _ _ K.bl⟩
theorem M4.dn {w : World} {cs : Array Value} {c : CF} {lb lo hi : Nat} {l0 l1 h0 h1 : Int} {W : World} (K : M4 w cs c lb lo hi l0 l1 h0 h1 W) (n : Nat) : M4 w cs c lb lo hi l0 l1 h0 h1 (W.drewN n) :=
  ⟨K.b, K.l, K.o, K.h, ⟨K.bl.os, K.bl.tape, K.bl.output, K.bl.size, K.bl.block⟩⟩
set_option maxRecDepth 100000 in
set_option maxHeartbeats 2000000 in
theorem memories1_any (cs : Array Value) (c : CF) (C : IsC cs c) (hc : c.fmt = 0 ∨ c.fmt = 1) (hpr : -9223372036854775808 ≤ c.pr ∧ c.pr ≤ 9223372036854775807) (hpn : -9223372036854775808 ≤ c.pn ∧ c.pn ≤ 9223372036854775807) (w : World) :
    Calls Tryd.prog 56 #[.agg cs] w fun e w' => e = .returned (.int .i64 (runNo (Chk.may c) 11 4)) ∧ Below w.heap.size w w' := by
  have hsz := C.size
  go_enter Tryd.func56, Tryd.ntmps56
  go_upto_region 1 with fail
  have hb0 : Below w.heap.size w (w.alloc (.cells cs 25)) := (Below.refl _ _).alloc (Nat.le_refl _) _
  have b0 : Blk (w.alloc (.cells cs 25)) w.heap.size cs 25 := Blk.new w cs _
  generalize w.alloc (.cells cs 25) = W at *
  have d11 := (b0.cell 11).trans C.h11
  have d12 := (b0.cell 12).trans C.h12
  have d13 := (b0.cell 13).trans C.h13
  have d14 := (b0.cell 14).trans C.h14
  clear hsz
  go_cut [3] (fun p wx => ∃ lb : Nat, p = .pointer (some ⟨lb, 0, none⟩) ∧ Blk wx w.heap.size cs 25 ∧ Blk wx lb #[.int .i64 c.pr, .int .i64 c.pn, .int .i64 c.cr, .int .i64 c.cn] 112 ∧ Below w.heap.size w wx)
  case first =>
    go_wp2
    go_meet
    exact ⟨_, rfl, b0.old _, Blk.new _ _ _, hb0.alloc hb0.size _⟩
  case rest =>
  clear d11 d12 d13 d14 b0 hb0
  obtain ⟨lb, rfl, bA, lA, hbA⟩ := hcut
  have d0 := (bA.cell 0).trans C.h0
  have HMO : Hid (moN c = if c.fmt = 1 then 255 else 1) := by
    unfold Hid moN Chk.row
    rcases hc with h | h <;> rw [h] <;> rfl
  have HC : Hid (c.fmt = 0 ∨ c.fmt = 1) := hc
  have t2 : (c.fmt == 2) = false := by rw [beq_eq_false_iff_ne]; omega
  go_upto_region 11 with fail
  clear hc
  go_cut [37] (fun q wx => q = .bool (decide (c.fmt = 1)) ∧ Blk wx w.heap.size cs 25 ∧ Blk wx lb #[.int .i64 c.pr, .int .i64 c.pn, .int .i64 c.cr, .int .i64 c.cn] 112 ∧ Below w.heap.size w wx)
  case first =>
    go_wp2
    go_meet
    exact ⟨by rw [Value.bool.injEq, Bool.eq_iff_iff]; simp, bA, lA, hbA⟩
  case rest =>
  clear bA lA hbA d0 t2
  obtain ⟨rfl, bA, lA, hbA⟩ := hcut
  go_upto_if 37 with fail
  go_cut [6] (fun q wx => q = .int .i64 (moN c) ∧ Blk wx w.heap.size cs 25 ∧ Blk wx lb #[.int .i64 c.pr, .int .i64 c.pn, .int .i64 c.cr, .int .i64 c.cn] 112 ∧ Below w.heap.size w wx)
  case first =>
    cases hq : decide (c.fmt = 1)
    · have e : moN c = 1 := by rw [HMO.out, if_neg (of_decide_eq_false hq)]
      go_wp2
      go_meet
      exact ⟨by rw [e], bA, lA, hbA⟩
    · have e : moN c = 255 := by rw [HMO.out, if_pos (of_decide_eq_true hq)]
      go_wp2
      go_meet
      exact ⟨by rw [e], bA, lA, hbA⟩
  case rest =>
  clear bA lA hbA HMO
  obtain ⟨rfl, bA, lA, hbA⟩ := hcut
  go_upto_region 13 with fail
  go_cut [7] (fun p wx => ∃ lo : Nat, p = .pointer (some ⟨lo, 0, none⟩) ∧ w.heap.size < lo ∧ lb < lo ∧ Blk wx w.heap.size cs 25 ∧ Blk wx lb #[.int .i64 c.pr, .int .i64 c.pn, .int .i64 c.cr, .int .i64 c.cn] 112 ∧ Blk wx lo #[.int .i64 1, .int .i64 0] 114 ∧ Below w.heap.size w wx)
  case first =>
    go_wp2
    go_meet
    exact ⟨_, rfl, bA.lt, lA.lt, bA.old _, lA.old _, Blk.new _ _ _, hbA.alloc hbA.size _⟩
  case rest =>
  clear bA lA hbA
  obtain ⟨lo, rfl, hl1, hl2, bA, lA, oA, hbA⟩ := hcut
  have HMV : Hid (moN c = moN c) := rfl
  generalize hmo : moN c = mo at *
  have HMO : Hid (moN c = mo) := hmo
  clear hmo HMV
  go_upto_region 14 with fail
  go_cut [8] (fun p wx => ∃ hi : Nat, p = .pointer (some ⟨hi, 0, none⟩) ∧ lo < hi ∧ M4 w cs c lb lo hi 1 0 mo 0 wx)
  case first =>
    go_wp2
    go_meet
    exact ⟨_, rfl, oA.lt, bA.old _, lA.old _, oA.old _, Blk.new _ _ _, hbA.alloc hbA.size _⟩
  case rest =>
  clear bA lA oA hbA
  obtain ⟨hi, rfl, hh, K⟩ := hcut
  have d5 := (K.b.cell 5).trans C.h5
  have co := K.o.cell
  have fo := K.o.free
  have ch := K.h.cell
  have fh := K.h.free
  go_upto_if 42 with fail
  go_cut [] (fun wx => M4 w cs c lb lo hi (if c.bat then 0 else 1) (if c.bat then 1 else 0) (if c.bat then 0 else mo) (if c.bat then mo else 0) wx)
  case first =>
    cases hb : c.bat
    · rw [hb] at d5
      go_wp2
      go_meet
      simpa only [hb, Bool.false_eq_true, if_false] using K
    · rw [hb] at d5
      clear co fo ch fh
      go_wp2_with (first
        | (refine wpList_store_mid rfl 114 _ _ rfl lo 0 #[.int .i64 0, .int .i64 1] rfl rfl (K.o.there 2 rfl) (by kernel_rfl) (by kernel_rfl) ?_; have K1 := K.stoO 0 1 hl1 hl2 hh)
        | (refine wpList_store_mid rfl 114 _ _ rfl hi 0 #[.int .i64 0, .int .i64 mo] rfl rfl (K1.h.there 2 rfl) (by kernel_rfl) (by kernel_rfl) ?_; have K2 := K1.stoH 0 mo hl1 hl2 hh))
      go_meet
      simpa only [hb, if_true] using K2
  case rest =>
  clear K d5 co fo ch fh
  have K := hcut
  clear hcut
  have hw0 : (Chk.may c).getD 11 false = unOk c.pr 8192 (if c.bat then 0 else 1) (if c.bat then 0 else mo) := by
    show Chk.workOk c c.pr (!c.bat) = _
    cases hb : c.bat
    · rw [show (!false) = true from rfl, work_yes c HC.out, HMO.out]; rfl
    · rw [show (!true) = false from rfl, work_no c HC.out]; rfl
  have hw1 : (Chk.may c).getD 12 false = unOk c.pn 8192 (if c.bat then 1 else 0) (if c.bat then mo else 0) := by
    show Chk.workOk c c.pn c.bat = _
    cases hb : c.bat
    · rw [work_no c HC.out]; rfl
    · rw [work_yes c HC.out, HMO.out]; rfl
  generalize (if c.bat then 0 else 1 : Int) = l0 at *
  generalize (if c.bat then 1 else 0 : Int) = l1 at *
  generalize (if c.bat then 0 else mo) = h0 at *
  generalize (if c.bat then mo else 0) = h1 at *
  have hw2 : (Chk.may c).getD 13 false = decide (c.cr = Chk.implied c) := by
    show Chk.chrOk c c.cr (Chk.implied c) = _
    unfold Chk.chrOk; rw [if_neg (by have := HC.out; omega)]
  have hw3 : (Chk.may c).getD 14 false = decide (c.cn = 0) := by
    show Chk.chrOk c c.cn 0 = _
    unfold Chk.chrOk; rw [if_neg (by have := HC.out; omega)]
  have W0 : Hid _ := hw0
  have W1 : Hid _ := hw1
  have W2 : Hid _ := hw2
  have W3 : Hid _ := hw3
  clear hw0 hw1 hw2 hw3
  go_upto_region 19 with fail
  go_loopw [9] (fun x wr => ∃ i : Nat, i ≤ 2 ∧ x = .int .i64 i ∧ Hid (∀ j, j < i → (Chk.may c).getD (11 + j) false = true) ∧ M4 w cs c lb lo hi l0 l1 h0 h1 wr) (fun x _ => 2 - (intOf x).toNat)
  case atStart => exact ⟨0, by omega, rfl, fun j hj => absurd hj (Nat.not_lt_zero _), K⟩
  case round =>
    clear K
    obtain ⟨i, hi2, rfl, hA, K⟩ := hrel
    by_cases h2 : i < 2
    · rcases (show i = 0 ∨ i = 1 by omega) with rfl | rfl
      · have c0 : wr.cell? ⟨lb, 0, none⟩ = some (.int .i64 c.pr) := K.l.cell 0
        have c1 : wr.cell? ⟨lo, 0, none⟩ = some (.int .i64 l0) := K.o.cell 0
        have c2 : wr.cell? ⟨hi, 0, none⟩ = some (.int .i64 h0) := K.h.cell 0
        have UC0 := fun nn : Nat => units_any c.pr 8192 l0 h0 (.inr rfl) hpr.1 hpr.2 (wr.drewN nn)
        cases hok : unOk c.pr 8192 l0 h0
        · have HN : Hid (runNo (Chk.may c) 11 4 = 11) := runNo_at _ 11 4 0 (by show 11 + 4 ≤ 19; decide) (by decide) (fun j hj => hA.out j hj) (by show (Chk.may c).getD 11 false = false; rw [W0.out]; exact hok)
          rw [hok] at UC0
          have UC : Hid (∀ nn : Nat, _) := UC0
          clear UC0 hok
          go_upto_region 21 with fail
          go_quiet ((go_at_call 78; exact Calls.quiet_of_same (UC.out _)))
          go_wp2
          go_ret
          exact ⟨by rw [HN.out]; rfl, (K.dn _).bl⟩
        · have HM : Hid ((Chk.may c).getD 11 false = true) := by unfold Hid; rw [W0.out]; exact hok
          rw [hok] at UC0
          have UC : Hid (∀ nn : Nat, _) := UC0
          clear UC0 hok
          go_upto_region 21 with fail
          go_quiet ((go_at_call 78; exact Calls.quiet_of_same (UC.out _)))
          go_wp2
          go_roundw
          case rel => exact ⟨1, by omega, by go_num, fun j hj => by rcases (show j = 0 by omega) with rfl; exact HM.out, K.dn _⟩
          case measure => simp [intOf]
      · have c0 : wr.cell? ⟨lb, 1, none⟩ = some (.int .i64 c.pn) := K.l.cell 1
        have c1 : wr.cell? ⟨lo, 1, none⟩ = some (.int .i64 l1) := K.o.cell 1
        have c2 : wr.cell? ⟨hi, 1, none⟩ = some (.int .i64 h1) := K.h.cell 1
        have UC0 := fun nn : Nat => units_any c.pn 8192 l1 h1 (.inr rfl) hpn.1 hpn.2 (wr.drewN nn)
        cases hok : unOk c.pn 8192 l1 h1
        · have HN : Hid (runNo (Chk.may c) 11 4 = 12) := runNo_at _ 11 4 1 (by show 11 + 4 ≤ 19; decide) (by decide) (fun j hj => hA.out j hj) (by show (Chk.may c).getD 12 false = false; rw [W1.out]; exact hok)
          rw [hok] at UC0
          have UC : Hid (∀ nn : Nat, _) := UC0
          clear UC0 hok
          go_upto_region 21 with fail
          go_quiet ((go_at_call 78; exact Calls.quiet_of_same (UC.out _)))
          go_wp2
          go_ret
          exact ⟨by rw [HN.out]; rfl, (K.dn _).bl⟩
        · have HM : Hid ((Chk.may c).getD 12 false = true) := by unfold Hid; rw [W1.out]; exact hok
          rw [hok] at UC0
          have UC : Hid (∀ nn : Nat, _) := UC0
          clear UC0 hok
          go_upto_region 21 with fail
          go_quiet ((go_at_call 78; exact Calls.quiet_of_same (UC.out _)))
          go_wp2
          go_roundw
          case rel => exact ⟨2, by omega, by go_num, fun j hj => by rcases (show j = 0 ∨ j = 1 by omega) with rfl | rfl; exact hA.out 0 (by decide); exact HM.out, K.dn _⟩
          case measure => simp [intOf]
    · obtain rfl : i = 2 := by omega
      obtain ⟨aq, kq, e17⟩ := C.h17
      have d17 := (K.b.cell 17).trans e17
      have d13 := (K.b.cell 13).trans C.h13
      have d14 := (K.b.cell 14).trans C.h14
      have mq := C.mq
      have HI : Hid (Chk.implied c = if c.nq = 0 then 8192 else 0) := rfl
      have a0 : Hid ((Chk.may c).getD 11 false = true) := hA.out 0 (by decide)
      have a1 : Hid ((Chk.may c).getD 12 false = true) := hA.out 1 (by decide)
      have H13 : Hid ((Chk.may c).getD 13 false = false → runNo (Chk.may c) 11 4 = 13) := fun h => runNo_at _ 11 4 2 (by show 11 + 4 ≤ 19; decide) (by decide) (fun j hj => by rcases (show j = 0 ∨ j = 1 by omega) with rfl | rfl; exact a0.out; exact a1.out) h
      have H14 : Hid ((Chk.may c).getD 13 false = true → (Chk.may c).getD 14 false = false → runNo (Chk.may c) 11 4 = 14) := fun g h => runNo_at _ 11 4 3 (by show 11 + 4 ≤ 19; decide) (by decide) (fun j hj => by rcases (show j = 0 ∨ j = 1 ∨ j = 2 by omega) with rfl | rfl | rfl; exact a0.out; exact a1.out; exact g) h
      have H15 : Hid ((Chk.may c).getD 13 false = true → (Chk.may c).getD 14 false = true → runNo (Chk.may c) 11 4 = -1) := fun g h => runNo_none _ 11 4 (by show 11 + 4 ≤ 19; decide) (fun j hj => by rcases (show j = 0 ∨ j = 1 ∨ j = 2 ∨ j = 3 by omega) with rfl | rfl | rfl | rfl; exact a0.out; exact a1.out; exact g; exact h)
      have bl := K.bl
      clear K hA
      by_cases hq : c.nq = 0
      · have eI : Chk.implied c = 8192 := by rw [HI.out, if_pos hq]
        rw [hq] at d17
        by_cases hr : c.cr = 8192
        · have g13 : Hid ((Chk.may c).getD 13 false = true) := by unfold Hid; rw [W2.out, eI]; exact decide_eq_true hr
          rw [hr] at d13
          by_cases hn : c.cn = 0
          · have g14 : Hid ((Chk.may c).getD 14 false = true) := by unfold Hid; rw [W3.out]; exact decide_eq_true hn
            rw [hn] at d14
            go_wp2
            go_ret
            exact ⟨by rw [H15.out g13.out g14.out]; rfl, bl⟩
          · have g14 : Hid ((Chk.may c).getD 14 false = false) := by unfold Hid; rw [W3.out]; exact decide_eq_false hn
            have q2 : (c.cn != 0) = true := by simpa using hn
            go_wp2
            go_ret
            exact ⟨by rw [H14.out g13.out g14.out]; rfl, bl⟩
        · have g13 : Hid ((Chk.may c).getD 13 false = false) := by unfold Hid; rw [W2.out, eI]; exact decide_eq_false hr
          have q1 : (c.cr != 8192) = true := by simpa using hr
          go_wp2
          go_ret
          exact ⟨by rw [H13.out g13.out]; rfl, bl⟩
      · have eI : Chk.implied c = 0 := by rw [HI.out, if_neg hq]
        have hq' : ((c.nq : Int) == 0) = false := by rw [beq_eq_false_iff_ne]; omega
        have hq2 : (0 : Int) < (c.nq : Int) := by omega
        by_cases hr : c.cr = 0
        · have g13 : Hid ((Chk.may c).getD 13 false = true) := by unfold Hid; rw [W2.out, eI]; exact decide_eq_true hr
          rw [hr] at d13
          by_cases hn : c.cn = 0
          · have g14 : Hid ((Chk.may c).getD 14 false = true) := by unfold Hid; rw [W3.out]; exact decide_eq_true hn
            rw [hn] at d14
            go_wp2
            go_ret
            exact ⟨by rw [H15.out g13.out g14.out]; rfl, bl⟩
          · have g14 : Hid ((Chk.may c).getD 14 false = false) := by unfold Hid; rw [W3.out]; exact decide_eq_false hn
            have q2 : (c.cn != 0) = true := by simpa using hn
            go_wp2
            go_ret
            exact ⟨by rw [H14.out g13.out g14.out]; rfl, bl⟩
        · have g13 : Hid ((Chk.may c).getD 13 false = false) := by unfold Hid; rw [W2.out, eI]; exact decide_eq_false hr
          have q1 : (c.cr != 0) = true := by simpa using hr
          go_wp2
          go_ret
          exact ⟨by rw [H13.out g13.out]; rfl, bl⟩
end Go.Proofs.YtpdbndkckioamaaDoor
namespace Go.Proofs.YtpdbndkckioamaaDoor
open Go.RowKit
/-- What the document's rest answers. -/
def restE (c : CF) : Int := if c.fmt = 1 ∧ c.con = 2 ∧ (c.nr : Int) < 8192 then 11 else if c.fmt = 2 ∧ c.misc = 0 ∧ 0 < (c.nr : Int) then 15 else if c.fmt = 2 ∧ (c.nr : Int) < c.misc then 11 else 0
theorem restE_ok (c : CF) : Chk.restOk c = decide (restE c = 0) := by
  unfold Chk.restOk restE
  by_cases f2 : c.fmt = 2
  · by_cases m0 : c.misc = 0
    · rw [if_pos ⟨f2, m0⟩, if_neg (by omega), decide_eq_decide]
      by_cases h : 0 < (c.nr : Int)
      · rw [if_pos ⟨f2, m0, h⟩]; omega
      · rw [if_neg (fun g => h g.2.2), if_neg (by omega)]; omega
    · rw [if_neg (fun g => m0 g.2), if_neg (by omega), if_pos f2, if_neg (by omega), if_neg (fun g => m0 g.2.1), decide_eq_decide]
      by_cases h : (c.nr : Int) < c.misc
      · rw [if_pos ⟨f2, h⟩]; omega
      · rw [if_neg (fun g => h g.2)]; omega
  · rw [if_neg (fun g => f2 g.1)]
    by_cases f1 : c.fmt = 1 ∧ c.con = 2
    · rw [if_pos f1, decide_eq_decide]
      by_cases h : (c.nr : Int) < 8192
      · rw [if_pos ⟨f1.1, f1.2, h⟩]; omega
      · rw [if_neg (fun g => h g.2.2), if_neg (fun g => f2 g.1), if_neg (fun g => f2 g.1)]; omega
    · rw [if_neg f1, if_neg f2, decide_eq_decide, if_neg (fun g => f1 ⟨g.1, g.2.1⟩), if_neg (fun g => f2 g.1), if_neg (fun g => f2 g.1)]; omega
theorem may_16 (c : CF) : (Chk.may c).getD 16 false = (unOk (c.np : Nat) 16384 1 64 || ((decide (c.fmt = 2) && decide (c.np ≤ 1048576)) && (decide (0 < c.np) && decide (Chk.oddPart 64 c.np ≤ 7)))) := by
  show (decide (0 < c.np) && Chk.romOk c c.np 16384 1048576) = _
  unfold Chk.romOk unOk
  rw [Bool.eq_iff_iff]
  simp only [Bool.and_eq_true, Bool.or_eq_true, decide_eq_true_eq]
  omega
theorem may_17 (c : CF) : (Chk.may c).getD 17 false = (unOk (c.nq : Nat) 8192 0 64 || ((decide (c.fmt = 2) && decide (c.nq ≤ 524288)) && (decide (0 < c.nq) && decide (Chk.oddPart 64 c.nq ≤ 7)))) := by
  show Chk.romOk c c.nq 8192 524288 = _
  unfold Chk.romOk unOk
  rw [Bool.eq_iff_iff]
  simp only [Bool.and_eq_true, Bool.or_eq_true, decide_eq_true_eq]
  omega
set_option maxRecDepth 100000 in
set_option maxHeartbeats 1000000 in
theorem rrest_any (cs : Array Value) (c : CF) (C : IsC cs c) (w : World) :
    Calls Tryd.prog 29 #[.agg cs, .int .i64 (c.nr : Nat)] w fun e w' => e = .returned (.int .i64 (restE c)) ∧ Below w.heap.size w w' := by
  have hsz := C.size
  go_enter Tryd.func29, Tryd.ntmps29
  go_upto_region 1 with fail
  have hb0 : Below w.heap.size w (w.alloc (.cells cs 25)) := (Below.refl _ _).alloc (Nat.le_refl _) _
  have b0 : Blk (w.alloc (.cells cs 25)) w.heap.size cs 25 := Blk.new w cs _
  generalize w.alloc (.cells cs 25) = W at *
  have d0 := (b0.cell 0).trans C.h0
  have d6 := (b0.cell 6).trans C.h6
  have d10 := (b0.cell 10).trans C.h10
  have mr := C.mr
  clear hsz
  by_cases f1 : c.fmt = 1
  · rw [f1] at d0
    by_cases h2 : c.con = 2
    · rw [h2] at d6
      by_cases h3 : (c.nr : Int) < 8192
      · clear d10
        have H : Hid (restE c = 11) := by unfold Hid restE; rw [if_pos ⟨f1, h2, h3⟩]
        go_wp2
        go_ret
        exact ⟨by rw [H.out]; rfl, hb0⟩
      · clear d10
        have H : Hid (restE c = 0) := by unfold Hid restE; rw [if_neg (fun h => h3 h.2.2), if_neg (by omega), if_neg (by omega)]
        go_wp2
        go_ret
        exact ⟨by rw [H.out]; rfl, hb0⟩
    · have h2' : (c.con == 2) = false := by rw [beq_eq_false_iff_ne]; exact h2
      clear d10
      have H : Hid (restE c = 0) := by unfold Hid restE; rw [if_neg (fun h => h2 h.2.1), if_neg (by omega), if_neg (by omega)]
      go_wp2
      go_ret
      exact ⟨by rw [H.out]; rfl, hb0⟩
  · by_cases f2 : c.fmt = 2
    · rw [f2] at d0
      by_cases h2 : c.misc = 0
      · rw [h2] at d10
        by_cases h3 : 0 < (c.nr : Int)
        · clear d6
          have H : Hid (restE c = 15) := by unfold Hid restE; rw [if_neg (by omega), if_pos ⟨f2, h2, h3⟩]
          go_wp2
          go_ret
          exact ⟨by rw [H.out]; rfl, hb0⟩
        · clear d6
          have h4 : ¬ (c.nr : Int) < 0 := by omega
          have H : Hid (restE c = 0) := by unfold Hid restE; rw [if_neg (by omega), if_neg (by omega), if_neg (by omega)]
          go_wp2
          go_ret
          exact ⟨by rw [H.out]; rfl, hb0⟩
      · have h2' : (c.misc == 0) = false := by rw [beq_eq_false_iff_ne]; exact h2
        by_cases h3 : (c.nr : Int) < c.misc
        · clear d6
          have H : Hid (restE c = 11) := by unfold Hid restE; rw [if_neg (by omega), if_neg (fun h => h2 h.2.1), if_pos ⟨f2, h3⟩]
          go_wp2
          go_ret
          exact ⟨by rw [H.out]; rfl, hb0⟩
        · clear d6
          have H : Hid (restE c = 0) := by unfold Hid restE; rw [if_neg (by omega), if_neg (fun h => h2 h.2.1), if_neg (fun h => h3 h.2)]
          go_wp2
          go_ret
          exact ⟨by rw [H.out]; rfl, hb0⟩
    · have f1' : (c.fmt == 1) = false := by rw [beq_eq_false_iff_ne]; exact f1
      have f2' : (c.fmt == 2) = false := by rw [beq_eq_false_iff_ne]; exact f2
      clear d6 d10
      have H : Hid (restE c = 0) := by unfold Hid restE; rw [if_neg (fun h => f1 h.1), if_neg (fun h => f2 h.1), if_neg (fun h => f2 h.1)]
      go_wp2
      go_ret
      exact ⟨by rw [H.out]; rfl, hb0⟩
set_option maxRecDepth 100000 in
set_option maxHeartbeats 2000000 in
theorem lists_any (cs : Array Value) (c : CF) (C : IsC cs c) (w : World) :
    Calls Tryd.prog 57 #[.agg cs] w fun e w' => e = .returned (.int .i64 (runNo (Chk.may c) 15 4)) ∧ Below w.heap.size w w' := by
  have hsz := C.size
  go_enter Tryd.func57, Tryd.ntmps57
  go_upto_region 1 with fail
  have hb0 : Below w.heap.size w (w.alloc (.cells cs 25)) := (Below.refl _ _).alloc (Nat.le_refl _) _
  have b0 : Blk (w.alloc (.cells cs 25)) w.heap.size cs 25 := Blk.new w cs _
  generalize w.alloc (.cells cs 25) = W at *
  clear hsz
  obtain ⟨a15, k15, e15⟩ := C.h15
  obtain ⟨a16, k16, e16⟩ := C.h16
  obtain ⟨a17, k17, e17⟩ := C.h17
  obtain ⟨a18, k18, e18⟩ := C.h18
  have d15 := (b0.cell 15).trans e15
  have H15 : Hid ((Chk.may c).getD 15 false = (decide (c.nt = 0) || decide (c.nt = 512))) := rfl
  go_cut [16] (fun q wx => q = .bool (!(Chk.may c).getD 15 false) ∧ Blk wx w.heap.size cs 25 ∧ Below w.heap.size w wx)
  case first =>
    have mt := C.mt
    by_cases t0 : c.nt = 0
    · have H : Hid ((Chk.may c).getD 15 false = true) := by unfold Hid; rw [H15.out, decide_eq_true t0]; rfl
      rw [t0] at d15
      go_wp2
      go_meet
      exact ⟨by rw [H.out]; rfl, b0, hb0⟩
    · by_cases t5 : c.nt = 512
      · have H : Hid ((Chk.may c).getD 15 false = true) := by unfold Hid; rw [H15.out, decide_eq_true t5, Bool.or_true]
        rw [t5] at d15
        go_wp2
        go_meet
        exact ⟨by rw [H.out]; rfl, b0, hb0⟩
      · have H : Hid ((Chk.may c).getD 15 false = false) := by unfold Hid; rw [H15.out, decide_eq_false t5, decide_eq_false t0]; rfl
        have q0 : ((c.nt : Int) != 0) = true := by simpa using t0
        have q5 : ((c.nt : Int) != 512) = true := by simp; omega
        go_wp2
        go_meet
        exact ⟨by rw [H.out]; rfl, b0, hb0⟩
  case rest =>
  clear d15 b0 hb0 H15
  obtain ⟨rfl, bA, hbA⟩ := hcut
  generalize hg15 : (Chk.may c).getD 15 false = g15 at *
  cases g15
  · have HN : Hid (runNo (Chk.may c) 15 4 = 15) := runNo_at _ 15 4 0 (by show 15 + 4 ≤ 19; decide) (by decide) (fun j hj => absurd hj (Nat.not_lt_zero _)) hg15
    clear hg15
    go_wp2
    go_ret
    exact ⟨by rw [HN.out]; rfl, hbA⟩
  have G15 : Hid ((Chk.may c).getD 15 false = true) := hg15
  clear hg15
  go_upto_region 3 with fail
  have UC : Hid (∀ nn : World, _) := fun nn : World => units_any (c.np : Nat) 16384 1 64 (.inl rfl) (by omega) (by have := C.mp; omega) nn
  have d16 := (bA.cell 16).trans e16
  go_cut [3] (fun q wx => q = .bool (unOk (c.np : Nat) 16384 1 64) ∧ Blk wx w.heap.size cs 25 ∧ Below w.heap.size w wx)
  case first =>
    generalize unOk (c.np : Nat) 16384 1 64 = un at *
    have m16 := C.mp
    go_wp2_with (go_at_call 78; go_must (refine (UC.out _).mono ?_; rintro e w1 ⟨rfl, hw1⟩; obtain rfl := hw1.symm))
    go_meet
    exact ⟨rfl, bA, hbA⟩
  case rest =>
  clear d16 bA hbA UC
  obtain ⟨rfl, bA, hbA⟩ := hcut
  go_upto_region 4 with fail
  have d0 := (bA.cell 0).trans C.h0
  have d16 := (bA.cell 16).trans e16
  go_cut [29] (fun q wx => q = .bool (decide (c.fmt = 2) && decide (c.np ≤ 1048576)) ∧ Blk wx w.heap.size cs 25 ∧ Below w.heap.size w wx)
  case first =>
    generalize unOk (c.np : Nat) 16384 1 64 = un at *
    have m16 := C.mp
    by_cases f2 : c.fmt = 2
    · rw [f2] at d0
      have HD : Hid (decide (c.np ≤ 1048576) = decide ((c.np : Int) ≤ 1048576)) := by unfold Hid; rw [decide_eq_decide]; omega
      have HF : Hid (decide (c.fmt = 2) = true) := decide_eq_true f2
      go_wp2
      go_meet
      exact ⟨by rw [HF.out, HD.out]; rfl, bA, hbA⟩
    · have f2' : (c.fmt == 2) = false := by rw [beq_eq_false_iff_ne]; exact f2
      have HF : Hid (decide (c.fmt = 2) = false) := decide_eq_false f2
      go_wp2
      go_meet
      exact ⟨by rw [HF.out]; rfl, bA, hbA⟩
  case rest =>
  clear d16 d0 bA hbA
  obtain ⟨rfl, bA, hbA⟩ := hcut
  have HK : Hid ((Chk.may c).getD 16 false = (unOk (c.np : Nat) 16384 1 64 || ((decide (c.fmt = 2) && decide (c.np ≤ 1048576)) && (decide (0 < c.np) && decide (Chk.oddPart 64 c.np ≤ 7))))) := may_16 c
  have OC : Hid (∀ nn : World, _) := fun nn : World => rodd_any c.np (by have := C.mp; omega) nn
  go_upto_if 29 with fail
  have d16 := (bA.cell 16).trans e16
  go_cut [3] (fun q wx => q = .bool ((Chk.may c).getD 16 false) ∧ Blk wx w.heap.size cs 25 ∧ Below w.heap.size w wx)
  case first =>
    generalize unOk (c.np : Nat) 16384 1 64 = un at *
    generalize (decide (0 < c.np) && decide (Chk.oddPart 64 c.np ≤ 7)) = od at *
    have m16 := C.mp
    cases hq : (decide (c.fmt = 2) && decide (c.np ≤ 1048576))
    · rw [hq] at HK
      have HK2 : Hid ((Chk.may c).getD 16 false = un) := by unfold Hid; rw [HK.out]; simp
      clear HK hq OC
      go_wp2
      go_meet
      exact ⟨by rw [HK2.out], bA, hbA⟩
    · rw [hq] at HK
      have HK2 : Hid ((Chk.may c).getD 16 false = (un || od)) := by unfold Hid; rw [HK.out]; simp
      clear HK hq
      cases un
      · go_wp2_with (go_at_call 79; go_must (refine (OC.out _).mono ?_; rintro e w1 ⟨rfl, hw1⟩; obtain rfl := hw1.symm))
        go_meet
        exact ⟨by rw [HK2.out]; rfl, bA, hbA⟩
      · go_wp2_with (go_at_call 79; go_must (refine (OC.out _).mono ?_; rintro e w1 ⟨rfl, hw1⟩; obtain rfl := hw1.symm))
        go_meet
        exact ⟨by rw [HK2.out]; rfl, bA, hbA⟩
  case rest =>
  clear d16 bA hbA HK OC
  obtain ⟨rfl, bA, hbA⟩ := hcut
  have HG : Hid (∀ b : Bool, (Chk.may c).getD 16 false = b → (Chk.may c).getD 16 false = b) := fun _ h => h
  generalize hg16 : (Chk.may c).getD 16 false = g16 at *
  cases g16
  · have HN : Hid (runNo (Chk.may c) 15 4 = 16) := runNo_at _ 15 4 1 (by show 15 + 4 ≤ 19; decide) (by decide) (fun j hj => by rcases (show j = 0 by omega) with rfl; exact G15.out) hg16
    clear hg16 HG
    go_wp2
    go_ret
    exact ⟨by rw [HN.out]; rfl, hbA⟩
  have G16 : Hid ((Chk.may c).getD 16 false = true) := hg16
  clear hg16 HG
  go_upto_region 9 with fail
  have UC : Hid (∀ nn : World, _) := fun nn : World => units_any (c.nq : Nat) 8192 0 64 (.inr rfl) (by omega) (by have := C.mq; omega) nn
  have d17 := (bA.cell 17).trans e17
  go_cut [3] (fun q wx => q = .bool (unOk (c.nq : Nat) 8192 0 64) ∧ Blk wx w.heap.size cs 25 ∧ Below w.heap.size w wx)
  case first =>
    generalize unOk (c.nq : Nat) 8192 0 64 = un at *
    have m17 := C.mq
    go_wp2_with (go_at_call 78; go_must (refine (UC.out _).mono ?_; rintro e w1 ⟨rfl, hw1⟩; obtain rfl := hw1.symm))
    go_meet
    exact ⟨rfl, bA, hbA⟩
  case rest =>
  clear d17 bA hbA UC
  obtain ⟨rfl, bA, hbA⟩ := hcut
  go_upto_region 10 with fail
  have d0 := (bA.cell 0).trans C.h0
  have d17 := (bA.cell 17).trans e17
  go_cut [52] (fun q wx => q = .bool (decide (c.fmt = 2) && decide (c.nq ≤ 524288)) ∧ Blk wx w.heap.size cs 25 ∧ Below w.heap.size w wx)
  case first =>
    generalize unOk (c.nq : Nat) 8192 0 64 = un at *
    have m17 := C.mq
    by_cases f2 : c.fmt = 2
    · rw [f2] at d0
      have HD : Hid (decide (c.nq ≤ 524288) = decide ((c.nq : Int) ≤ 524288)) := by unfold Hid; rw [decide_eq_decide]; omega
      have HF : Hid (decide (c.fmt = 2) = true) := decide_eq_true f2
      go_wp2
      go_meet
      exact ⟨by rw [HF.out, HD.out]; rfl, bA, hbA⟩
    · have f2' : (c.fmt == 2) = false := by rw [beq_eq_false_iff_ne]; exact f2
      have HF : Hid (decide (c.fmt = 2) = false) := decide_eq_false f2
      go_wp2
      go_meet
      exact ⟨by rw [HF.out]; rfl, bA, hbA⟩
  case rest =>
  clear d17 d0 bA hbA
  obtain ⟨rfl, bA, hbA⟩ := hcut
  have HK : Hid ((Chk.may c).getD 17 false = (unOk (c.nq : Nat) 8192 0 64 || ((decide (c.fmt = 2) && decide (c.nq ≤ 524288)) && (decide (0 < c.nq) && decide (Chk.oddPart 64 c.nq ≤ 7))))) := may_17 c
  have OC : Hid (∀ nn : World, _) := fun nn : World => rodd_any c.nq (by have := C.mq; omega) nn
  go_upto_if 52 with fail
  have d17 := (bA.cell 17).trans e17
  go_cut [3] (fun q wx => q = .bool ((Chk.may c).getD 17 false) ∧ Blk wx w.heap.size cs 25 ∧ Below w.heap.size w wx)
  case first =>
    generalize unOk (c.nq : Nat) 8192 0 64 = un at *
    generalize (decide (0 < c.nq) && decide (Chk.oddPart 64 c.nq ≤ 7)) = od at *
    have m17 := C.mq
    cases hq : (decide (c.fmt = 2) && decide (c.nq ≤ 524288))
    · rw [hq] at HK
      have HK2 : Hid ((Chk.may c).getD 17 false = un) := by unfold Hid; rw [HK.out]; simp
      clear HK hq OC
      go_wp2
      go_meet
      exact ⟨by rw [HK2.out], bA, hbA⟩
    · rw [hq] at HK
      have HK2 : Hid ((Chk.may c).getD 17 false = (un || od)) := by unfold Hid; rw [HK.out]; simp
      clear HK hq
      cases un
      · go_wp2_with (go_at_call 79; go_must (refine (OC.out _).mono ?_; rintro e w1 ⟨rfl, hw1⟩; obtain rfl := hw1.symm))
        go_meet
        exact ⟨by rw [HK2.out]; rfl, bA, hbA⟩
      · go_wp2_with (go_at_call 79; go_must (refine (OC.out _).mono ?_; rintro e w1 ⟨rfl, hw1⟩; obtain rfl := hw1.symm))
        go_meet
        exact ⟨by rw [HK2.out]; rfl, bA, hbA⟩
  case rest =>
  clear d17 bA hbA HK OC
  obtain ⟨rfl, bA, hbA⟩ := hcut
  have HG : Hid (∀ b : Bool, (Chk.may c).getD 17 false = b → (Chk.may c).getD 17 false = b) := fun _ h => h
  generalize hg17 : (Chk.may c).getD 17 false = g17 at *
  cases g17
  · have HN : Hid (runNo (Chk.may c) 15 4 = 17) := runNo_at _ 15 4 2 (by show 15 + 4 ≤ 19; decide) (by decide) (fun j hj => by rcases (show j = 0 ∨ j = 1 by omega) with rfl | rfl; exact G15.out; exact G16.out) hg17
    clear hg17 HG
    go_wp2
    go_ret
    exact ⟨by rw [HN.out]; rfl, hbA⟩
  have G17 : Hid ((Chk.may c).getD 17 false = true) := hg17
  clear hg17 HG
  go_upto_region 15 with fail
  have d18 := (bA.cell 18).trans e18
  have RC0 := fun nn : World => rrest_any cs c C nn
  have hE : (Chk.may c).getD 18 false = decide (restE c = 0) := restE_ok c
  have mr := C.mr
  by_cases h0 : restE c = 0
  · have HN : Hid (runNo (Chk.may c) 15 4 = -1) := runNo_none _ 15 4 (by show 15 + 4 ≤ 19; decide) (fun j hj => by
      rcases (show j = 0 ∨ j = 1 ∨ j = 2 ∨ j = 3 by omega) with rfl | rfl | rfl | rfl
      · exact G15.out
      · exact G16.out
      · exact G17.out
      · show (Chk.may c).getD 18 false = true
        rw [hE]; exact decide_eq_true h0)
    rw [h0] at RC0
    have RC : Hid (∀ nn : World, _) := RC0
    clear RC0 h0 hE
    go_wp2_with (first
      | (refine wpList_load_mid rfl 25 _ rfl w.heap.size 0 rfl cs.toList _ bA.range Tryd.underlying25 rfl (by rw [Array.length_toList, C.size]; exact Tryd.infoCart) ?_; rw [Array.toArray_toList])
      | (go_at_call 29; go_must (refine (RC.out _).mono ?_; rintro e w1 ⟨rfl, hb1⟩)))
    go_ret
    exact ⟨by rw [HN.out]; rfl, hbA.trans (hb1.mono hbA.size)⟩
  · have HN : Hid (runNo (Chk.may c) 15 4 = 18) := runNo_at _ 15 4 3 (by show 15 + 4 ≤ 19; decide) (by decide) (fun j hj => by
      rcases (show j = 0 ∨ j = 1 ∨ j = 2 by omega) with rfl | rfl | rfl
      · exact G15.out
      · exact G16.out
      · exact G17.out) (by
      show (Chk.may c).getD 18 false = false
      rw [hE]; exact decide_eq_false h0)
    have q0 : (restE c != 0) = true := by simpa using h0
    have RC : Hid (∀ nn : World, _) := RC0
    clear RC0 hE
    generalize restE c = re at *
    go_wp2_with (first
      | (refine wpList_load_mid rfl 25 _ rfl w.heap.size 0 rfl cs.toList _ bA.range Tryd.underlying25 rfl (by rw [Array.length_toList, C.size]; exact Tryd.infoCart) ?_; rw [Array.toArray_toList])
      | (go_at_call 29; go_must (refine (RC.out _).mono ?_; rintro e w1 ⟨rfl, hb1⟩)))
    go_ret
    exact ⟨by rw [HN.out]; rfl, hbA.trans (hb1.mono hbA.size)⟩
end Go.Proofs.YtpdbndkckioamaaDoor
namespace Go.Proofs.YtpdbndkckioamaaDoor
open Go.RowKit
set_option maxRecDepth 100000 in
set_option maxHeartbeats 2000000 in
theorem numbers_any (cs : Array Value) (c : CF) (C : IsC cs c) (f : Nat) (hf3 : f < 3) (hfm : c.fmt = (f : Int)) (w : World) :
    Calls Tryd.prog 55 #[.agg cs] w fun e w' => e = .returned (.int .i64 (runNo (Chk.may c) 1 10)) ∧ Below w.heap.size w w' := by
  have hsz := C.size
  go_enter Tryd.func55, Tryd.ntmps55
  go_upto_region 1 with fail
  have hb0 : Below w.heap.size w (w.alloc (.cells cs 25)) := (Below.refl _ _).alloc (Nat.le_refl _) _
  have b0 : Blk (w.alloc (.cells cs 25)) w.heap.size cs 25 := Blk.new w cs _
  generalize w.alloc (.cells cs 25) = W at *
  have d1 := (b0.cell 1).trans C.h1
  have d2 := (b0.cell 2).trans C.h2
  have d6 := (b0.cell 6).trans C.h6
  have d7 := (b0.cell 7).trans C.h7
  have d8 := (b0.cell 8).trans C.h8
  have d9 := (b0.cell 9).trans C.h9
  have d10 := (b0.cell 10).trans C.h10
  clear hsz
  go_cut [3] (fun p wx => ∃ vb : Nat, p = .pointer (some ⟨vb, 0, none⟩) ∧ Blk wx w.heap.size cs 25 ∧ Blk wx vb #[.int .i64 0, .int .i64 c.map, .int .i64 c.sub, .int .i64 0, .int .i64 0, .int .i64 0, .int .i64 c.con, .int .i64 c.kind, .int .i64 c.tim, .int .i64 c.dev, .int .i64 c.misc] 109 ∧ Below w.heap.size w wx)
  case first =>
    go_wp2
    go_meet
    exact ⟨_, rfl, b0.old _, Blk.new _ _ _, hb0.alloc hb0.size _⟩
  case rest =>
  clear d1 d2 d6 d7 d8 d9 d10 b0 hb0
  obtain ⟨vb, rfl, bA, vA, hbA⟩ := hcut
  go_upto_region 3 with fail
  go_loopw [4] (fun x wr => ∃ i : Nat, 1 ≤ i ∧ i ≤ 11 ∧ x = .int .i64 i ∧ Hid (∀ j, 1 ≤ j → j < i → (Chk.may c).getD j false = true) ∧ Blk wr w.heap.size cs 25 ∧ Blk wr vb #[.int .i64 0, .int .i64 c.map, .int .i64 c.sub, .int .i64 0, .int .i64 0, .int .i64 0, .int .i64 c.con, .int .i64 c.kind, .int .i64 c.tim, .int .i64 c.dev, .int .i64 c.misc] 109 ∧ Below w.heap.size w wr) (fun x _ => 11 - (intOf x).toNat)
  case atStart => exact ⟨1, by omega, by omega, rfl, fun j h1 h2 => absurd h2 (by omega), bA, vA, hbA⟩
  case round =>
    clear bA vA hbA
    obtain ⟨i, h1, h11, rfl, hA, bB, vB, hbr⟩ := hrel
    by_cases h10 : i ≤ 10
    · have d0 := (bB.cell 0).trans C.h0
      rw [hfm] at d0
      have HV : Hid ((#[.int .i64 0, .int .i64 c.map, .int .i64 c.sub, .int .i64 0, .int .i64 0, .int .i64 0, .int .i64 c.con, .int .i64 c.kind, .int .i64 c.tim, .int .i64 c.dev, .int .i64 c.misc] : Array Value)[i]? = some (.int .i64 (vvN c i))) := by
        have : i = 1 ∨ i = 2 ∨ i = 3 ∨ i = 4 ∨ i = 5 ∨ i = 6 ∨ i = 7 ∨ i = 8 ∨ i = 9 ∨ i = 10 := by omega
        rcases this with rfl | rfl | rfl | rfl | rfl | rfl | rfl | rfl | rfl | rfl <;> rfl
      have TP : Hid (∀ W : World, Calls _ _ _ _ _) := fun W => top_any i f (by omega) hf3 W
      by_cases h7 : i = 7
      · have hH : hiN c i f = if c.con = 1 then topN 7 f else if c.con = 3 then (if 15 < topN 7 f then 15 else topN 7 f) else 0 := by unfold hiN; rw [if_pos h7]
        subst h7
        by_cases g1 : c.con = 1
        · have HH : Hid (hiN c 7 f = topN 7 f) := by unfold Hid; rw [hH, if_pos g1]
          have C6 := C.h6
          rw [g1] at C6
          generalize topN 7 f = t at *
          cases hok : (decide (0 ≤ vvN c 7) && decide (vvN c 7 ≤ t))
          · have HM : Hid ((Chk.may c).getD 7 false = false) := by unfold Hid; rw [may_num c f hf3 hfm 7 h1 h10, HH.out]; exact hok
            have HN : Hid (runNo (Chk.may c) 1 10 = ((7 : Nat) : Int)) := by
              have := runNo_at (Chk.may c) 1 10 6 (by show 1 + 10 ≤ 19; decide) (by omega) (fun j hj => by rw [Nat.add_comm]; exact hA.out (j + 1) (by omega) (by omega)) (by rw [show 1 + 6 = 7 from rfl]; exact HM.out)
              exact this.trans (by omega)
            have WC0 := rwithin_any (vvN c 7) 0 t
            rw [hok] at WC0
            have WC : Hid (∀ W : World, _) := WC0
            clear WC0 HM HH hok
            generalize vvN c 7 = v at *
            go_wp2_with (first
              | (go_at_call 75; go_must (refine (TP.out _).mono ?_; rintro e w1 ⟨rfl, hb1⟩; have b1 := bB.below bB.lt hb1; have v1 := vB.below vB.lt hb1; have d6 := (b1.cell 6).trans C6; have dv := (v1.cell 7).trans HV.out; have hbb := hbr.trans (hb1.mono hbr.size)))
              | (go_at_call 76; go_must (refine (WC.out _).mono ?_; rintro e w2 ⟨rfl, hw2⟩; obtain rfl := hw2.symm)))
            go_ret
            exact ⟨by rw [HN.out]; rfl, hbb⟩
          · have HM : Hid ((Chk.may c).getD 7 false = true) := by unfold Hid; rw [may_num c f hf3 hfm 7 h1 h10, HH.out]; exact hok
            have WC0 := rwithin_any (vvN c 7) 0 t
            rw [hok] at WC0
            have WC : Hid (∀ W : World, _) := WC0
            clear WC0 HH hok
            generalize vvN c 7 = v at *
            go_wp2_with (first
              | (go_at_call 75; go_must (refine (TP.out _).mono ?_; rintro e w1 ⟨rfl, hb1⟩; have b1 := bB.below bB.lt hb1; have v1 := vB.below vB.lt hb1; have d6 := (b1.cell 6).trans C6; have dv := (v1.cell 7).trans HV.out; have hbb := hbr.trans (hb1.mono hbr.size)))
              | (go_at_call 76; go_must (refine (WC.out _).mono ?_; rintro e w2 ⟨rfl, hw2⟩; obtain rfl := hw2.symm)))
            go_roundw
            case rel => exact ⟨7 + 1, by omega, by omega, by go_num, fun j hj1 hj => (Nat.lt_succ_iff_lt_or_eq.1 hj).elim (fun h => hA.out j hj1 h) (fun h => by rw [h]; exact HM.out), b1, v1, hbb⟩
            case measure => first | (simp [intOf]; done) | (simp [intOf]; omega)
        · by_cases g3 : c.con = 3
          · by_cases gt : 15 < topN 7 f
            · have HH : Hid (hiN c 7 f = 15) := by unfold Hid; rw [hH, if_neg g1, if_pos g3, if_pos gt]
              have C6 := C.h6
              rw [g3] at C6
              generalize topN 7 f = t at *
              cases hok : (decide (0 ≤ vvN c 7) && decide (vvN c 7 ≤ 15))
              · have HM : Hid ((Chk.may c).getD 7 false = false) := by unfold Hid; rw [may_num c f hf3 hfm 7 h1 h10, HH.out]; exact hok
                have HN : Hid (runNo (Chk.may c) 1 10 = ((7 : Nat) : Int)) := by
                  have := runNo_at (Chk.may c) 1 10 6 (by show 1 + 10 ≤ 19; decide) (by omega) (fun j hj => by rw [Nat.add_comm]; exact hA.out (j + 1) (by omega) (by omega)) (by rw [show 1 + 6 = 7 from rfl]; exact HM.out)
                  exact this.trans (by omega)
                have WC0 := rwithin_any (vvN c 7) 0 15
                rw [hok] at WC0
                have WC : Hid (∀ W : World, _) := WC0
                clear WC0 HM HH hok
                generalize vvN c 7 = v at *
                go_wp2_with (first
                  | (go_at_call 75; go_must (refine (TP.out _).mono ?_; rintro e w1 ⟨rfl, hb1⟩; have b1 := bB.below bB.lt hb1; have v1 := vB.below vB.lt hb1; have d6 := (b1.cell 6).trans C6; have dv := (v1.cell 7).trans HV.out; have hbb := hbr.trans (hb1.mono hbr.size)))
                  | (go_at_call 76; go_must (refine (WC.out _).mono ?_; rintro e w2 ⟨rfl, hw2⟩; obtain rfl := hw2.symm)))
                go_ret
                exact ⟨by rw [HN.out]; rfl, hbb⟩
              · have HM : Hid ((Chk.may c).getD 7 false = true) := by unfold Hid; rw [may_num c f hf3 hfm 7 h1 h10, HH.out]; exact hok
                have WC0 := rwithin_any (vvN c 7) 0 15
                rw [hok] at WC0
                have WC : Hid (∀ W : World, _) := WC0
                clear WC0 HH hok
                generalize vvN c 7 = v at *
                go_wp2_with (first
                  | (go_at_call 75; go_must (refine (TP.out _).mono ?_; rintro e w1 ⟨rfl, hb1⟩; have b1 := bB.below bB.lt hb1; have v1 := vB.below vB.lt hb1; have d6 := (b1.cell 6).trans C6; have dv := (v1.cell 7).trans HV.out; have hbb := hbr.trans (hb1.mono hbr.size)))
                  | (go_at_call 76; go_must (refine (WC.out _).mono ?_; rintro e w2 ⟨rfl, hw2⟩; obtain rfl := hw2.symm)))
                go_roundw
                case rel => exact ⟨7 + 1, by omega, by omega, by go_num, fun j hj1 hj => (Nat.lt_succ_iff_lt_or_eq.1 hj).elim (fun h => hA.out j hj1 h) (fun h => by rw [h]; exact HM.out), b1, v1, hbb⟩
                case measure => first | (simp [intOf]; done) | (simp [intOf]; omega)
            · have HH : Hid (hiN c 7 f = topN 7 f) := by unfold Hid; rw [hH, if_neg g1, if_pos g3, if_neg gt]
              have C6 := C.h6
              rw [g3] at C6
              generalize topN 7 f = t at *
              cases hok : (decide (0 ≤ vvN c 7) && decide (vvN c 7 ≤ t))
              · have HM : Hid ((Chk.may c).getD 7 false = false) := by unfold Hid; rw [may_num c f hf3 hfm 7 h1 h10, HH.out]; exact hok
                have HN : Hid (runNo (Chk.may c) 1 10 = ((7 : Nat) : Int)) := by
                  have := runNo_at (Chk.may c) 1 10 6 (by show 1 + 10 ≤ 19; decide) (by omega) (fun j hj => by rw [Nat.add_comm]; exact hA.out (j + 1) (by omega) (by omega)) (by rw [show 1 + 6 = 7 from rfl]; exact HM.out)
                  exact this.trans (by omega)
                have WC0 := rwithin_any (vvN c 7) 0 t
                rw [hok] at WC0
                have WC : Hid (∀ W : World, _) := WC0
                clear WC0 HM HH hok
                generalize vvN c 7 = v at *
                go_wp2_with (first
                  | (go_at_call 75; go_must (refine (TP.out _).mono ?_; rintro e w1 ⟨rfl, hb1⟩; have b1 := bB.below bB.lt hb1; have v1 := vB.below vB.lt hb1; have d6 := (b1.cell 6).trans C6; have dv := (v1.cell 7).trans HV.out; have hbb := hbr.trans (hb1.mono hbr.size)))
                  | (go_at_call 76; go_must (refine (WC.out _).mono ?_; rintro e w2 ⟨rfl, hw2⟩; obtain rfl := hw2.symm)))
                go_ret
                exact ⟨by rw [HN.out]; rfl, hbb⟩
              · have HM : Hid ((Chk.may c).getD 7 false = true) := by unfold Hid; rw [may_num c f hf3 hfm 7 h1 h10, HH.out]; exact hok
                have WC0 := rwithin_any (vvN c 7) 0 t
                rw [hok] at WC0
                have WC : Hid (∀ W : World, _) := WC0
                clear WC0 HH hok
                generalize vvN c 7 = v at *
                go_wp2_with (first
                  | (go_at_call 75; go_must (refine (TP.out _).mono ?_; rintro e w1 ⟨rfl, hb1⟩; have b1 := bB.below bB.lt hb1; have v1 := vB.below vB.lt hb1; have d6 := (b1.cell 6).trans C6; have dv := (v1.cell 7).trans HV.out; have hbb := hbr.trans (hb1.mono hbr.size)))
                  | (go_at_call 76; go_must (refine (WC.out _).mono ?_; rintro e w2 ⟨rfl, hw2⟩; obtain rfl := hw2.symm)))
                go_roundw
                case rel => exact ⟨7 + 1, by omega, by omega, by go_num, fun j hj1 hj => (Nat.lt_succ_iff_lt_or_eq.1 hj).elim (fun h => hA.out j hj1 h) (fun h => by rw [h]; exact HM.out), b1, v1, hbb⟩
                case measure => first | (simp [intOf]; done) | (simp [intOf]; omega)
          · have HH : Hid (hiN c 7 f = 0) := by unfold Hid; rw [hH, if_neg g1, if_neg g3]
            have C6 := C.h6
            have t1 : (c.con == 1) = false := by rw [beq_eq_false_iff_ne]; exact g1
            have t3 : (c.con == 3) = false := by rw [beq_eq_false_iff_ne]; exact g3
            have q1 : (c.con != 1) = true := by rw [bne, t1]; rfl
            have q3 : (c.con != 3) = true := by rw [bne, t3]; rfl
            clear hH
            generalize topN 7 f = t at *
            cases hok : (decide (0 ≤ vvN c 7) && decide (vvN c 7 ≤ 0))
            · have HM : Hid ((Chk.may c).getD 7 false = false) := by unfold Hid; rw [may_num c f hf3 hfm 7 h1 h10, HH.out]; exact hok
              have HN : Hid (runNo (Chk.may c) 1 10 = ((7 : Nat) : Int)) := by
                have := runNo_at (Chk.may c) 1 10 6 (by show 1 + 10 ≤ 19; decide) (by omega) (fun j hj => by rw [Nat.add_comm]; exact hA.out (j + 1) (by omega) (by omega)) (by rw [show 1 + 6 = 7 from rfl]; exact HM.out)
                exact this.trans (by omega)
              have WC0 := rwithin_any (vvN c 7) 0 0
              rw [hok] at WC0
              have WC : Hid (∀ W : World, _) := WC0
              clear WC0 HM HH hok
              generalize vvN c 7 = v at *
              go_wp2_with (first
                | (go_at_call 75; go_must (refine (TP.out _).mono ?_; rintro e w1 ⟨rfl, hb1⟩; have b1 := bB.below bB.lt hb1; have v1 := vB.below vB.lt hb1; have d6 := (b1.cell 6).trans C6; have dv := (v1.cell 7).trans HV.out; have hbb := hbr.trans (hb1.mono hbr.size)))
                | (go_at_call 76; go_must (refine (WC.out _).mono ?_; rintro e w2 ⟨rfl, hw2⟩; obtain rfl := hw2.symm)))
              go_ret
              exact ⟨by rw [HN.out]; rfl, hbb⟩
            · have HM : Hid ((Chk.may c).getD 7 false = true) := by unfold Hid; rw [may_num c f hf3 hfm 7 h1 h10, HH.out]; exact hok
              have WC0 := rwithin_any (vvN c 7) 0 0
              rw [hok] at WC0
              have WC : Hid (∀ W : World, _) := WC0
              clear WC0 HH hok
              generalize vvN c 7 = v at *
              go_wp2_with (first
                | (go_at_call 75; go_must (refine (TP.out _).mono ?_; rintro e w1 ⟨rfl, hb1⟩; have b1 := bB.below bB.lt hb1; have v1 := vB.below vB.lt hb1; have d6 := (b1.cell 6).trans C6; have dv := (v1.cell 7).trans HV.out; have hbb := hbr.trans (hb1.mono hbr.size)))
                | (go_at_call 76; go_must (refine (WC.out _).mono ?_; rintro e w2 ⟨rfl, hw2⟩; obtain rfl := hw2.symm)))
              go_roundw
              case rel => exact ⟨7 + 1, by omega, by omega, by go_num, fun j hj1 hj => (Nat.lt_succ_iff_lt_or_eq.1 hj).elim (fun h => hA.out j hj1 h) (fun h => by rw [h]; exact HM.out), b1, v1, hbb⟩
              case measure => first | (simp [intOf]; done) | (simp [intOf]; omega)
      · have HH : Hid (hiN c i f = topN i f) := by unfold Hid hiN; rw [if_neg h7]
        have t7 : ((i : Int) == 7) = false := by rw [beq_eq_false_iff_ne]; omega
        have C6 := C.h6
        generalize topN i f = t at *
        cases hok : (decide (0 ≤ vvN c i) && decide (vvN c i ≤ t))
        · have HM : Hid ((Chk.may c).getD i false = false) := by unfold Hid; rw [may_num c f hf3 hfm i h1 h10, HH.out]; exact hok
          have HN : Hid (runNo (Chk.may c) 1 10 = (i : Int)) := by
            have := runNo_at (Chk.may c) 1 10 (i - 1) (by show 1 + 10 ≤ 19; decide) (by omega) (fun j hj => by rw [Nat.add_comm]; exact hA.out (j + 1) (by omega) (by omega)) (by rw [show 1 + (i - 1) = i by omega]; exact HM.out)
            exact this.trans (by omega)
          have WC0 := rwithin_any (vvN c i) 0 t
          rw [hok] at WC0
          have WC : Hid (∀ W : World, _) := WC0
          clear WC0 HM HH hok
          generalize vvN c i = v at *
          go_wp2_with (first
            | (go_at_call 75; go_must (refine (TP.out _).mono ?_; rintro e w1 ⟨rfl, hb1⟩; have b1 := bB.below bB.lt hb1; have v1 := vB.below vB.lt hb1; have d6 := (b1.cell 6).trans C6; have dv := (v1.cell i).trans HV.out; have hbb := hbr.trans (hb1.mono hbr.size)))
            | (go_at_call 76; go_must (refine (WC.out _).mono ?_; rintro e w2 ⟨rfl, hw2⟩; obtain rfl := hw2.symm)))
          go_ret
          exact ⟨by rw [HN.out]; rfl, hbb⟩
        · have HM : Hid ((Chk.may c).getD i false = true) := by unfold Hid; rw [may_num c f hf3 hfm i h1 h10, HH.out]; exact hok
          have WC0 := rwithin_any (vvN c i) 0 t
          rw [hok] at WC0
          have WC : Hid (∀ W : World, _) := WC0
          clear WC0 HH hok
          generalize vvN c i = v at *
          go_wp2_with (first
            | (go_at_call 75; go_must (refine (TP.out _).mono ?_; rintro e w1 ⟨rfl, hb1⟩; have b1 := bB.below bB.lt hb1; have v1 := vB.below vB.lt hb1; have d6 := (b1.cell 6).trans C6; have dv := (v1.cell i).trans HV.out; have hbb := hbr.trans (hb1.mono hbr.size)))
            | (go_at_call 76; go_must (refine (WC.out _).mono ?_; rintro e w2 ⟨rfl, hw2⟩; obtain rfl := hw2.symm)))
          go_roundw
          case rel => exact ⟨i + 1, by omega, by omega, by go_num, fun j hj1 hj => (Nat.lt_succ_iff_lt_or_eq.1 hj).elim (fun h => hA.out j hj1 h) (fun h => by rw [h]; exact HM.out), b1, v1, hbb⟩
          case measure => first | (simp [intOf]; done) | (simp [intOf]; omega)
    · obtain rfl : i = 11 := by omega
      have HN : Hid (runNo (Chk.may c) 1 10 = -1) := runNo_none _ 1 10 (by show 1 + 10 ≤ 19; decide) (fun j hj => by rw [Nat.add_comm]; exact hA.out (j + 1) (by omega) (by omega))
      go_wp2
      go_ret
      exact ⟨by rw [HN.out]; rfl, hbr⟩
end Go.Proofs.YtpdbndkckioamaaDoor
namespace Go.Proofs.YtpdbndkckioamaaDoor
open Go.RowKit
theorem memories_any (cs : Array Value) (c : CF) (C : IsC cs c) (hf : c.fmt = 0 ∨ c.fmt = 1 ∨ c.fmt = 2) (hpr : -9223372036854775808 ≤ c.pr ∧ c.pr ≤ 9223372036854775807) (hpn : -9223372036854775808 ≤ c.pn ∧ c.pn ≤ 9223372036854775807) (w : World) :
    Calls Tryd.prog 56 #[.agg cs] w fun e w' => e = .returned (.int .i64 (runNo (Chk.may c) 11 4)) ∧ Below w.heap.size w w' := by
  by_cases h2 : c.fmt = 2
  · exact memories2_any cs c C h2 w
  · exact memories1_any cs c C (by omega) hpr hpn w
/-- The three runs' answers put together. -/
def three (a b d : Int) : Int := if a < 0 then (if b < 0 then d else b) else a
theorem firstNo_run (l : List Bool) : ∀ (a : Int), 0 ≤ a → (∀ m : List Bool, Chk.firstNo a (l ++ m) = if Chk.firstNo a l < 0 then Chk.firstNo (a + l.length) m else Chk.firstNo a l) ∧ (Chk.firstNo a l < 0 → Chk.firstNo a l = -1) := by
  induction l with
  | nil => intro a ha; exact ⟨fun m => by simp [Chk.firstNo], fun _ => rfl⟩
  | cons b l ih =>
    intro a ha
    cases b with
    | false => exact ⟨fun m => by rw [List.cons_append, Chk.firstNo, Chk.firstNo]; simp; omega, fun h => by rw [Chk.firstNo] at h; simp at h; omega⟩
    | true =>
      obtain ⟨h1, h2⟩ := ih (a + 1) (by omega)
      refine ⟨fun m => ?_, fun h => ?_⟩
      · rw [List.cons_append, Chk.firstNo, if_pos rfl, h1 m]
        have e : Chk.firstNo a (true :: l) = Chk.firstNo (a + 1) l := by rw [Chk.firstNo, if_pos rfl]
        rw [e, List.length_cons, show a + 1 + (l.length : Int) = a + ((l.length + 1 : Nat) : Int) by omega]
      · rw [Chk.firstNo, if_pos rfl] at h ⊢
        exact h2 h
theorem wrong_three (c : CF) : Chk.firstNo 0 (Chk.may c) = three (runNo (Chk.may c) 1 10) (runNo (Chk.may c) 11 4) (runNo (Chk.may c) 15 4) := by
  have hl := may_size c
  have h0 : (Chk.may c) = true :: (((Chk.may c).drop 1).take 10 ++ (((Chk.may c).drop 11).take 4 ++ ((Chk.may c).drop 15).take 4)) := rfl
  have l1 : (((Chk.may c).drop 1).take 10).length = 10 := rfl
  have l2 : (((Chk.may c).drop 11).take 4).length = 4 := rfl
  unfold runNo three
  rw [show Chk.firstNo 0 (Chk.may c) = Chk.firstNo 1 (((Chk.may c).drop 1).take 10 ++ (((Chk.may c).drop 11).take 4 ++ ((Chk.may c).drop 15).take 4)) from rfl]
  rw [(firstNo_run _ 1 (by decide)).1, l1]
  rw [show (1 : Int) + ((10 : Nat) : Int) = ((11 : Nat) : Int) from rfl, (firstNo_run _ ((11 : Nat) : Int) (by decide)).1, l2]
  rfl
set_option maxRecDepth 100000 in
set_option maxHeartbeats 1000000 in
theorem rcheck_any (cs : Array Value) (c : CF) (C : IsC cs c) (hpr : -9223372036854775808 ≤ c.pr ∧ c.pr ≤ 9223372036854775807) (hpn : -9223372036854775808 ≤ c.pn ∧ c.pn ≤ 9223372036854775807) (w : World) :
    Calls Tryd.prog 38 #[.agg cs] w fun e w' => e = .returned (.tuple #[.int .i64 (ckE c), .int .i64 (ckN c)]) ∧ Below w.heap.size w w' := by
  have hsz := C.size
  go_enter Tryd.func38, Tryd.ntmps38
  go_upto_region 1 with fail
  have hb0 : Below w.heap.size w (w.alloc (.cells cs 25)) := (Below.refl _ _).alloc (Nat.le_refl _) _
  have b0 : Blk (w.alloc (.cells cs 25)) w.heap.size cs 25 := Blk.new w cs _
  generalize w.alloc (.cells cs 25) = W at *
  have d0 := (b0.cell 0).trans C.h0
  clear hsz
  have HE : Hid (ckE c = if 0 ≤ Chk.wrong c then 17 else if 2097152 < Chk.imageLen c then 1 else 0) := rfl
  have HN : Hid (ckN c = if 0 ≤ Chk.wrong c then Chk.wrong c else if 2097152 < Chk.imageLen c then 18 else 0) := rfl
  by_cases hl : c.fmt < 0
  · have HW : Chk.wrong c = 0 := by unfold Chk.wrong Chk.within; rw [decide_eq_false (show ¬ 0 ≤ c.fmt by omega)]; rfl
    rw [HW, if_pos (by decide)] at HE HN
    clear HW
    go_wp2
    go_ret2
    exact ⟨by rw [HE.out, HN.out]; rfl, hb0⟩
  by_cases hh : 2 < c.fmt
  · have HW : Chk.wrong c = 0 := by unfold Chk.wrong Chk.within; rw [decide_eq_false (show ¬ c.fmt ≤ 2 by omega), Bool.and_false]; rfl
    rw [HW, if_pos (by decide)] at HE HN
    clear HW
    go_wp2
    go_ret2
    exact ⟨by rw [HE.out, HN.out]; rfl, hb0⟩
  have hf : Hid (c.fmt = 0 ∨ c.fmt = 1 ∨ c.fmt = 2) := by unfold Hid; omega
  have HW : Chk.wrong c = three (runNo (Chk.may c) 1 10) (runNo (Chk.may c) 11 4) (runNo (Chk.may c) 15 4) := by
    unfold Chk.wrong; rw [if_pos (by unfold Chk.within; simp; omega)]; exact wrong_three c
  have NC : Hid (∀ W : World, _) := fun W : World => numbers_any cs c C c.fmt.toNat (by have := hf.out; omega) (by have := hf.out; omega) W
  have MC : Hid (∀ W : World, _) := fun W : World => memories_any cs c C hf.out hpr hpn W
  have LC : Hid (∀ W : World, _) := fun W : World => lists_any cs c C W
  go_upto_region 3 with fail
  clear d0 hl hh hf
  rw [HW] at HE HN
  clear HW
  generalize runNo (Chk.may c) 1 10 = ra at *
  generalize runNo (Chk.may c) 11 4 = rb at *
  generalize runNo (Chk.may c) 15 4 = rc at *
  go_cut [4] (fun q wx => q = .int .i64 ra ∧ Blk wx w.heap.size cs 25 ∧ Below w.heap.size w wx)
  case first =>
    go_wp2_with (first
      | (refine wpList_load_mid rfl 25 _ rfl w.heap.size 0 rfl cs.toList _ b0.range Tryd.underlying25 rfl (by rw [Array.length_toList, C.size]; exact Tryd.infoCart) ?_; rw [Array.toArray_toList])
      | (go_at_call 55; go_must (refine (NC.out _).mono ?_; rintro e w1 ⟨rfl, hb1⟩)))
    go_meet
    exact ⟨rfl, b0.below b0.lt hb1, hb0.trans (hb1.mono hb0.size)⟩
  case rest =>
  clear NC b0 hb0
  obtain ⟨rfl, bA, hbA⟩ := hcut
  go_upto_if 16 with fail
  go_cut [4] (fun q wx => q = .int .i64 (if ra < 0 then rb else ra) ∧ Blk wx w.heap.size cs 25 ∧ Below w.heap.size w wx)
  case first =>
    by_cases h : ra < 0
    · have e4 : (if ra < 0 then rb else ra) = rb := if_pos h
      have E4 : Hid _ := e4
      clear e4
      go_wp2_with (first
        | (refine wpList_load_mid rfl 25 _ rfl w.heap.size 0 rfl cs.toList _ bA.range Tryd.underlying25 rfl (by rw [Array.length_toList, C.size]; exact Tryd.infoCart) ?_; rw [Array.toArray_toList])
        | (go_at_call 56; go_must (refine (MC.out _).mono ?_; rintro e w1 ⟨rfl, hb1⟩)))
      go_meet
      exact ⟨by rw [E4.out], bA.below bA.lt hb1, hbA.trans (hb1.mono hbA.size)⟩
    · have e4 : (if ra < 0 then rb else ra) = ra := if_neg h
      have E4 : Hid _ := e4
      clear e4
      go_wp2
      go_meet
      exact ⟨by rw [E4.out], bA, hbA⟩
  case rest =>
  clear MC bA hbA
  obtain ⟨rfl, bA, hbA⟩ := hcut
  have H3 : Hid (three ra rb rc = if (if ra < 0 then rb else ra) < 0 then rc else (if ra < 0 then rb else ra)) := by
    unfold Hid three
    by_cases h : ra < 0
    · rw [if_pos h, if_pos h]
    · rw [if_neg h, if_neg h, if_neg h]
  generalize (if ra < 0 then rb else ra) = rd at *
  go_upto_if 20 with fail
  go_cut [4] (fun q wx => q = .int .i64 (three ra rb rc) ∧ Blk wx w.heap.size cs 25 ∧ Below w.heap.size w wx)
  case first =>
    generalize three ra rb rc = rt at *
    by_cases h : rd < 0
    · rw [if_pos h] at H3
      obtain rfl := H3.out
      go_wp2_with (first
        | (refine wpList_load_mid rfl 25 _ rfl w.heap.size 0 rfl cs.toList _ bA.range Tryd.underlying25 rfl (by rw [Array.length_toList, C.size]; exact Tryd.infoCart) ?_; rw [Array.toArray_toList])
        | (go_at_call 57; go_must (refine (LC.out _).mono ?_; rintro e w1 ⟨rfl, hb1⟩)))
      go_meet
      exact ⟨rfl, bA.below bA.lt hb1, hbA.trans (hb1.mono hbA.size)⟩
    · rw [if_neg h] at H3
      obtain rfl := H3.out
      go_wp2
      go_meet
      exact ⟨rfl, bA, hbA⟩
  case rest =>
  clear LC bA hbA H3
  obtain ⟨rfl, bA, hbA⟩ := hcut
  generalize three ra rb rc = rt at *
  by_cases h0 : 0 ≤ rt
  · rw [if_pos h0] at HE HN
    go_wp2
    go_ret2
    exact ⟨by rw [HE.out, HN.out]; rfl, hbA⟩
  rw [if_neg h0] at HE HN
  obtain ⟨a15, k15, e15⟩ := C.h15
  obtain ⟨a16, k16, e16⟩ := C.h16
  obtain ⟨a17, k17, e17⟩ := C.h17
  obtain ⟨a18, k18, e18⟩ := C.h18
  have d15 := (bA.cell 15).trans e15
  have d16 := (bA.cell 16).trans e16
  have d17 := (bA.cell 17).trans e17
  have d18 := (bA.cell 18).trans e18
  have mt := C.mt
  have mp := C.mp
  have mq := C.mq
  have mr := C.mr
  have HI : Hid (Chk.imageLen c = 16 + c.nt + c.np + c.nq + c.nr) := rfl
  by_cases h1 : 2097152 < Chk.imageLen c
  · rw [if_pos h1] at HE HN
    have h1' : (2097152 : Int) < 16 + (c.nt : Int) + (c.np : Int) + (c.nq : Int) + (c.nr : Int) := by rw [HI.out] at h1; omega
    clear h1
    go_wp2
    go_ret2
    exact ⟨by rw [HE.out, HN.out]; rfl, hbA⟩
  · rw [if_neg h1] at HE HN
    have h1' : ¬ (2097152 : Int) < 16 + (c.nt : Int) + (c.np : Int) + (c.nq : Int) + (c.nr : Int) := by rw [HI.out] at h1; omega
    clear h1
    go_wp2
    go_ret2
    exact ⟨by rw [HE.out, HN.out]; rfl, hbA⟩
end Go.Proofs.YtpdbndkckioamaaDoor
