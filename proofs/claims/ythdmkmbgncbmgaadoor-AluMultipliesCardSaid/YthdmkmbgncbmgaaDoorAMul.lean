/-
  The law AluMultiplies returns true for every three bytes: the shift-and-add program; condition: the two tables lie in their variables.
-/
import Derived.Test.YthdmkmbgncbmgaaDoorAWrap
import Derived.Deep.CutBlock
import Derived.Deep.DeepCutAuto
namespace Go.Proofs.YthdmkmbgncbmgaaDoor
open Go.RowKit
theorem wf8 {n : Int} (h : (Lit.int .u8 n).wf = true) : 0 ≤ n ∧ n ≤ 255 := by
  simp [Lit.wf, IntKind.min, IntKind.max, IntKind.signed, IntKind.bits] at h
  omega
/-- A, the low byte and C as one number, behind k rounds. -/
def mm (a b : Int) : Nat → Int
  | 0 => a
  | k + 1 => (mm a b k + 512 * b * (mm a b k % 2)) / 2
theorem mm_8 (a b : Int) (a0 : 0 ≤ a) (a1 : a ≤ 255) : mm a b 8 = 2 * (a * b) := by
  have e0 : mm a b 0 = 0 * b * 512 + a / 1 := by simp [mm]
  have e1 : mm a b 1 = a % 2 * b * 256 + a / 2 := by
    show (mm a b 0 + 512 * b * (mm a b 0 % 2)) / 2 = _
    rw [e0]
    have hp : (0) * b * 512 % 2 = 0 := by
      generalize (0) * b = p; omega
    have hq : ((0) * b * 512 + a / 1) % 2 = a / 1 % 2 := by omega
    rw [hq]
    have hm : a % 2 = 0 + 1 * (a / 1 % 2) := by omega
    have hb : a / 1 % 2 = 0 ∨ a / 1 % 2 = 1 := by omega
    rcases hb with hb | hb
    · rw [hm, hb, Int.mul_zero, Int.mul_zero, Int.add_zero, Int.add_zero]
      generalize (0) * b = p
      omega
    · rw [hm, hb, Int.mul_one, Int.mul_one, Int.add_mul]
      generalize (0) * b = p
      omega
  have e2 : mm a b 2 = a % 4 * b * 128 + a / 4 := by
    show (mm a b 1 + 512 * b * (mm a b 1 % 2)) / 2 = _
    rw [e1]
    have hp : (a % 2) * b * 256 % 2 = 0 := by
      generalize (a % 2) * b = p; omega
    have hq : ((a % 2) * b * 256 + a / 2) % 2 = a / 2 % 2 := by omega
    rw [hq]
    have hm : a % 4 = a % 2 + 2 * (a / 2 % 2) := by omega
    have hb : a / 2 % 2 = 0 ∨ a / 2 % 2 = 1 := by omega
    rcases hb with hb | hb
    · rw [hm, hb, Int.mul_zero, Int.mul_zero, Int.add_zero, Int.add_zero]
      generalize (a % 2) * b = p
      omega
    · rw [hm, hb, Int.mul_one, Int.mul_one, Int.add_mul]
      generalize (a % 2) * b = p
      omega
  have e3 : mm a b 3 = a % 8 * b * 64 + a / 8 := by
    show (mm a b 2 + 512 * b * (mm a b 2 % 2)) / 2 = _
    rw [e2]
    have hp : (a % 4) * b * 128 % 2 = 0 := by
      generalize (a % 4) * b = p; omega
    have hq : ((a % 4) * b * 128 + a / 4) % 2 = a / 4 % 2 := by omega
    rw [hq]
    have hm : a % 8 = a % 4 + 4 * (a / 4 % 2) := by omega
    have hb : a / 4 % 2 = 0 ∨ a / 4 % 2 = 1 := by omega
    rcases hb with hb | hb
    · rw [hm, hb, Int.mul_zero, Int.mul_zero, Int.add_zero, Int.add_zero]
      generalize (a % 4) * b = p
      omega
    · rw [hm, hb, Int.mul_one, Int.mul_one, Int.add_mul]
      generalize (a % 4) * b = p
      omega
  have e4 : mm a b 4 = a % 16 * b * 32 + a / 16 := by
    show (mm a b 3 + 512 * b * (mm a b 3 % 2)) / 2 = _
    rw [e3]
    have hp : (a % 8) * b * 64 % 2 = 0 := by
      generalize (a % 8) * b = p; omega
    have hq : ((a % 8) * b * 64 + a / 8) % 2 = a / 8 % 2 := by omega
    rw [hq]
    have hm : a % 16 = a % 8 + 8 * (a / 8 % 2) := by omega
    have hb : a / 8 % 2 = 0 ∨ a / 8 % 2 = 1 := by omega
    rcases hb with hb | hb
    · rw [hm, hb, Int.mul_zero, Int.mul_zero, Int.add_zero, Int.add_zero]
      generalize (a % 8) * b = p
      omega
    · rw [hm, hb, Int.mul_one, Int.mul_one, Int.add_mul]
      generalize (a % 8) * b = p
      omega
  have e5 : mm a b 5 = a % 32 * b * 16 + a / 32 := by
    show (mm a b 4 + 512 * b * (mm a b 4 % 2)) / 2 = _
    rw [e4]
    have hp : (a % 16) * b * 32 % 2 = 0 := by
      generalize (a % 16) * b = p; omega
    have hq : ((a % 16) * b * 32 + a / 16) % 2 = a / 16 % 2 := by omega
    rw [hq]
    have hm : a % 32 = a % 16 + 16 * (a / 16 % 2) := by omega
    have hb : a / 16 % 2 = 0 ∨ a / 16 % 2 = 1 := by omega
    rcases hb with hb | hb
    · rw [hm, hb, Int.mul_zero, Int.mul_zero, Int.add_zero, Int.add_zero]
      generalize (a % 16) * b = p
      omega
    · rw [hm, hb, Int.mul_one, Int.mul_one, Int.add_mul]
      generalize (a % 16) * b = p
      omega
  have e6 : mm a b 6 = a % 64 * b * 8 + a / 64 := by
    show (mm a b 5 + 512 * b * (mm a b 5 % 2)) / 2 = _
    rw [e5]
    have hp : (a % 32) * b * 16 % 2 = 0 := by
      generalize (a % 32) * b = p; omega
    have hq : ((a % 32) * b * 16 + a / 32) % 2 = a / 32 % 2 := by omega
    rw [hq]
    have hm : a % 64 = a % 32 + 32 * (a / 32 % 2) := by omega
    have hb : a / 32 % 2 = 0 ∨ a / 32 % 2 = 1 := by omega
    rcases hb with hb | hb
    · rw [hm, hb, Int.mul_zero, Int.mul_zero, Int.add_zero, Int.add_zero]
      generalize (a % 32) * b = p
      omega
    · rw [hm, hb, Int.mul_one, Int.mul_one, Int.add_mul]
      generalize (a % 32) * b = p
      omega
  have e7 : mm a b 7 = a % 128 * b * 4 + a / 128 := by
    show (mm a b 6 + 512 * b * (mm a b 6 % 2)) / 2 = _
    rw [e6]
    have hp : (a % 64) * b * 8 % 2 = 0 := by
      generalize (a % 64) * b = p; omega
    have hq : ((a % 64) * b * 8 + a / 64) % 2 = a / 64 % 2 := by omega
    rw [hq]
    have hm : a % 128 = a % 64 + 64 * (a / 64 % 2) := by omega
    have hb : a / 64 % 2 = 0 ∨ a / 64 % 2 = 1 := by omega
    rcases hb with hb | hb
    · rw [hm, hb, Int.mul_zero, Int.mul_zero, Int.add_zero, Int.add_zero]
      generalize (a % 64) * b = p
      omega
    · rw [hm, hb, Int.mul_one, Int.mul_one, Int.add_mul]
      generalize (a % 64) * b = p
      omega
  have e8 : mm a b 8 = a % 256 * b * 2 + a / 256 := by
    show (mm a b 7 + 512 * b * (mm a b 7 % 2)) / 2 = _
    rw [e7]
    have hp : (a % 128) * b * 4 % 2 = 0 := by
      generalize (a % 128) * b = p; omega
    have hq : ((a % 128) * b * 4 + a / 128) % 2 = a / 128 % 2 := by omega
    rw [hq]
    have hm : a % 256 = a % 128 + 128 * (a / 128 % 2) := by omega
    have hb : a / 128 % 2 = 0 ∨ a / 128 % 2 = 1 := by omega
    rcases hb with hb | hb
    · rw [hm, hb, Int.mul_zero, Int.mul_zero, Int.add_zero, Int.add_zero]
      generalize (a % 128) * b = p
      omega
    · rw [hm, hb, Int.mul_one, Int.mul_one, Int.add_mul]
      generalize (a % 128) * b = p
      omega
  rw [e8]
  have h1 : a % 256 = a := by omega
  have h2 : a / 256 = 0 := by omega
  rw [h1, h2]
  omega
theorem ci_beq (x : Int) : ci (x % 2 == 1) = x % 2 := by
  have h : x % 2 = 0 ∨ x % 2 = 1 := by omega
  rcases h with h | h <;> rw [h] <;> rfl
theorem ci_dec (x : Int) (x0 : 0 ≤ x) (x1 : x ≤ 511) : ci (decide (255 < x)) = x / 256 := by
  by_cases h : 255 < x
  · rw [decide_eq_true h, show ci true = 1 from rfl]; omega
  · rw [decide_eq_false h, show ci false = 0 from rfl]; omega
theorem mul_step {A L a b : Int} {k : Nat} {g g1 g2 g3 : Bool} (T : Int) (hI : A * 512 + L * 2 + ci g = mm a b k) (hT : T = A + b * ci g) (h1 : ci g1 = T / 256) (h2 : ci g2 = T % 256 % 2) (h3 : ci g3 = L % 2) :
    (T % 256 / 2 + 128 * ci g1) * 512 + (L / 2 + 128 * ci g2) * 2 + ci g3 = mm a b (k + 1) := by
  show _ = (mm a b k + 512 * b * (mm a b k % 2)) / 2
  rw [← hI, h1, h2, h3]
  cases g
  · rw [show ci false = 0 from rfl] at hT ⊢
    rw [show (A * 512 + L * 2 + 0) % 2 = 0 by omega, Int.mul_zero]
    omega
  · rw [show ci true = 1 from rfl] at hT ⊢
    rw [show (A * 512 + L * 2 + 1) % 2 = 1 by omega, Int.mul_one]
    omega
set_option maxHeartbeats 8000000 in
theorem law_aluMultiplies (a0 a1 : Int) (F : Fl) (w : World) (w0 : (Lit.int .u8 a0).wf = true) (w1 : (Lit.int .u8 a1).wf = true) (T : Tabs w) :
    Calls Tryd.prog 6 #[.int .u8 a0, .int .u8 a1, .int .u8 (F.val : Nat)] w fun e w' => e = .returned (.bool true) ∧ Below w.heap.size w w' := by
  obtain ⟨n0, n1⟩ := wf8 w0
  obtain ⟨m0, m1⟩ := wf8 w1
  have H8 : Hid _ := mm_8 a0 a1 n0 n1
  clear w0 w1
  have HT : Hid _ := T
  go_enter Tryd.func6, Tryd.ntmps6
  go_upto_region 1 with fail
  go_cut [7] (fun q wx => ∃ (b : Nat) (G' : Fl), q = .pointer (some ⟨b, 0, none⟩) ∧ w.heap.size ≤ b ∧ G'.d = false ∧ Blk wx b #[.int .u8 (0), .int .u8 (0), .int .u8 0, .int .u8 0, .int .u8 (G'.val : Nat), .int .u8 (0)] ∧ Below w.heap.size w wx)
  case first =>
    go_wp2_with (go_at_call 9; refine (wCLD _ _ _ _ _ _ _ _ T.s).mono ?_; rintro e w1 ⟨G', e1, e2, rfl, hb1⟩)
    go_meet
    exact ⟨_, G', rfl, hb1.size, e2, by first | exact Blk.new _ _ | exact (Blk.new _ _).set6 _ _ _ _ _ _, by first | exact hb1.alloc hb1.size _ | exact below_set6 (hb1.alloc hb1.size _) hb1.size _ _ _ _ _ _⟩
  case rest =>
    clear T
    obtain ⟨b, G, rfl, hbB, hd, hB, hw⟩ := hcut
    have hcell := hB.cell
    have hfree := hB.free
    have hlt := hB.lt
    go_upto_region 2 with fail
    go_cut [] (fun wx => ∃ G' : Fl, G'.c = G.c ∧ G'.d = false ∧ Blk wx b #[.int .u8 (0), .int .u8 (8), .int .u8 0, .int .u8 0, .int .u8 (G'.val : Nat), .int .u8 (8)] ∧ Below w.heap.size w wx)
    case first =>
      go_wp2_with (go_at_call 9; refine (wLDX _ _ _ _ _ _ _ _).mono ?_; rintro e w1 ⟨G', e1, e2, rfl, hb1⟩; have hk1 := hB.below hlt hb1; have hcell1 := hk1.cell; have hfree1 := hk1.free)
      go_meet
      exact ⟨G', e1, e2.trans hd, hk1.set6 _ _ _ _ _ _, below_set6 (hw.trans (hb1.mono hw.size)) hbB _ _ _ _ _ _⟩
    case rest =>
    clear hB hw hcell hfree hlt
    obtain ⟨G1, c_G1, d_G1, hB, hw⟩ := hcut
    have K_G1 : Hid _ := c_G1
    clear c_G1
    have hcell := hB.cell
    have hfree := hB.free
    have hlt := hB.lt
    go_upto_region 3 with fail
    go_cut [] (fun wx => ∃ G' : Fl, G'.c = G.c ∧ G'.d = false ∧ Blk wx b #[.int .u8 (0), .int .u8 (8), .int .u8 0, .int .u8 0, .int .u8 (G'.val : Nat), .int .u8 (0)] ∧ Below w.heap.size w wx)
    case first =>
      go_wp2_with (go_at_call 9; refine (wLDA _ _ _ _ _ _ _ _).mono ?_; rintro e w1 ⟨G', e1, e2, rfl, hb1⟩; have hk1 := hB.below hlt hb1; have hcell1 := hk1.cell; have hfree1 := hk1.free)
      go_meet
      exact ⟨G', e1.trans K_G1.out, e2.trans d_G1, hk1.set6 _ _ _ _ _ _, below_set6 (hw.trans (hb1.mono hw.size)) hbB _ _ _ _ _ _⟩
    case rest =>
    clear hB hw hcell hfree hlt
    obtain ⟨G2, c_G2, d_G2, hB, hw⟩ := hcut
    have K_G2 : Hid _ := c_G2
    clear c_G2
    have hcell := hB.cell
    have hfree := hB.free
    have hlt := hB.lt
    go_upto_region 4 with fail
    go_cut [] (fun wx => ∃ G' : Fl, G'.c = (a0 % 2 == 1) ∧ G'.d = false ∧ Blk wx b #[.int .u8 (0), .int .u8 (8), .int .u8 0, .int .u8 0, .int .u8 (G'.val : Nat), .int .u8 (a0 / 2)] ∧ Below w.heap.size w wx)
    case first =>
      go_wp2_with (go_at_call 9; refine (wLSR _ _ _ _ _ _ _ _ (by omega) (by omega)).mono ?_; rintro e w1 ⟨G', e1, e2, rfl, hb1⟩; have hk1 := hB.below hlt hb1; have hcell1 := hk1.cell; have hfree1 := hk1.free)
      go_meet
      exact ⟨G', e1, e2.trans d_G2, hk1.set6 _ _ _ _ _ _, below_set6 (hw.trans (hb1.mono hw.size)) hbB _ _ _ _ _ _⟩
    case rest =>
    clear hB hw hcell hfree hlt
    obtain ⟨G3, c_G3, d_G3, hB, hw⟩ := hcut
    have K_G3 : Hid _ := c_G3
    clear c_G3
    have hcell := hB.cell
    have hfree := hB.free
    have hlt := hB.lt
    go_wp2
    clear hcell hfree hlt
    go_loopw [8, 9] (fun v i wr => ∃ (k : Nat) (A M L X : Int) (G : Fl), k ≤ 8 ∧ i = .int .i64 k ∧ v = .int .u8 L ∧ 0 ≤ A ∧ A ≤ 255 ∧ 0 ≤ L ∧ L ≤ 255 ∧ Hid (X = 8 - k) ∧ G.d = false ∧ Hid (A * 512 + L * 2 + ci G.c = mm a0 a1 k) ∧ Blk wr b #[.int .u8 (A), .int .u8 (X), .int .u8 0, .int .u8 0, .int .u8 (G.val : Nat), .int .u8 (M)] ∧ Below w.heap.size w wr) (fun _ i _ => 8 - (intOf i).toNat)
    case atStart =>
      have q : ci G3.c = a0 % 2 := by
        rw [K_G3.out]
        have h : a0 % 2 = 0 ∨ a0 % 2 = 1 := by omega
        rcases h with h | h <;> rw [h] <;> rfl
      exact ⟨0, 0, a0 / 2, a0 / 2, 8, G3, by omega, rfl, rfl, by omega, by omega, by omega, by omega, rfl, d_G3, by unfold Hid; show 0 * 512 + a0 / 2 * 2 + ci G3.c = a0; omega, hB, hw⟩
    case round =>
      clear hB hw d_G1 d_G2 d_G3 K_G1 K_G2 K_G3 hd
      obtain ⟨k, A, M, L, X, G, hk, rfl, rfl, A0, A1, L0, L1, HX, hd, HI, hB, hw⟩ := hrel
      have hcell := hB.cell
      have hfree := hB.free
      have hlt := hB.lt
      by_cases hk8 : k = 8
      · subst hk8
        have hi := HI.out
        rw [H8.out] at hi
        have hb := ci_bd G.c
        have hfin : 256 * A + L = a0 * a1 := by omega
        clear HI hi
        have hmul : 0 ≤ a0 * a1 ∧ a0 * a1 ≤ 65535 := by omega
        obtain ⟨p0, p1⟩ := hmul
        go_wp2
        go_ret
        exact ⟨rfl, hw⟩
      · have h8 : (k : Int) < 8 := by omega
        have HZ : Hid ((X - 1) % 256 = 8 - (k + 1 : Nat)) := by have hx := HX.out; unfold Hid; omega
        cases hc : G.c
        all_goals (have HC : Hid _ := hc; clear hc)
        · skip
          go_upto_region 12 with (go_at_call 14; refine (taken_any _ _ _ (HT.out.on hw)).mono ?_; rintro e w9 ⟨rfl, rfl⟩; rw [tk_bcs, HC.out])
          go_cut [] (fun wx => ∃ G' : Fl, G'.c = (A % 2 == 1) ∧ G'.d = false ∧ Blk wx b #[.int .u8 (A / 2 + 128 * ci G.c), .int .u8 (X), .int .u8 0, .int .u8 0, .int .u8 (G'.val : Nat), .int .u8 (M)] ∧ Below w.heap.size w wx)
          case first =>
            go_wp2_with (go_at_call 12; refine (wAccROR _ _ _ _ _ _ _ (by omega) (by omega)).mono ?_; rintro e w1 ⟨G', e1, e2, rfl, hb1⟩; have hk1 := hB.below hlt hb1; have hcell1 := hk1.cell; have hfree1 := hk1.free)
            go_meet
            exact ⟨G', e1, e2.trans hd, hk1.set6 _ _ _ _ _ _, below_set6 (hw.trans (hb1.mono hw.size)) hbB _ _ _ _ _ _⟩
          case rest =>
          clear hB hw hcell hfree hlt
          obtain ⟨G3, c_G3, d_G3, hB, hw⟩ := hcut
          have K_G3 : Hid _ := c_G3
          clear c_G3
          have hcell := hB.cell
          have hfree := hB.free
          have hlt := hB.lt
          go_upto_region 13 with fail
          go_cut [] (fun wx => ∃ G' : Fl, G'.c = (L % 2 == 1) ∧ G'.d = false ∧ Blk wx b #[.int .u8 (A / 2 + 128 * ci G.c), .int .u8 (X), .int .u8 0, .int .u8 0, .int .u8 (G'.val : Nat), .int .u8 (L / 2 + 128 * ci G3.c)] ∧ Below w.heap.size w wx)
          case first =>
            go_wp2_with (go_at_call 9; refine (wROR _ _ _ _ _ _ _ _ (by omega) (by omega)).mono ?_; rintro e w1 ⟨G', e1, e2, rfl, hb1⟩; have hk1 := hB.below hlt hb1; have hcell1 := hk1.cell; have hfree1 := hk1.free)
            go_meet
            exact ⟨G', e1, e2.trans d_G3, hk1.set6 _ _ _ _ _ _, below_set6 (hw.trans (hb1.mono hw.size)) hbB _ _ _ _ _ _⟩
          case rest =>
          clear hB hw hcell hfree hlt
          obtain ⟨G4, c_G4, d_G4, hB, hw⟩ := hcut
          have K_G4 : Hid _ := c_G4
          clear c_G4
          have hcell := hB.cell
          have hfree := hB.free
          have hlt := hB.lt
          go_upto_region 15 with fail
          go_cut [] (fun wx => ∃ G' : Fl, G'.c = G4.c ∧ G'.d = false ∧ G'.z = ((X - 1) % 256 == 0) ∧ Blk wx b #[.int .u8 (A / 2 + 128 * ci G.c), .int .u8 ((X - 1) % 256), .int .u8 0, .int .u8 0, .int .u8 (G'.val : Nat), .int .u8 (0)] ∧ Below w.heap.size w wx)
          case first =>
            go_wp2_with (go_at_call 9; refine (wDEX _ _ _ _ _ _ _ _).mono ?_; rintro e w1 ⟨G', e1, e2, e3, rfl, hb1⟩; have hk1 := hB.below hlt hb1; have hcell1 := hk1.cell; have hfree1 := hk1.free)
            go_meet
            exact ⟨G', e1, e2.trans d_G4, e3, hk1.set6 _ _ _ _ _ _, below_set6 (hw.trans (hb1.mono hw.size)) hbB _ _ _ _ _ _⟩
          case rest =>
          clear hB hw hcell hfree hlt
          obtain ⟨G5, c_G5, d_G5, z_G5, hB, hw⟩ := hcut
          have K_G5 : Hid _ := c_G5
          clear c_G5
          have hcell := hB.cell
          have hfree := hB.free
          have hlt := hB.lt
          have b1 := ci_bd G.c
          have b3 := ci_bd G3.c
          have hA : A % 256 = A := by omega
          have hfin := mul_step (g1 := G.c) (g2 := G3.c) (g3 := G5.c) A HI.out (by rw [HC.out]; show A = A + a1 * 0; omega) (by rw [HC.out]; show 0 = A / 256; omega) (by rw [K_G3.out, ci_beq]; omega) (by rw [K_G5.out, K_G4.out, ci_beq])
          rw [hA] at hfin
          have HF : Hid _ := hfin
          clear hfin
          by_cases h7 : (k : Int) < 7
          · have hz : ((X - 1) % 256 == 0) = false := by rw [beq_eq_false_iff_ne]; have hx := HX.out; omega
            rw [hz] at z_G5
            go_wp2_with (go_at_call 14; refine (taken_any _ _ _ (HT.out.on hw)).mono ?_; rintro e w9 ⟨rfl, rfl⟩; rw [tk_bne, z_G5])
            go_roundw
            case rel => exact ⟨k + 1, _, _, _, _, G5, by omega, by go_num, rfl, by omega, by omega, by omega, by omega, HZ.out, d_G5, HF.out, hB, hw⟩
            case measure => simp [intOf]; omega
          · have hz : ((X - 1) % 256 == 0) = true := by rw [beq_iff_eq]; have hx := HX.out; omega
            rw [hz] at z_G5
            go_wp2_with (go_at_call 14; refine (taken_any _ _ _ (HT.out.on hw)).mono ?_; rintro e w9 ⟨rfl, rfl⟩; rw [tk_bne, z_G5])
            go_roundw
            case rel => exact ⟨k + 1, _, _, _, _, G5, by omega, by go_num, rfl, by omega, by omega, by omega, by omega, HZ.out, d_G5, HF.out, hB, hw⟩
            case measure => simp [intOf]; omega
        · skip
          go_upto_region 10 with (go_at_call 14; refine (taken_any _ _ _ (HT.out.on hw)).mono ?_; rintro e w9 ⟨rfl, rfl⟩; rw [tk_bcs, HC.out])
          go_cut [] (fun wx => ∃ G' : Fl, G'.c = false ∧ G'.d = false ∧ Blk wx b #[.int .u8 (A), .int .u8 (X), .int .u8 0, .int .u8 0, .int .u8 (G'.val : Nat), .int .u8 (0)] ∧ Below w.heap.size w wx)
          case first =>
            go_wp2_with (go_at_call 9; refine (wCLC _ _ _ _ _ _ _ _ (HT.out.on hw).s).mono ?_; rintro e w1 ⟨G', e1, e2, rfl, hb1⟩; have hk1 := hB.below hlt hb1; have hcell1 := hk1.cell; have hfree1 := hk1.free)
            go_meet
            exact ⟨G', e1, e2.trans hd, hk1.set6 _ _ _ _ _ _, below_set6 (hw.trans (hb1.mono hw.size)) hbB _ _ _ _ _ _⟩
          case rest =>
          clear hB hw hcell hfree hlt
          obtain ⟨G1, c_G1, d_G1, hB, hw⟩ := hcut
          have K_G1 : Hid _ := c_G1
          clear c_G1
          have hcell := hB.cell
          have hfree := hB.free
          have hlt := hB.lt
          go_upto_region 11 with fail
          go_cut [] (fun wx => ∃ G' : Fl, G'.c = decide (255 < A + a1) ∧ G'.d = false ∧ Blk wx b #[.int .u8 ((A + a1) % 256), .int .u8 (X), .int .u8 0, .int .u8 0, .int .u8 (G'.val : Nat), .int .u8 (a1)] ∧ Below w.heap.size w wx)
          case first =>
            go_wp2_with (go_at_call 9; refine (wADC0 _ _ _ _ _ _ _ _ (by omega) (by omega) (by omega) (by omega) d_G1 K_G1.out).mono ?_; rintro e w1 ⟨G', e1, e2, rfl, hb1⟩; have hk1 := hB.below hlt hb1; have hcell1 := hk1.cell; have hfree1 := hk1.free)
            go_meet
            exact ⟨G', e1, e2, hk1.set6 _ _ _ _ _ _, below_set6 (hw.trans (hb1.mono hw.size)) hbB _ _ _ _ _ _⟩
          case rest =>
          clear hB hw hcell hfree hlt
          obtain ⟨G2, c_G2, d_G2, hB, hw⟩ := hcut
          have K_G2 : Hid _ := c_G2
          clear c_G2
          have hcell := hB.cell
          have hfree := hB.free
          have hlt := hB.lt
          go_upto_region 12 with fail
          go_cut [] (fun wx => ∃ G' : Fl, G'.c = ((A + a1) % 256 % 2 == 1) ∧ G'.d = false ∧ Blk wx b #[.int .u8 ((A + a1) % 256 / 2 + 128 * ci G2.c), .int .u8 (X), .int .u8 0, .int .u8 0, .int .u8 (G'.val : Nat), .int .u8 (a1)] ∧ Below w.heap.size w wx)
          case first =>
            go_wp2_with (go_at_call 12; refine (wAccROR _ _ _ _ _ _ _ (by omega) (by omega)).mono ?_; rintro e w1 ⟨G', e1, e2, rfl, hb1⟩; have hk1 := hB.below hlt hb1; have hcell1 := hk1.cell; have hfree1 := hk1.free)
            go_meet
            exact ⟨G', e1, e2.trans d_G2, hk1.set6 _ _ _ _ _ _, below_set6 (hw.trans (hb1.mono hw.size)) hbB _ _ _ _ _ _⟩
          case rest =>
          clear hB hw hcell hfree hlt
          obtain ⟨G3, c_G3, d_G3, hB, hw⟩ := hcut
          have K_G3 : Hid _ := c_G3
          clear c_G3
          have hcell := hB.cell
          have hfree := hB.free
          have hlt := hB.lt
          go_upto_region 13 with fail
          go_cut [] (fun wx => ∃ G' : Fl, G'.c = (L % 2 == 1) ∧ G'.d = false ∧ Blk wx b #[.int .u8 ((A + a1) % 256 / 2 + 128 * ci G2.c), .int .u8 (X), .int .u8 0, .int .u8 0, .int .u8 (G'.val : Nat), .int .u8 (L / 2 + 128 * ci G3.c)] ∧ Below w.heap.size w wx)
          case first =>
            go_wp2_with (go_at_call 9; refine (wROR _ _ _ _ _ _ _ _ (by omega) (by omega)).mono ?_; rintro e w1 ⟨G', e1, e2, rfl, hb1⟩; have hk1 := hB.below hlt hb1; have hcell1 := hk1.cell; have hfree1 := hk1.free)
            go_meet
            exact ⟨G', e1, e2.trans d_G3, hk1.set6 _ _ _ _ _ _, below_set6 (hw.trans (hb1.mono hw.size)) hbB _ _ _ _ _ _⟩
          case rest =>
          clear hB hw hcell hfree hlt
          obtain ⟨G4, c_G4, d_G4, hB, hw⟩ := hcut
          have K_G4 : Hid _ := c_G4
          clear c_G4
          have hcell := hB.cell
          have hfree := hB.free
          have hlt := hB.lt
          go_upto_region 15 with fail
          go_cut [] (fun wx => ∃ G' : Fl, G'.c = G4.c ∧ G'.d = false ∧ G'.z = ((X - 1) % 256 == 0) ∧ Blk wx b #[.int .u8 ((A + a1) % 256 / 2 + 128 * ci G2.c), .int .u8 ((X - 1) % 256), .int .u8 0, .int .u8 0, .int .u8 (G'.val : Nat), .int .u8 (0)] ∧ Below w.heap.size w wx)
          case first =>
            go_wp2_with (go_at_call 9; refine (wDEX _ _ _ _ _ _ _ _).mono ?_; rintro e w1 ⟨G', e1, e2, e3, rfl, hb1⟩; have hk1 := hB.below hlt hb1; have hcell1 := hk1.cell; have hfree1 := hk1.free)
            go_meet
            exact ⟨G', e1, e2.trans d_G4, e3, hk1.set6 _ _ _ _ _ _, below_set6 (hw.trans (hb1.mono hw.size)) hbB _ _ _ _ _ _⟩
          case rest =>
          clear hB hw hcell hfree hlt
          obtain ⟨G5, c_G5, d_G5, z_G5, hB, hw⟩ := hcut
          have K_G5 : Hid _ := c_G5
          clear c_G5
          have hcell := hB.cell
          have hfree := hB.free
          have hlt := hB.lt
          have b1 := ci_bd G2.c
          have b3 := ci_bd G3.c
          have hfin := mul_step (g1 := G2.c) (g2 := G3.c) (g3 := G5.c) (A + a1) HI.out (by rw [HC.out]; show A + a1 = A + a1 * 1; omega) (by rw [K_G2.out]; exact ci_dec _ (by omega) (by omega)) (by rw [K_G3.out, ci_beq]) (by rw [K_G5.out, K_G4.out, ci_beq])
          have HF : Hid _ := hfin
          clear hfin
          by_cases h7 : (k : Int) < 7
          · have hz : ((X - 1) % 256 == 0) = false := by rw [beq_eq_false_iff_ne]; have hx := HX.out; omega
            rw [hz] at z_G5
            go_wp2_with (go_at_call 14; refine (taken_any _ _ _ (HT.out.on hw)).mono ?_; rintro e w9 ⟨rfl, rfl⟩; rw [tk_bne, z_G5])
            go_roundw
            case rel => exact ⟨k + 1, _, _, _, _, G5, by omega, by go_num, rfl, by omega, by omega, by omega, by omega, HZ.out, d_G5, HF.out, hB, hw⟩
            case measure => simp [intOf]; omega
          · have hz : ((X - 1) % 256 == 0) = true := by rw [beq_iff_eq]; have hx := HX.out; omega
            rw [hz] at z_G5
            go_wp2_with (go_at_call 14; refine (taken_any _ _ _ (HT.out.on hw)).mono ?_; rintro e w9 ⟨rfl, rfl⟩; rw [tk_bne, z_G5])
            go_roundw
            case rel => exact ⟨k + 1, _, _, _, _, G5, by omega, by go_num, rfl, by omega, by omega, by omega, by omega, HZ.out, d_G5, HF.out, hB, hw⟩
            case measure => simp [intOf]; omega
end Go.Proofs.YthdmkmbgncbmgaaDoor
