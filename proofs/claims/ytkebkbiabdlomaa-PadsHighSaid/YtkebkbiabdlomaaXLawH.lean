/-
  The law PadsHigh returns true; conditions: those of the list.
-/
import Derived.Test.YtkebkbiabdlomaaXSt
import Derived.Test.YtkebkbiabdlomaaXArg
import Derived.Test.YtkebkbiabdlomaaXPort
import Derived.Test.YtkebkbiabdlomaaXBit
import Derived.StillTailTactics
set_option linter.unusedSimpArgs false
set_option linter.unusedVariables false
namespace Go.Proofs.Ytkebkbiabdlomaa
open Go.RowKit Classical
set_option maxRecDepth 100000 in
set_option maxHeartbeats 2000000 in
theorem law_padsHigh (v : Int) (a : Option Addr) (len cap : Nat) (q : Nat → Int) (b o : Nat) (w : World) (hv : 0 ≤ v ∧ v ≤ 255) (hlen : len ≤ 9223372036854775807) (hS : U8s w a len q b o) :
    Calls Try.prog 4 #[.int .u8 v, .slice a len cap] w fun e w' => e = .returned (.bool true) ∧ Below w.heap.size w w' := by
  obtain ⟨v0, v1⟩ := hv
  have x1 := or1 v v0 v1
  have h1 : Hid (∀ W : World, Calls Try.prog 7 #[.agg #[.bool false, .int .u8 0, .int .u8 0, .int .u8 0, .int .u8 0], .int .u8 (v / 2 * 2 + 1)] W fun e w' => e = .returned (.agg (Pd.cells ⟨true, 0, 0, 0, 0⟩)) ∧ Below W.heap.size W w') := fun W => by
    have h := wr_any zeroP (v / 2 * 2 + 1) W (by omega) (by omega)
    have e : zeroP.wr (v / 2 * 2 + 1) = ⟨true, 0, 0, 0, 0⟩ := by
      have e1 : (v / 2 * 2 + 1) % 2 = 1 := by omega
      simp only [Pd.wr, zeroP, e1, decide_true, Bool.or_true, if_true]
    rw [e] at h
    exact h
  go_enter Try.func4, Try.ntmps4
  go_upto_region 1 with fail
  have s0 : St w [] w := ⟨fun p hp => absurd hp (by simp), Below.refl _ _⟩
  go_upto_region 2 with (first
    | (go_at_call 7; refine (h1.out _).mono ?_; rintro e Wx ⟨rfl, hbx⟩; replace s0 := s0.on hbx; clear hbx)
    | (refine wpList_store_blk rfl 25 _ _ rfl Wx.heap.size zeroP.cells (Pd.cells ⟨true, 0, 0, 0, 0⟩) 25 rfl rfl (Blk.new Wx _ _) rfl (infoP' _) (Pd.cells_one _) w.heap.size w s0.2.size (s0.2.alloc s0.2.size _) ?_; intro Wy by1 hby hoy; have hmB : w.heap.size ≤ Wx.heap.size := s0.2.size; replace s0 := St.more s0 by1 hby hoy; clear by1 hby hoy))
  clear x1 h1
  generalize Wx.heap.size = m at *
  have g0 : _ = some (Value.bool true) := (s0.blk m _ (List.mem_cons_self ..)).cell 0
  have hm : Hid (w.heap.size ≤ m) := hmB
  go_upto_region 5 with fail
  clear g0
  go_loopw [6] (fun i wr => ∃ (k : Nat) (ra : Pd), k ≤ len ∧ i = .int .i64 k ∧ ra.Ok ∧ ra.s = true ∧ St w [(m, ra)] wr) (fun i _ => len - (intOf i).toNat)
  case atStart => exact ⟨0, _, by omega, rfl, ⟨by decide, by decide, by decide, by decide, by decide, by decide, by decide, by decide⟩, rfl, s0⟩
  case round =>
    clear s0
    obtain ⟨k, ra, hk, rfl, va, hs, s0⟩ := hrel
    by_cases hlt : k < len
    · obtain ⟨rfl, hb⟩ := hS.at_ (by omega)
      have hx := (s0.2.cell (p := ⟨b, o + k, none⟩) hb).trans (hS.cells k hlt)
      obtain ⟨y0, y1⟩ := hS.ok k hlt
      have hSH : Hid (U8s _ _ _ _ _ _) := hS
      clear hS
      obtain ⟨x, ex⟩ : ∃ x, q k = x := ⟨_, rfl⟩
      rw [ex] at hx y0 y1
      have EX : Hid (q k = x) := ex
      clear ex
      obtain ⟨s, h0, h1, p0, p1⟩ := ra
      obtain rfl : s = true := hs
      have c0 : wr.cell? ⟨m, 0, none⟩ = some (.bool true) := (s0.blk m _ (List.mem_cons_self ..)).cell 0
      have c1 : wr.cell? ⟨m, 1, none⟩ = some (.int .u8 h0) := (s0.blk m _ (List.mem_cons_self ..)).cell 1
      have c2 : wr.cell? ⟨m, 2, none⟩ = some (.int .u8 h1) := (s0.blk m _ (List.mem_cons_self ..)).cell 2
      have c3 : wr.cell? ⟨m, 3, none⟩ = some (.int .u8 p0) := (s0.blk m _ (List.mem_cons_self ..)).cell 3
      have c4 : wr.cell? ⟨m, 4, none⟩ = some (.int .u8 p1) := (s0.blk m _ (List.mem_cons_self ..)).cell 4
      have xn := xor255 x y0 y1
      have xa := and1 x y0 y1
      have hset : Hid _ := fun (W : World) => set_any ⟨true, h0, h1, p0, p1⟩ x (255 - x) W
      have es : (Pd.set ⟨true, h0, h1, p0, p1⟩ x (255 - x)) = ⟨true, x, 255 - x, x, 255 - x⟩ := by simp [Pd.set]
      rw [es] at hset
      clear es
      have ok : Pd.Ok ⟨true, x, 255 - x, x, 255 - x⟩ := ⟨by simpa using y0, by simpa using y1, by simp; omega, by simp; omega, by simpa using y0, by simpa using y1, by simp; omega, by simp; omega⟩
      have hr0 : Hid (∀ W : World, Calls Try.prog 8 #[.agg (Pd.cells ⟨true, x, 255 - x, x, 255 - x⟩), .int .i64 0] W fun e w' => e = .returned (.tuple #[.int .u8 (x % 2), .agg (Pd.cells ⟨true, x, 255 - x, x, 255 - x⟩)]) ∧ Below W.heap.size W w') := fun W => rd_any _ 0 W ok
      have hr1 : Hid (∀ W : World, Calls Try.prog 8 #[.agg (Pd.cells ⟨true, x, 255 - x, x, 255 - x⟩), .int .i64 1] W fun e w' => e = .returned (.tuple #[.int .u8 ((255 - x) % 2), .agg (Pd.cells ⟨true, x, 255 - x, x, 255 - x⟩)]) ∧ Below W.heap.size W w') := fun W => rd_any _ 1 W ok
      have hz : Hid ((x % 2 = 0 ∧ (255 - x) % 2 = 1) ∨ (x % 2 = 1 ∧ (255 - x) % 2 = 0)) := by unfold Hid; omega
      generalize x % 2 = z at *
      generalize (255 - x) % 2 = z' at *
      go_upto_region 7 with fail
      go_still_tail 10, (by kernel_rfl)
      clear c0 c1 c2 c3 c4 xn hx
      replace s0 := s0.drew
      go_upto_region 8 with (first
        | (go_at_call 6; refine (hset.out _).mono ?_; rintro e Wx ⟨rfl, hbx⟩; replace s0 := s0.on hbx; clear hbx)
        | (refine wpList_store_blk rfl 25 _ _ rfl (m) _ (Pd.cells ⟨true, x, 255 - x, x, 255 - x⟩) 25 rfl rfl (s0.blk (m) _ (List.mem_cons_self ..)) rfl (infoP' _) (Pd.cells_one _) w.heap.size w hm.out s0.2 ?_; intro Wy by1 hby hoy; replace s0 := St.sto s0 (by simp) by1 hby hoy; clear by1 hby hoy))
      generalize hrn : (⟨true, x, 255 - x, x, 255 - x⟩ : Pd) = rn at *
      have rs : Hid (rn.s = true) := by unfold Hid; rw [← hrn]
      clear hrn hset
      go_upto_region 10 with (first
        | (refine wpList_load_blk rfl 25 _ rfl (m) rfl (Pd.cells rn) _ (s0.blk (m) rn (by simp)) Try.underlying25 rfl (infoP' _) ?_)
        | (go_at_call 8; refine (hr0.out _).mono ?_; rintro e Wx ⟨rfl, hbx⟩; replace s0 := s0.on hbx; clear hbx)
        | (refine wpList_store_blk rfl 25 _ _ rfl (m) _ (Pd.cells rn) 25 rfl rfl (s0.blk (m) _ (List.mem_cons_self ..)) rfl (infoP' _) (Pd.cells_one _) w.heap.size w hm.out s0.2 ?_; intro Wy by1 hby hoy; replace s0 := St.sto s0 (by simp) by1 hby hoy; clear by1 hby hoy))
      go_upto_region 11 with (first
        | (refine wpList_load_blk rfl 25 _ rfl (m) rfl (Pd.cells rn) _ (s0.blk (m) rn (by simp)) Try.underlying25 rfl (infoP' _) ?_)
        | (go_at_call 8; refine (hr1.out _).mono ?_; rintro e Wx ⟨rfl, hbx⟩; replace s0 := s0.on hbx; clear hbx)
        | (refine wpList_store_blk rfl 25 _ _ rfl (m) _ (Pd.cells rn) 25 rfl rfl (s0.blk (m) _ (List.mem_cons_self ..)) rfl (infoP' _) (Pd.cells_one _) w.heap.size w hm.out s0.2 ?_; intro Wy by1 hby hoy; replace s0 := St.sto s0 (by simp) by1 hby hoy; clear by1 hby hoy))
      go_upto_region 12 with (first
        | (refine wpList_load_blk rfl 25 _ rfl (m) rfl (Pd.cells rn) _ (s0.blk (m) rn (by simp)) Try.underlying25 rfl (infoP' _) ?_)
        | (go_at_call 8; refine (hr0.out _).mono ?_; rintro e Wx ⟨rfl, hbx⟩; replace s0 := s0.on hbx; clear hbx)
        | (refine wpList_store_blk rfl 25 _ _ rfl (m) _ (Pd.cells rn) 25 rfl rfl (s0.blk (m) _ (List.mem_cons_self ..)) rfl (infoP' _) (Pd.cells_one _) w.heap.size w hm.out s0.2 ?_; intro Wy by1 hby hoy; replace s0 := St.sto s0 (by simp) by1 hby hoy; clear by1 hby hoy))
      have hx : _ = some (Value.int .u8 x) := (s0.2.cell (p := ⟨b, o + k, none⟩) hb).trans ((hSH.out.cells k hlt).trans (by rw [EX.out]))
      clear hr0 hr1
      have hk9 : (k : Int) + 1 ≤ 9223372036854775807 := by omega
      have SH : Hid (St _ _ _) := s0
      clear s0 va
      rcases hz.out with ⟨rfl, rfl⟩ | ⟨rfl, rfl⟩
      · clear hz
        go_wp2
        go_roundw
        case rel => first | exact ⟨k + 1, rn, by omega, by go_num, ok, rs.out, SH.out⟩ | ((repeat apply Exists.intro); refine ⟨?_, rfl⟩; exact ⟨k + 1, rn, by omega, by go_num, ok, rs.out, SH.out⟩)
        case measure => simp [intOf]; omega
      · clear hz
        go_wp2
        go_roundw
        case rel => first | exact ⟨k + 1, rn, by omega, by go_num, ok, rs.out, SH.out⟩ | ((repeat apply Exists.intro); refine ⟨?_, rfl⟩; exact ⟨k + 1, rn, by omega, by go_num, ok, rs.out, SH.out⟩)
        case measure => simp [intOf]; omega
    · have hkn : k = len := by omega
      subst hkn
      obtain ⟨s, h0, h1, p0, p1⟩ := ra
      obtain rfl : s = true := hs
      have xn := not1 v v0 v1
      have hw : Hid (∀ W : World, Calls Try.prog 7 #[.agg (Pd.cells ⟨true, h0, h1, p0, p1⟩), .int .u8 (v / 2 * 2)] W fun e w' => e = .returned (.agg (Pd.cells ⟨false, h0, h1, h0, h1⟩)) ∧ Below W.heap.size W w') := fun W => by
        have h := wr_any ⟨true, h0, h1, p0, p1⟩ (v / 2 * 2) W (by omega) (by omega)
        have e : Pd.wr ⟨true, h0, h1, p0, p1⟩ (v / 2 * 2) = ⟨false, h0, h1, h0, h1⟩ := by
          have e1 : ¬ (v / 2 * 2) % 2 = 1 := by omega
          simp only [Pd.wr, decide_eq_false e1, Bool.or_false, if_true]
        rw [e] at h
        exact h
      have hmlt : m < wr.heap.size := (s0.blk m _ (List.mem_cons_self ..)).lt
      go_upto_region 15 with (first
    | (refine wpList_load_blk rfl 25 _ rfl (m) rfl (Pd.cells ⟨true, h0, h1, p0, p1⟩) _ (s0.blk (m) ⟨true, h0, h1, p0, p1⟩ (by simp)) Try.underlying25 rfl (infoP' _) ?_)
    | (go_at_call 7; refine (hw.out _).mono ?_; rintro e Wx ⟨rfl, hbx⟩; replace s0 := s0.on hbx; clear hbx)
    | (refine wpList_store_blk rfl 25 _ _ rfl Wx.heap.size zeroP.cells (Pd.cells ⟨false, h0, h1, h0, h1⟩) 25 rfl rfl (Blk.new Wx _ _) rfl (infoP' _) (Pd.cells_one _) w.heap.size w s0.2.size (s0.2.alloc s0.2.size _) ?_; intro Wy by1 hby hoy; replace s0 := St.more s0 by1 hby hoy; clear by1 hby hoy))

      generalize hm2 : Wx.heap.size = m2 at *
      have d1 : _ = some (Value.int .u8 h0) := (s0.blk m2 ⟨false, h0, h1, h0, h1⟩ (by simp)).cell 1
      have d2 : _ = some (Value.int .u8 h1) := (s0.blk m2 ⟨false, h0, h1, h0, h1⟩ (by simp)).cell 2
      have d3 : _ = some (Value.int .u8 h0) := (s0.blk m2 ⟨false, h0, h1, h0, h1⟩ (by simp)).cell 3
      have d4 : _ = some (Value.int .u8 h1) := (s0.blk m2 ⟨false, h0, h1, h0, h1⟩ (by simp)).cell 4
      have d0 : _ = some (Value.bool false) := (s0.blk m2 ⟨false, h0, h1, h0, h1⟩ (by simp)).cell 0
      have b1 : _ = some (Value.int .u8 h0) := (s0.blk m ⟨true, h0, h1, p0, p1⟩ (by simp)).cell 1
      have b2 : _ = some (Value.int .u8 h1) := (s0.blk m ⟨true, h0, h1, p0, p1⟩ (by simp)).cell 2
      have qE := fun W => eq2_yes W h0 h1
      have SH : Hid (St _ _ _) := s0
      clear s0
      go_wp2
      go_ret
      exact ⟨rfl, SH.out.2⟩
end Go.Proofs.Ytkebkbiabdlomaa
