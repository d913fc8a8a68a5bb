/-
  What the document's Encode answers; conditions: the letters lie in their variable.
-/
import Derived.Test.YtebnapgnnflnhaaDoorIRef6
import Derived.Test.YtebnapgnnflnhaaDoorIEncP
set_option linter.unusedSimpArgs false
set_option linter.unusedVariables false
namespace Go.Proofs.YtebnapgnnflnhaaDoor
open Go.RowKit Go.WideShapes
theorem LTab.below {w w' : World} (T : LTab w) (hb : Below w.heap.size w w') : LTab w' :=
  ⟨fun i hi => (hb.cell (p := ⟨3, i, none⟩) (cell_ltw (T.lt i hi))).trans (T.lt i hi)⟩
theorem encS_hit {op mode : Int} (hr : 0 ≤ op ∧ op < 70) {c i : Nat} (hc : c < 3) (hp : ∀ d, d < c → en0 op mode d 256 = none) (hn : en0 op mode c i = none) (hm : mt op mode c i = true) (hi : i < 256) : encS op mode = (i, 0) := by
  have e : en0 op mode c 256 = some i := find_at hn hm hi
  unfold encS
  rw [if_pos hr]
  have hc' : c = 0 ∨ c = 1 ∨ c = 2 := by omega
  rcases hc' with rfl | rfl | rfl
  · rw [e]
  · rw [hp 0 (by omega), en12_eq, e]; rfl
  · rw [hp 0 (by omega), en12_eq, hp 1 (by omega), e]; rfl
theorem encS_miss {op mode : Int} (hr : 0 ≤ op ∧ op < 70) (hp : ∀ d, d < 3 → en0 op mode d 256 = none) : encS op mode = (0, 41) := by
  unfold encS
  rw [if_pos hr, hp 0 (by omega), en12_eq, hp 1 (by omega), hp 2 (by omega)]; rfl
theorem mt_all {op mode : Int} {c k : Nat} (ho : ((opN k : Int) == op) = true) (hm : ((mdN k : Int) == mode) = true) (hc : ((clN k : Int) == (c : Int)) = true) : mt op mode c k = true := by
  unfold mt; rw [ho, hm]
  have : clN k = c := by have := eq_of_beq hc; omega
  simp [this]
theorem mt_clI {op mode : Int} {c k : Nat} (h : ((clN k : Int) == (c : Int)) = false) : mt op mode c k = false :=
  mt_cl (by rw [beq_eq_false_iff_ne] at *; omega)
theorem nm_ne_nil' : ∀ k : Nat, k < 70 → (⟨(nmL.getD k []).toArray⟩ : ByteArray).toList.isEmpty = false := by decide +kernel
theorem nmS_in' (op : Int) (h : 0 ≤ op ∧ op < 70) : (nmS op).toList.isEmpty = false := by
  obtain ⟨k, rfl⟩ := Int.eq_ofNat_of_zero_le h.1
  unfold nmS
  rw [if_pos h]
  exact nm_ne_nil' k (by omega)
theorem retE {a c : Nat} {b d : Int} (h : (a, b) = (c, d)) : Ending.returned (.tuple #[.int .u8 (a : Nat), .int .i64 b]) = .returned (.tuple #[.int .u8 (c : Nat), .int .i64 d]) := by
  cases h; rfl
theorem u8_conv' (k : Nat) (h : k < 256) : IntKind.u8.wrap (k : Int) = (k : Int) := by revert k; decide +kernel
set_option maxRecDepth 100000 in
set_option maxHeartbeats 4000000 in
theorem rencode_any (op mode : Int) (w : World) (T : LTab w) :
    Calls Tryd.prog 17 #[.int .i64 op, .int .i64 mode] w fun e w' => e = .returned (.tuple #[.int .u8 ((encS op mode).1 : Nat), .int .i64 (encS op mode).2]) ∧ Below w.heap.size w w' := by
  have TT : Hid (LTab w) := T
  clear T
  by_cases hr : 0 ≤ op ∧ op < 70
  · have hn := nmS_in' op hr
    have C := Hid.mk1 (refName_any op w)
    generalize nmS op = z at hn C
    go_enter Tryd.func17, Tryd.ntmps17
    go_upto_region 4 with (go_at_call 16; go_must (refine C.out.mono ?_; rintro e w1 ⟨rfl, hw1⟩; obtain rfl := hw1.symm))
    clear hn C
    go_wp2
    go_loopw [7] (fun c wr => ∃ cl : Nat, cl ≤ 3 ∧ c = .int .i64 cl ∧ Hid (∀ d, d < cl → en0 op mode d 256 = none) ∧ Below w.heap.size w wr) (fun c _ => 3 - (intOf c).toNat)
    case atStart => exact ⟨0, by omega, rfl, fun d hd => absurd hd (by omega), Below.refl _ _⟩
    case round =>
      obtain ⟨cl, hcl, rfl, HP, hb⟩ := hrel
      by_cases hc3 : cl = 3
      · subst hc3
        have E : Hid _ := encS_miss (mode := mode) hr HP.out
        go_wp2
        go_ret2
        exact ⟨retE E.out.symm, hb⟩
      · have hcl3 : (cl : Int) < 3 := by omega
        go_upto_region 7 with fail
        go_wp2
        go_loopw [8] (fun i wr2 => ∃ k : Nat, k ≤ 256 ∧ i = .int .i64 k ∧ Hid (en0 op mode cl k = none) ∧ Below w.heap.size w wr2) (fun i _ => 256 - (intOf i).toNat)
        case atStart => exact ⟨0, by omega, rfl, rfl, hb⟩
        case round =>
          clear hb
          obtain ⟨k, hk, rfl, HN, hb⟩ := hrel
          by_cases hk8 : k = 256
          · subst hk8
            go_wp2
            go_roundw
            case rel => exact ⟨cl + 1, by omega, by go_num, fun d hd => by
                            by_cases h : d = cl
                            · rw [h]; exact HN.out
                            · exact HP.out d (by omega), hb⟩
            case measure => simp [intOf]; omega
          · have hk' : k < 256 := by omega
            have hlt : (k : Int) < 256 := by omega
            have hcv := u8_conv' k hk'
            have RC := Hid.mk1 (fun W (hW : Below w.heap.size w W) => rrow_any k hk' W (TT.out.below hW))
            go_upto_region 11 with (go_at_call 15; go_must (refine (RC.out _ hb).mono ?_; rintro e w1 ⟨rfl, hb1⟩))
            have hbz := hb.trans (hb1.mono hb.size)
            have hbw : ∀ o, Below w.heap.size w (w1.alloc o) := fun o => hbz.alloc hbz.size o
            clear RC hb1 hb hcv
            by_cases ho : ((opN k : Int) == op) = true
            · by_cases hm : ((mdN k : Int) == mode) = true
              · by_cases hq : ((clN k : Int) == (cl : Int)) = true
                · have E : Hid (encS op mode = (k, 0)) := encS_hit hr (by omega) HP.out HN.out (mt_all ho hm hq) hk'
                  have hcv := u8_conv' k hk'
                  go_wp2
                  go_ret2
                  exact ⟨retE E.out.symm, hbw _⟩
                · have hq' : ((clN k : Int) == (cl : Int)) = false := by simpa using hq
                  have n0 : Hid (en0 op mode cl (k + 1) = none) := find_skip HN.out (mt_clI hq')
                  clear hq
                  go_wp2
                  go_roundw
                  case rel => exact ⟨k + 1, by omega, by go_num, n0, hbw _⟩
                  case measure => simp [intOf]; omega
              · have hm' : ((mdN k : Int) == mode) = false := by simpa using hm
                have n0 : Hid (en0 op mode cl (k + 1) = none) := find_skip HN.out (mt_mode hm')
                clear hm
                go_wp2
                go_roundw
                case rel => exact ⟨k + 1, by omega, by go_num, n0, hbw _⟩
                case measure => simp [intOf]; omega
            · have ho' : ((opN k : Int) == op) = false := by simpa using ho
              have n0 : Hid (en0 op mode cl (k + 1) = none) := find_skip HN.out (mt_op ho')
              clear ho
              go_wp2
              go_roundw
              case rel => exact ⟨k + 1, by omega, by go_num, n0, hbw _⟩
              case measure => simp [intOf]; omega
  · have E : Hid (encS op mode = (0, 40)) := by unfold Hid encS; rw [if_neg hr]
    have hn : nmS op = ⟨#[]⟩ := by unfold nmS; rw [if_neg hr]
    have c := refName_any op w
    rw [hn] at c
    have C := Hid.mk1 c
    clear c hn
    go_enter Tryd.func17, Tryd.ntmps17
    go_wp2_with (go_at_call 16; go_must (refine C.out.mono ?_; rintro e w1 ⟨rfl, hw1⟩; obtain rfl := hw1.symm))
    go_ret2
    exact ⟨retE E.out.symm, Below.refl _ _⟩
end Go.Proofs.YtebnapgnnflnhaaDoor
