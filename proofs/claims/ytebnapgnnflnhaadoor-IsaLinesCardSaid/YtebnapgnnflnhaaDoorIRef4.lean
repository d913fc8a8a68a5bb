/-
  What has, kind, class, length of the document's isa answer; conditions: a byte's own name, mode and class.
-/
import Derived.Test.YtebnapgnnflnhaaDoorIRef3
set_option linter.unusedSimpArgs false
set_option linter.unusedVariables false
namespace Go.Proofs.YtebnapgnnflnhaaDoor
open Go.RowKit Go.WideShapes
theorem retBo {a b : Bool} (h : a = b) : Ending.returned (.bool a) = .returned (.bool b) := by rw [h]
theorem hgo_at {l n : ByteArray} {f i : Nat} {R : Bool} (h : hgo l n (f + 1) i = R) :
    (i + 3 ≤ l.size → ((l.extract i (i + 3)).toList == n.toList) = true → R = true) ∧ (i + 3 ≤ l.size → ((l.extract i (i + 3)).toList == n.toList) = false → hgo l n f (i + 4) = R) ∧ (¬ i + 3 ≤ l.size → R = false) := by
  unfold hgo at h
  refine ⟨fun a b => ?_, fun a b => ?_, fun a => ?_⟩
  · rw [if_pos a, if_pos b] at h; exact h.symm
  · rw [if_pos a, b, if_neg (by simp)] at h; exact h
  · rw [if_neg a] at h; exact h.symm
set_option maxRecDepth 100000 in
theorem has_any (l n : ByteArray) (hl : l.size ≤ 60) (R : Bool) (hR : hgo l n 20 0 = R) (w : World) :
    Calls Tryd.prog 33 #[.string l, .string n] w fun e w' => e = .returned (.bool R) ∧ w' = w := by
  have HR := Hid.mk1 hR
  clear hR
  go_enter Tryd.func33, Tryd.ntmps33
  go_wp2
  go_loop [5] (fun i => ∃ k f : Nat, i = .int .i64 (k : Nat) ∧ k ≤ l.size + 4 ∧ l.size < k + 4 * f ∧ Hid (hgo l n f k = R)) (fun i => l.size + 10 - (intOf i).toNat)
  case atStart => exact ⟨0, 20, rfl, by omega, by omega, HR⟩
  case round =>
    clear HR
    obtain ⟨k, f, rfl, hk, hf, H⟩ := hrel
    cases f with
    | zero =>
      have e : Hid (R = false) := by rw [← H.out]; rfl
      have hn : ¬ (k : Int) + 3 ≤ l.size := by omega
      clear H
      go_wp2
      go_ret
      exact ⟨retBo e.out.symm, rfl⟩
    | succ f =>
      obtain ⟨g1, g2, g3⟩ := hgo_at H.out
      clear H
      by_cases hlt : k + 3 ≤ l.size
      · have hlt' : (k : Int) + 3 ≤ l.size := by omega
        by_cases he : ((l.extract k (k + 3)).toList == n.toList) = true
        · have e := Hid.mk1 (g1 hlt he)
          clear g1 g2 g3
          go_wp2
          go_ret
          exact ⟨retBo e.out.symm, rfl⟩
        · have he' : ((l.extract k (k + 3)).toList == n.toList) = false := by simpa using he
          have H2 := Hid.mk1 (g2 hlt he')
          clear g1 g2 g3 he
          go_wp2
          go_round
          case rel => exact ⟨k + 4, f, by go_num, by omega, by omega, H2⟩
          case measure => simp [intOf]; omega
      · have e := Hid.mk1 (g3 hlt)
        have hn : ¬ (k : Int) + 3 ≤ l.size := by omega
        clear g1 g2 g3
        go_wp2
        go_ret
        exact ⟨retBo e.out.symm, rfl⟩
/-- The two lists of names. -/
def isW (o : Nat) : Bool := hgo ⟨#[83, 84, 65, 32, 83, 84, 88, 32, 83, 84, 89, 32, 83, 65, 88]⟩ (nmB o) 20 0
def isM (o : Nat) : Bool := hgo ⟨#[65, 83, 76, 32, 76, 83, 82, 32, 82, 79, 76, 32, 82, 79, 82, 32, 68, 69, 67, 32, 73, 78, 67, 32, 83, 76, 79, 32, 82, 76, 65, 32, 83, 82, 69, 32, 82, 82, 65, 32, 68, 67, 80, 32, 73, 83, 67]⟩ (nmB o) 20 0
theorem isW_eq : ∀ k, k < 256 → isW (opN k) = (opN k == 47 || opN k == 48 || opN k == 49 || opN k == 65) := by
  have : ∀ o, o < 70 → isW o = (o == 47 || o == 48 || o == 49 || o == 65) := by
    unfold isW
    simp only [hgo, nmB_toList, ByteArray.toList_eq]
    decide +kernel
  exact fun k hk => this _ (opN_lt k hk)
theorem isM_eq : ∀ k, k < 256 → isM (opN k) = (opN k == 2 || opN k == 32 || opN k == 39 || opN k == 40 || opN k == 20 || opN k == 24 || opN k == 67 || opN k == 63 || opN k == 68 || opN k == 64 || opN k == 59 || opN k == 60) := by
  have : ∀ o, o < 70 → isM o = (o == 2 || o == 32 || o == 39 || o == 40 || o == 20 || o == 24 || o == 67 || o == 63 || o == 68 || o == 64 || o == 59 || o == 60) := by
    unfold isM
    simp only [hgo, nmB_toList, ByteArray.toList_eq]
    decide +kernel
  exact fun k hk => this _ (opN_lt k hk)
/-- Is a name this one? -/
theorem nm_is : ∀ o, o < 70 → ∀ p, p < 70 → (nmL.getD o [] == nmL.getD p []) = decide (o = p) := fun o ho p hp => by
  by_cases h : o = p
  · subst h; simp
  · rw [nmL_ne o ho p hp h]; simp [h]
def fil (k : Nat) : Bool := clN k == 3
theorem rlen_any (k : Nat) (hk : k < 256) (w : World) :
    Calls Tryd.prog 28 #[.int .i64 (mdN k : Nat)] w fun e w' => e = .returned (.int .i64 (lnN k : Nat)) ∧ w' = w := by
  go_enter Tryd.func28, Tryd.ntmps28
  go_wp2
  all_goals
    go_ret
    refine ⟨ret64 ?_, rfl⟩
    go_light
    have H : true = true := rfl
    repeat
      first
        | (rename (_ == _) = true => h; replace H := bt H h; clear h)
        | (rename (_ == _) = false => h; replace H := bf H h; clear h)
        | (rename (_ != _) = true => h; replace H := bt H h; clear h)
        | (rename (_ != _) = false => h; replace H := bf H h; clear h)
        | (rename (_ : Int) < _ => h; replace H := bt H (decide_eq_true h); clear h)
        | (rename (_ : Int) ≤ _ => h; replace H := bt H (decide_eq_true h); clear h)
        | (rename ¬ ((_ : Int) = _) => h; replace H := bt H (decide_eq_true h); clear h)
        | (rename (_ : Int) = _ => h; replace H := bt H (decide_eq_true h); clear h)
    revert H
    revert k
    decide +kernel
set_option maxRecDepth 100000 in
set_option maxHeartbeats 4000000 in
theorem rclass_any (k : Nat) (hk : k < 256) (w : World) :
    Calls Tryd.prog 29 #[.int .u8 (k : Nat), .string (nmB (opN k)), .bool (fil k)] w fun e w' => e = .returned (.int .i64 (clN k : Nat)) ∧ w' = w := by
  go_enter Tryd.func29, Tryd.ntmps29
  go_wp2_with (go_at_call 26; go_must (refine (named_any (opN k) (opN_lt k hk) _).mono ?_; rintro e w1 ⟨rfl, hw1⟩; obtain rfl := hw1.symm))
  all_goals
    go_ret
    refine ⟨ret64 ?_, rfl⟩
    go_light
    try simp only [nmB_toList] at *
    have H : true = true := rfl
    repeat
      first
        | (rename (_ == _) = true => h; replace H := bt H h; clear h)
        | (rename (_ == _) = false => h; replace H := bf H h; clear h)
        | (rename (_ != _) = true => h; replace H := bt H h; clear h)
        | (rename (_ != _) = false => h; replace H := bf H h; clear h)
        | (rename (_ || _) = true => h; replace H := bt H h; clear h)
        | (rename (_ || _) = false => h; replace H := bf H h; clear h)
        | (rename fil _ = true => h; replace H := bt H h; clear h)
        | (rename fil _ = false => h; replace H := bf H h; clear h)
        | (rename (_ : Int) < _ => h; replace H := bt H (decide_eq_true h); clear h)
        | (rename (_ : Int) ≤ _ => h; replace H := bt H (decide_eq_true h); clear h)
        | (rename _ ∨ _ => h; replace H := bt H (decide_eq_true h); clear h)
        | (rename _ ∧ _ => h; replace H := bt H (decide_eq_true h); clear h)
        | (rename ¬ ((_ : Int) = _) => h; replace H := bt H (decide_eq_true h); clear h)
        | (rename (_ : Int) = _ => h; replace H := bt H (decide_eq_true h); clear h)
        | (rename ¬ ((_ : List UInt8) = _) => h; replace H := bt H (decide_eq_true h); clear h)
        | (rename (_ : List UInt8) = _ => h; replace H := bt H (decide_eq_true h); clear h)
        | (rename ¬ ((_ : Nat) = _) => h; replace H := bt H (decide_eq_true h); clear h)
        | (rename (_ : Nat) = _ => h; replace H := bt H (decide_eq_true h); clear h)
    revert H
    revert k
    decide +kernel
end Go.Proofs.YtebnapgnnflnhaaDoor
