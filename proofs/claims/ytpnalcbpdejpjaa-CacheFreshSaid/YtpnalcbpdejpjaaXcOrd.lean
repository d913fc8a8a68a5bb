/-
  inOrder and Keys.
-/
import Derived.Test.YtpnalcbpdejpjaaXcOrdS
import Derived.Test.YtpnalcbpdejpjaaXcShelf
import Derived.Test.YtpnalcbpdejpjaaXcOneS
import Derived.Shelf.SlSortCmp.WholeK
import Derived.Shelf.SlSortCmp.NoneTotal
set_option linter.unusedSimpArgs false
set_option linter.unusedVariables false
namespace Go.Proofs.Ytpnalcbpdejpjaa
open Go.RowKit Classical
set_option maxRecDepth 100000 in
set_option maxHeartbeats 4000000 in
theorem inOrder_any (base n : Nat) (v : Value) (l : List (Int × Int)) (w : World) (H : w.ownsRow base 24 2 v n (pk l)) (hn : n ≤ 65536) (hl : l.length = n) :
    Calls Try.prog 44 #[v] w fun e w' => e = .returned v ∧ ∃ l', l'.Perm l ∧ (l.Nodup → Rise l') ∧ w'.ownsRow base 24 2 v n (pk l') ∧ Below base w w' := by
  obtain ⟨ad, c, rfl, -⟩ := orow_form H
  cases ad with
  | none =>
    obtain ⟨rfl, rfl⟩ := orow_none H
    have hcon := AnyF.slices_SortFunc_none Try.sortKey none 0 (.func (.func 66) #[] #[]) w
    change Calls Try.prog 65 _ _ _ at hcon
    have HC : Hid (Calls _ _ _ w _) := hcon
    clear hcon
    go_enter Try.func44, Try.ntmps44
    go_wp2_with (go_at_call 65; go_must (refine HC.out.mono ?_; rintro e W1 ⟨rfl, hw⟩; obtain rfl := hw.symm))
    go_ret
    have e0 : l = [] := List.length_eq_zero_iff.1 hl
    subst e0
    exact ⟨rfl, [], .refl _, fun _ i x y h => by simp at h, H, Below.refl _ _⟩
  | some ad =>
    obtain ⟨g, rfl⟩ := orow_where H
    have hlt := (orow_base H).2.1
    have hbg := (orow_base H).1
    have hcon := AnyQ.slices_SortFunc Try.sortKey 2 Try.isAgg24 Try.sizeOf24 encP (fun _ => rfl) (fun x u hu => by simp [encP] at hu; rcases hu with rfl | rfl <;> rfl) cfP swoP 66 #[] g 0 c l.toArray w (enters_of Try.func66 (by kernel_rfl) rfl) (fun _ _ _ _ x y => less_any x.1 x.2 y.1 y.2 _) (orow_holds H hl) hlt (by simp; omega)
    change Calls Try.prog 65 _ _ _ at hcon
    simp only [List.size_toArray, hl] at hcon
    have HC : Hid (Calls _ _ _ w _) := hcon
    have HH : Hid (w.ownsRow base 24 2 (.slice (some ⟨g, 0, none⟩) n c) n (pk l)) := H
    clear hcon H
    go_enter Try.func44, Try.ntmps44
    go_wp2_with (go_at_call 65; go_must (refine HC.out.mono ?_; rintro e W1 ⟨rfl, d', q, os, hp, hs, hw⟩))
    go_ret
    subst hw
    obtain ⟨p1, p2⟩ := rise_of (by simp [hl]) hp hs
    have hl' : d'.toList.length = n := by rw [p1.length_eq]; simpa using hl
    exact ⟨rfl, d'.toList, p1, p2, by have := orow_sorted HH.out hl' q os; simpa using this, below_sorted (Below.refl _ _) hbg hlt⟩
def pr (e : En) : Int × Int := (e.pc, e.tag)
def toE (x : Int × Int) : En := ⟨0, x.1, x.2, ⟨#[]⟩, 0, none, 0, 0, 0, 0, 0, 0⟩
theorem kflat_pr : ∀ es : List En, kflat es = pk (es.map pr)
  | [] => rfl
  | e :: es => by
    show e.key.toList ++ kflat es = encP (pr e) ++ pk (es.map pr)
    rw [kflat_pr es]; rfl
theorem kflat_toE : ∀ l : List (Int × Int), kflat (l.map toE) = pk l
  | [] => rfl
  | x :: l => by
    show (toE x).key.toList ++ kflat (l.map toE) = encP x ++ pk l
    rw [kflat_toE l]; rfl
set_option maxRecDepth 100000 in
set_option maxHeartbeats 4000000 in
theorem keys_any (base q ga kA m k N n fc : Nat) (fa : Option Addr) (A : List Nat) (es : List En) (cnt : Int → Int) (w : World) (H : Ca base q ga kA m k N (.slice fa n fc) A es cnt w) (hn : n ≤ 65536) (hd : (es.map pr).Nodup) :
    Calls Try.prog 16 #[.pointer (some ⟨q, 0, none⟩)] w fun e w' => ∃ v l', e = .returned v ∧ l'.Perm (es.map pr) ∧ Rise l' ∧ w'.ownsRow w.heap.size 24 2 v n (pk l') ∧ Below w.heap.size w w' := by
  have hne := H.row.1
  have HK : Hid (Calls _ _ _ w _) := skeys_all base q ga kA m k N n fc fa A es cnt w H hn
  have hlt : q < w.heap.size := H.b.lt
  clear H
  have HI : Hid (∀ v W, W.ownsRow w.heap.size 24 2 v n (pk (es.map pr)) → Calls _ _ _ W _) := fun v W h => inOrder_any w.heap.size n v (es.map pr) W h hn (by rw [List.length_map]; exact hne.symm)
  go_enter Try.func16, Try.ntmps16
  go_wp2_with (first
    | (go_at_call 45; go_must (refine HK.out.mono ?_; rintro e W1 ⟨v1, rfl, r1, b1⟩; rw [kflat_pr] at r1))
    | (go_at_call 44; go_must (refine (HI.out _ _ r1).mono ?_; rintro e W2 ⟨rfl, l', p1, p2, r2, b2⟩)))
  go_ret
  exact ⟨_, l', rfl, p1, p2 hd, r2, b1.trans b2⟩
set_option maxRecDepth 100000 in
set_option maxHeartbeats 4000000 in
theorem Cm.nodup {base q ga kA m N t n fc : Nat} {tag : Int} {fa : Option Addr} {es : List En} {w : World} (H : Cm base q ga kA m N tag t fa n fc es w) : (es.map pr).Nodup := by
  refine List.pairwise_iff_getElem.2 fun i j hi hj hij e => ?_
  rw [List.length_map] at hi hj
  rw [List.getElem_map, List.getElem_map] at e
  have := H.apart (i := i) (j := j) (List.getElem?_eq_getElem hi) (List.getElem?_eq_getElem hj) (congrArg Prod.fst e)
  omega
theorem keysM (base q ga kA m N t n fc : Nat) (tag : Int) (fa : Option Addr) (es : List En) (w : World) (H : Cm base q ga kA m N tag t fa n fc es w) (hn : n ≤ 65536) :
    Calls Try.prog 16 #[.pointer (some ⟨q, 0, none⟩)] w fun e w' => ∃ v l', e = .returned v ∧ l'.Perm (es.map pr) ∧ Rise l' ∧ w'.ownsRow w.heap.size 24 2 v n (pk l') ∧ Below w.heap.size w w' := by
  have hd := H.nodup
  obtain ⟨k, A, cnt, ca, -⟩ := H
  exact keys_any base q ga kA m k N n fc fa A es cnt w ca hn hd
theorem rise_yes (base n : Nat) (v : Value) (l : List (Int × Int)) (w : World) (H : w.ownsRow base 24 2 v n (pk l)) (hn : n ≤ 65536) (hl : l.length = n) (hs : Rise l) :
    Calls Try.prog 17 #[v] w fun e w' => e = .returned (.bool true) ∧ Below w.heap.size w w' := by
  rw [← kflat_toE] at H
  refine rising_yes base n v (l.map toE) w H hn (by rw [List.length_map]; exact hl.symm) (fun i x y hx hy => ?_)
  rw [List.getElem?_map, Option.map_eq_some_iff] at hx hy
  obtain ⟨x', hx, rfl⟩ := hx
  obtain ⟨y', hy, rfl⟩ := hy
  exact hs i x' y' hx hy
end Go.Proofs.Ytpnalcbpdejpjaa
