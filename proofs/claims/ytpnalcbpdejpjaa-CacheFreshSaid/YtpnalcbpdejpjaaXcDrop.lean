/-
  drop of a slot.
-/
import Derived.Test.YtpnalcbpdejpjaaXcTake2
set_option linter.unusedSimpArgs false
set_option linter.unusedVariables false
namespace Go.Proofs.Ytpnalcbpdejpjaa
open Go.RowKit Classical
set_option maxRecDepth 100000 in
set_option maxHeartbeats 4000000 in
theorem drop_of (base q ga kA m k N sl n fc : Nat) (fa : Option Addr) (A : List Nat) (es : List En) (cnt : Int → Int) (w : World) (S : Nat → Prop) (k0 k1 : Int) (HC : Array Value) (f sz : Int) (r : Bool)
    (hH : HC.size = 9 ∧ HC.all (·.oneCell') = true ∧ HC[7]? = some (.int .i64 f) ∧ HC[8]? = some (.int .i64 sz)) (f0 : 0 ≤ f) (f1 : f ≤ 1099511627776) (n0 : 0 ≤ sz) (n1 : sz ≤ 140737488355328) (hk : (k : Int) + (pg1 f sz - pg0 f sz) ≤ 140000000000000) (hc : ∀ p, -1000000 ≤ cnt p ∧ cnt p ≤ 1000000)
    (hqw : q < w.heap.size) (hmw : m < w.heap.size) (hSw : ∀ b, S b → b < w.heap.size)
    (TK : Calls Try.prog 62 #[.pointer (some ⟨q, 0, none⟩), .int .i64 (sl : Nat)] (w.alloc (.cells #[.int .u16 0, .int .i64 0] 24)) fun e w' => e = .returned (.tuple #[.agg #[.int .u16 k0, .int .i64 k1], .agg HC, .bool r]) ∧ Ca base q ga kA m k N (.slice fa n fc) A es cnt w' ∧ Fr S (w.alloc (.cells #[.int .u16 0, .int .i64 0] 24)) w') :
    Calls Try.prog 37 #[.pointer (some ⟨q, 0, none⟩), .int .i64 (sl : Nat)] w fun e w' => e = .returned (.tuple #[.agg #[.int .u16 k0, .int .i64 k1], .bool r]) ∧ (∃ k' : Nat, (k' : Int) = k + (pg1 f sz - pg0 f sz) ∧ Ca base q ga kA m k' N (.slice fa n fc) A es (addP cnt (pg0 f sz) (pg1 f sz) (-1)) w') ∧ Fr (fun b => S b ∨ b = m) w w' := by
  have HTK : Hid (Calls _ _ _ _ _) := TK
  have HHC : Hid (HC.size = 9 ∧ HC.all (·.oneCell') = true ∧ HC[7]? = some (.int .i64 f) ∧ HC[8]? = some (.int .i64 sz)) := hH
  have HB : Hid ((0 ≤ f ∧ f ≤ 1099511627776 ∧ 0 ≤ sz ∧ sz ≤ 140737488355328) ∧ (k : Int) + (pg1 f sz - pg0 f sz) ≤ 140000000000000 ∧ (∀ p, -1000000 ≤ cnt p ∧ cnt p ≤ 1000000)) := ⟨⟨f0, f1, n0, n1⟩, hk, hc⟩
  clear TK hH f0 f1 n0 n1 hk hc
  go_enter Try.func37, Try.ntmps37
  go_upto_region 1 with fail
  have z4 : Blk (w.alloc (.cells #[.int .u16 0, .int .i64 0] 24)) w.heap.size #[.int .u16 0, .int .i64 0] 24 := Blk.new w _ _
  have hs0 : (w.alloc (.cells #[.int .u16 0, .int .i64 0] 24)).heap.size = w.heap.size + 1 := by simp
  have fr0 : Fr (fun b => S b ∨ b = m) w (w.alloc (.cells #[.int .u16 0, .int .i64 0] 24)) := Fr.of_below ((Below.refl _ _).alloc (Nat.le_refl _) _)
  generalize w.alloc (.cells #[.int .u16 0, .int .i64 0] 24) = W0 at *
  go_cut [6, 7, 8] (fun a b c wx => ∃ b6 b7, a = .pointer (some ⟨b6, 0, none⟩) ∧ b = .pointer (some ⟨b7, 0, none⟩) ∧ c = .bool r ∧ Blk wx b6 #[.int .u16 k0, .int .i64 k1] 24 ∧ Blk wx b7 HC 84 ∧ Blk wx w.heap.size #[.int .u16 0, .int .i64 0] 24 ∧ Ca base q ga kA m k N (.slice fa n fc) A es cnt wx ∧ Fr (fun b => S b ∨ b = m) w wx ∧ w.heap.size < b6 ∧ w.heap.size < b7)
  case first =>
    have nS : ¬ S w.heap.size := fun h => by have := hSw _ h; omega
    go_wp2_with (first
      | (go_at_call 62; go_must (refine HTK.out.mono ?_; rintro e W1 ⟨rfl, ca1, fr1⟩))
      | (refine wpList_store_blk rfl 24 _ _ rfl W1.heap.size #[.int .u16 0, .int .i64 0] #[.int .u16 k0, .int .i64 k1] 24 rfl rfl ((Blk.new W1 _ _).old _) rfl (by kernel_rfl) (by kernel_rfl) W1.heap.size W1 (Nat.le_refl _) (((Below.refl _ _).alloc (Nat.le_refl _) _).alloc (by simp) _) ?_; intro w5 z5 hb5 hk5; have z6 := hk5 (W1.heap.size + 1) #[.int .u16 0, .int .i64 0, .string ⟨#[]⟩, .int .i64 0, .slice none 0 0, .int .i64 0, .int .i64 0, .int .i64 0, .int .i64 0] 84 (by omega) (by have := Blk.new (W1.alloc (.cells #[.int .u16 0, .int .i64 0] 24)) #[.int .u16 0, .int .i64 0, .string ⟨#[]⟩, .int .i64 0, .slice none 0 0, .int .i64 0, .int .i64 0, .int .i64 0, .int .i64 0] 84; simpa using this); clear hk5)
      | (refine wpList_store_blk rfl 84 _ _ rfl (W1.heap.size + 1) #[.int .u16 0, .int .i64 0, .string ⟨#[]⟩, .int .i64 0, .slice none 0 0, .int .i64 0, .int .i64 0, .int .i64 0, .int .i64 0] HC 84 rfl rfl z6 (by rw [HHC.out.1]; rfl) (by rw [HHC.out.1]; kernel_rfl) HHC.out.2.1 W1.heap.size W1 (by omega) hb5 ?_; intro w7 z7 hb7 hk7; have z8 := hk7 _ _ _ (by omega) z5; clear hk7))
    go_meet
    have hsz := fr1.size
    refine ⟨_, _, rfl, rfl, rfl, z8, z7, ((fr1.blk z4 nS).below (fr1.blk z4 nS).lt hb7), ca1.on hb7, (fr0.andThen fr1 (fun b h => .inl (.inl h))).trans (Fr.of_below hb7), by omega, by omega⟩
  case rest =>
  clear HTK fr0 z4
  obtain ⟨b6, b7, rfl, rfl, rfl, z6, z7, z4, ca, fr, h6, h7⟩ := hcut
  generalize wc = W1 at *
  have c2 : W1.cell? ⟨q, 2, none⟩ = some (.map (some m)) := ca.b.cell 2
  have d7 : W1.cell? ⟨b7, 7, none⟩ = some (.int .i64 f) := (z7.cell 7).trans HHC.out.2.2.1
  have d8 : W1.cell? ⟨b7, 8, none⟩ = some (.int .i64 sz) := (z7.cell 8).trans HHC.out.2.2.2
  have RM : Hid (Calls _ _ _ W1.drew _) := remove_any f sz m k cnt W1.drew HB.out.1.1 HB.out.1.2.1 HB.out.1.2.2.1 HB.out.1.2.2.2 HB.out.2.1 HB.out.2.2 (ca.mr.on (Below.refl _ _).drew)
  go_upto_region 2 with fail
  go_cut [] (fun wx => ∃ k' : Nat, (k' : Int) = k + (pg1 f sz - pg0 f sz) ∧ Ca base q ga kA m k' N (.slice fa n fc) A es (addP cnt (pg0 f sz) (pg1 f sz) (-1)) wx ∧ Fr (fun b => S b ∨ b = m) w wx ∧ Blk wx b6 #[.int .u16 k0, .int .i64 k1] 24 ∧ Blk wx w.heap.size #[.int .u16 0, .int .i64 0] 24)
  case first =>
    have n1 := ca.mr.apart ca.b
    have n2 := ca.mr.row ca.a
    have n3 := ca.mr.apart z6
    have n4 := ca.mr.apart z4
    have HN : Hid (q ≠ m ∧ ga ≠ m ∧ b6 ≠ m ∧ w.heap.size ≠ m) := ⟨fun e => n1 e.symm, fun e => n2 e.symm, fun e => n3 e.symm, fun e => n4 e.symm⟩
    have HG : Hid (∀ b, fa = some ⟨b, 0, none⟩ → b ≠ m) := fun b e => by
      subst e
      have hf := ca.f
      obtain ⟨a9, c9, e9, _⟩ := orow_form hf
      cases e9
      exact fun eb => ca.mr.row hf eb.symm
    clear n1 n2 n3 n4
    go_still_tail 6, (by kernel_rfl)
    go_wp2_with (go_at_call 63; go_must (refine RM.out.mono ?_; rintro e W2 ⟨rfl, ⟨k', hk', mk⟩, hg⟩))
    go_meet
    have g : Fr (fun b => b = m) W1.drew W2 := Fr.grown hg rfl
    have ca1 : Ca base q ga kA m k N (.slice fa n fc) A es cnt W1.drew := ca.on (Below.refl _ _).drew
    refine ⟨k', hk', ⟨g.blk ca1.b HN.out.1, g.orow ca1.a (fun x c e => by cases e; exact HN.out.2.1), g.orow ca1.f (fun x c e => by cases e; exact HG.out _ rfl), mk, ca1.v, ca1.hq, ca1.hm⟩, (fr.trans (Fr.of_below (Below.refl _ _).drew)).andThen g (fun b h => .inl (.inr h)), g.blk z6.drew HN.out.2.2.1, g.blk z4.drew HN.out.2.2.2⟩
  case rest =>
  clear ca fr z6 z4 z7 c2 d7 d8 RM
  obtain ⟨k', hk', ca, fr, z6, z4⟩ := hcut
  generalize wc = W2 at *
  go_upto_region 3 with fail
  go_wp2_with (first
    | (refine wpList_load_blk rfl 24 _ rfl b6 rfl #[.int .u16 k0, .int .i64 k1] _ z6 Try.underlying24 rfl (by kernel_rfl) ?_)
    | (refine wpList_store_mid rfl 24 _ _ rfl w.heap.size 0 #[.int .u16 k0, .int .i64 k1] rfl rfl (z4.there' 2 rfl) (by kernel_rfl) (by kernel_rfl) ?_))
  have z5 : Blk (W2.setCells w.heap.size 0 (#[.int .u16 k0, .int .i64 k1] : Array Value).toList) w.heap.size #[.int .u16 k0, .int .i64 k1] 24 := z4.setAll rfl
  refine ret_agg2 (m := w.heap.size) (L := #[.int .u16 k0, .int .i64 k1]) (x := .bool r) Try.results37 (by kernel_rfl) (by kernel_rfl) (by kernel_rfl) z5 Try.underlying24 rfl (by kernel_rfl) ?_
  have g : Fr (fun b => b = w.heap.size) W2 (W2.setCells w.heap.size 0 (#[.int .u16 k0, .int .i64 k1] : Array Value).toList) := (Fr.refl (fun b => b = w.heap.size) W2).setCells (b := w.heap.size) (.inl rfl) 0 _
  refine ⟨rfl, ⟨k', hk', ca.fr g (fun e => by have : q = w.heap.size := e; omega) (fun e => orow_blk ca.a z4 (by decide) e) (fun e => ca.mr.apart z4 e) (fun b e eb => ?_)⟩, fr.andThen g (fun b h => .inr (by have : b = w.heap.size := h; omega))⟩
  subst e
  have hf := ca.f
  obtain ⟨a9, c9, e9, _⟩ := orow_form hf
  cases e9
  exact orow_blk hf z4 (by decide) eb
end Go.Proofs.Ytpnalcbpdejpjaa
