/-
  put into an empty slot.
-/
import Derived.Test.YtpnalcbpdejpjaaXcDrop
import Derived.Deep.DeepAppendRoom
import Derived.ArgAppend
set_option linter.unusedSimpArgs false
set_option linter.unusedVariables false
namespace Go.Proofs.Ytpnalcbpdejpjaa
open Go.RowKit Classical
theorem Try.infoEnt : (Try.prog.info? 113).map (fun i => (i.zero, i.size, i.bytes)) = some (some (.agg #[.int .i64 0, .int .u16 0, .int .i64 0, .int .u16 0, .int .i64 0, .string ⟨#[]⟩, .int .i64 0, .slice none 0 0, .int .i64 0, .int .i64 0, .int .i64 0, .int .i64 0]), 12, 120) := by kernel_rfl
/-- append of one entry that lies in a block just made. -/
theorem run_appE {cells : List Value} {n c : Nat} {ad : Option Addr} {W : World} {base : Nat} {cs : Array Value} (ty : TypeId) (hown : W.ownsRow base 113 12 (.slice ad n c) n cells) (hbase : base ≤ W.heap.size) (hcs : cs.size = 12) (h1 : ∀ u ∈ cs.toList, u.oneCell' = true) (hlm : n ≤ 1000000) :
    ∃ ad' c' w', (Builtin.append_ #[77, 77] ty #[.slice ad n c, .slice (some ⟨W.heap.size, 0, none⟩) 1 1]).run Try.prog (W.alloc (.cells cs 113)) = .ok (.slice ad' (n + 1) c') w' ∧ w'.ownsRow base 113 12 (.slice ad' (n + 1) c') (n + 1) (cells ++ cs.toList) ∧ Fr (fun k => (Value.slice ad n c).ownBlock = some k) W w' ∧ ((Value.slice ad' (n + 1) c').ownBlock = (Value.slice ad n c).ownBlock ∨ ∃ b, W.heap.size ≤ b ∧ (Value.slice ad' (n + 1) c').ownBlock = some b) := by
  obtain ⟨i0, hi, hz0, hz1, hz2⟩ := info_parts Try.infoEnt
  have hB : Blk (W.alloc (.cells cs 113)) W.heap.size cs 113 := Blk.new W _ _
  have hN : ∀ j u, cs.toList[j]? = some u → (W.alloc (.cells cs 113)).cell? ((⟨W.heap.size, 0, none⟩ : Addr).add j) = some u := by
    intro j u hu
    have := hB.cell j
    rw [← Array.getElem?_toList, hu] at this
    by_cases hj : j = 0
    · subst hj; simpa [Addr.add] using this
    · simpa [Addr.add, hj] using this
  have hcl := hown.1
  have ha1 : Fr (fun k => (Value.slice ad n c).ownBlock = some k) W (W.alloc (.cells cs 113)) := Fr.of_below ((Below.refl _ _).alloc (Nat.le_refl _) _)
  have hnl : cs.toList.length = 1 * 12 := by rw [Array.length_toList, hcs]
  have fin : ∀ v' w', w'.ownsRow (W.alloc (.cells cs 113)).heap.size 113 12 v' (n + 1) (cells ++ cs.toList) → (W.alloc (.cells cs 113)).grownBy w' none → ∃ ad' c', v' = .slice ad' (n + 1) c' ∧ w'.ownsRow base 113 12 (.slice ad' (n + 1) c') (n + 1) (cells ++ cs.toList) ∧ Fr (fun k => (Value.slice ad n c).ownBlock = some k) W w' ∧ ((Value.slice ad' (n + 1) c').ownBlock = (Value.slice ad n c).ownBlock ∨ ∃ b, W.heap.size ≤ b ∧ (Value.slice ad' (n + 1) c').ownBlock = some b) := by
    intro v' w' r1 r2
    obtain ⟨ad', c', rfl⟩ := orow_some r1 (by omega)
    have hge := (orow_base r1).1
    rw [show (W.alloc (.cells cs 113)).heap.size = W.heap.size + 1 by simp] at hge
    exact ⟨_, _, rfl, orow_lower r1 (by simp; omega), ha1.trans ⟨r2.os, r2.tape, r2.output, r2.size, fun k hk _ => r2.block k hk (by simp)⟩, .inr ⟨ad', by omega, rfl⟩⟩
  cases ad with
  | none =>
    obtain ⟨rfl, rfl⟩ := orow_none hown
    obtain rfl : cells = [] := List.eq_nil_of_length_eq_zero (by simpa using hcl)
    obtain ⟨v', w', hrun, r1, r2, _⟩ := run_append_own (P := Try.prog) (W.alloc (.cells cs 113)) (W.alloc (.cells cs 113)).heap.size 77 ty 113 i0 _ 12 120 (by kernel_rfl) hi hz0 hz1 hz2 rfl (by decide) (.slice none 0 0) 0 [] (World.ownsRow_nil _ _ 113 12) ⟨W.heap.size, 0, none⟩ 1 1 cs.toList hnl hN h1 (by unfold maxLen; omega) (by omega) (Nat.le_refl _)
    obtain ⟨ad', c', rfl, h3⟩ := fin v' w' r1 r2
    exact ⟨ad', c', w', hrun, h3⟩
  | some ad =>
    obtain ⟨g, rfl⟩ := orow_where hown
    by_cases hroom : n + 1 ≤ c
    · obtain ⟨w', hrun, r1, r2⟩ := run_append_own_spare (P := Try.prog) (W.alloc (.cells cs 113)) base 77 ty 113 i0 12 (by kernel_rfl) hi hz1 g n c cells (World.ownsRow.alloc hown _) ⟨W.heap.size, 0, none⟩ 1 1 cs.toList hnl hN h1 hroom
      exact ⟨_, _, w', hrun, r1, ha1.trans (Fr.grown r2 rfl), .inl rfl⟩
    · obtain ⟨v', w', hrun, r1, r2⟩ := run_append_arg_grows (P := Try.prog) (W.alloc (.cells cs 113)) 77 ty 113 i0 _ 12 120 (by kernel_rfl) hi hz0 hz1 hz2 rfl (by decide) ⟨g, 0, none⟩ n c cells hcl (fun j u hu => by
        have hj : j < n * 12 := by have := (List.getElem?_eq_some_iff.1 hu).1; omega
        have := orow_cell (World.ownsRow.alloc hown (.cells cs 113)) j hj
        rw [hu] at this
        rw [Addr.add_lit, Nat.zero_add]; exact this) ⟨W.heap.size, 0, none⟩ 1 1 cs.toList hnl hN (by omega) (by unfold maxLen; omega) (by omega)
      obtain ⟨ad', c', rfl, h3⟩ := fin v' w' r1 r2
      exact ⟨ad', c', w', hrun, h3⟩
theorem exec_app {P : Program} {ρ : Operand → Value} {o : Oper} {s x : Operand} {t : TypeId} {v y u : Value} {w w' : World} (ho : o.op = .call { callee := .builtin .append, args := #[s, x], argTypes := #[t, t] }) (hs : ρ s = v) (hx : ρ x = y) (hr : (Builtin.append_ #[t, t] o.type #[v, y]).run P w = .ok u w') : (execOp ρ o).run P w = .ok (.value u) w' := by
  unfold execOp
  simp only [ho, resolve, invoke, builtin, Sem.run_bind, Sem.run_pure, Result.andThen_ok, List.map_toArray, List.map_cons, List.map_nil, hs, hx, hr]
theorem worldM {P : Program} {ops : Array Oper} {Q : Exit → Act → World → Prop} {S : World → Prop} {m i : Nat} {fuel : Nat} {l : Array Bool} {a : Act} {w w1 : World} {o : Oper} {v : Value} (a' : Act)
    (hr : Region.ready .any ops l = [i]) (hi : ops[i]? = some o) (hw : Region.wanted o (yielded ops a.tmps) = true) (he : (execOp a.eval o).run P w = .ok (.value v) w1) (ha : a.put o.dst v = a') (h : S w1 ∧ AnyM P ops Q S m fuel (l.setIfInBounds i true) a' w1) : AnyM P ops Q S m (fuel + 1) l a w :=
  ⟨fun h0 => absurd (hr.symm.trans h0) (by simp), fun j hj => by
    obtain rfl : j = i := by rw [hr] at hj; simpa using hj
    subst ha
    unfold wpOp
    rw [hi]
    simp only [hw, if_true]
    left
    unfold Oper.wp
    rw [he]
    exact ⟨fun _ => h.1, h.2⟩⟩
/-- The worlds of the first step of put. -/
structure Pw (w : World) (q : Nat) (XK XH : Array Value) (fv : Value) (v : World) : Prop where
  k : Blk v w.heap.size XK 24
  h : Blk v (w.heap.size + 1) XH 84
  c : v.cell? ⟨q, 1, none⟩ = some fv
set_option maxRecDepth 100000 in
set_option maxHeartbeats 4000000 in
theorem put_any (base q ga kA m k N n fc : Nat) (fa : Option Addr) (A : List Nat) (es : List En) (cnt : Int → Int) (x : En) (w : World) (H : Ca base q ga kA m k N (.slice fa n fc) A es cnt w) (hsl : A[x.slot]? = some 0) (hN : N ≤ 65536) (hn : n ≤ 65536) (hbase : base ≤ w.heap.size) :
    Calls Try.prog 40 #[.pointer (some ⟨q, 0, none⟩), .int .i64 (x.slot : Nat), .agg #[.int .u16 x.pc, .int .i64 x.tag], .agg #[.int .u16 x.pc, .int .i64 x.tag, .string x.s, .int .i64 x.ni, .slice x.oa x.on x.oc, .int .i64 x.lo, .int .i64 x.hi, .int .i64 x.f, .int .i64 x.sz]] w fun e w' => e = .returned (.tuple #[]) ∧ (∃ fa' fc', Ca base q ga kA m k N (.slice fa' (n + 1) fc') (A.set x.slot (n + 1)) (es ++ [x]) cnt w' ∧ ((Value.slice fa' (n + 1) fc').ownBlock = (Value.slice fa n fc).ownBlock ∨ ∃ b, w.heap.size ≤ b ∧ (Value.slice fa' (n + 1) fc').ownBlock = some b)) ∧ Fr (CaS q ga m (.slice fa n fc)) w w' := by
  obtain ⟨a9, c9, e9, hfa⟩ := orow_form H.f
  have hne : n = es.length := by cases e9; rfl
  clear e9 hfa a9 c9
  have hslN : x.slot < N := by rw [← H.v.len]; exact (List.getElem?_eq_some_iff.1 hsl).1
  have hf0 := H.f
  rw [← hne] at hf0
  have hqw := H.b.lt
  have c0 : w.cell? ⟨q, 0, none⟩ = some (.slice (some ⟨ga, 0, none⟩) N kA) := H.b.cell 0
  have c1 : w.cell? ⟨q, 1, none⟩ = some (.slice fa n fc) := H.b.cell 1
  have HH : Hid (Ca base q ga kA m k N (.slice fa n fc) A es cnt w) := H
  have HF : Hid (w.ownsRow base 113 12 (.slice fa n fc) n (eflat es)) := hf0
  have HS : Hid (A[x.slot]? = some 0) := hsl
  have HNE : Hid (n = es.length) := hne
  clear H hf0 hsl hne
  go_enter Try.func40, Try.ntmps40
  go_upto_region 1 with fail
  have hb0 : Below w.heap.size w ((w.alloc (.cells #[.int .u16 x.pc, .int .i64 x.tag] 24)).alloc (.cells #[.int .u16 x.pc, .int .i64 x.tag, .string x.s, .int .i64 x.ni, .slice x.oa x.on x.oc, .int .i64 x.lo, .int .i64 x.hi, .int .i64 x.f, .int .i64 x.sz] 84)) := ((Below.refl _ _).alloc (Nat.le_refl _) _).alloc (by simp) _
  have zk : Blk ((w.alloc (.cells #[.int .u16 x.pc, .int .i64 x.tag] 24)).alloc (.cells #[.int .u16 x.pc, .int .i64 x.tag, .string x.s, .int .i64 x.ni, .slice x.oa x.on x.oc, .int .i64 x.lo, .int .i64 x.hi, .int .i64 x.f, .int .i64 x.sz] 84)) w.heap.size #[.int .u16 x.pc, .int .i64 x.tag] 24 := (Blk.new w #[.int .u16 x.pc, .int .i64 x.tag] 24).old _
  have zh : Blk ((w.alloc (.cells #[.int .u16 x.pc, .int .i64 x.tag] 24)).alloc (.cells #[.int .u16 x.pc, .int .i64 x.tag, .string x.s, .int .i64 x.ni, .slice x.oa x.on x.oc, .int .i64 x.lo, .int .i64 x.hi, .int .i64 x.f, .int .i64 x.sz] 84)) (w.heap.size + 1) #[.int .u16 x.pc, .int .i64 x.tag, .string x.s, .int .i64 x.ni, .slice x.oa x.on x.oc, .int .i64 x.lo, .int .i64 x.hi, .int .i64 x.f, .int .i64 x.sz] 84 := by
    have := Blk.new (w.alloc (.cells #[.int .u16 x.pc, .int .i64 x.tag] 24)) #[.int .u16 x.pc, .int .i64 x.tag, .string x.s, .int .i64 x.ni, .slice x.oa x.on x.oc, .int .i64 x.lo, .int .i64 x.hi, .int .i64 x.f, .int .i64 x.sz] 84
    simpa using this
  replace c0 := (hb0.cell (p := ⟨q, 0, none⟩) (cell_lt c0)).trans c0
  replace c1 := (hb0.cell (p := ⟨q, 1, none⟩) (cell_lt c1)).trans c1
  have HC0 : Hid (Ca base q ga kA m k N (.slice fa n fc) A es cnt ((w.alloc (.cells #[.int .u16 x.pc, .int .i64 x.tag] 24)).alloc (.cells #[.int .u16 x.pc, .int .i64 x.tag, .string x.s, .int .i64 x.ni, .slice x.oa x.on x.oc, .int .i64 x.lo, .int .i64 x.hi, .int .i64 x.f, .int .i64 x.sz] 84))) := HH.out.on hb0
  have HF0 : Hid (((w.alloc (.cells #[.int .u16 x.pc, .int .i64 x.tag] 24)).alloc (.cells #[.int .u16 x.pc, .int .i64 x.tag, .string x.s, .int .i64 x.ni, .slice x.oa x.on x.oc, .int .i64 x.lo, .int .i64 x.hi, .int .i64 x.f, .int .i64 x.sz] 84)).ownsRow base 113 12 (.slice fa n fc) n (eflat es)) := orow_keep HF.out hb0
  generalize (w.alloc (.cells #[.int .u16 x.pc, .int .i64 x.tag] 24)).alloc (.cells #[.int .u16 x.pc, .int .i64 x.tag, .string x.s, .int .i64 x.ni, .slice x.oa x.on x.oc, .int .i64 x.lo, .int .i64 x.hi, .int .i64 x.f, .int .i64 x.sz] 84) = W0 at *
  have hbs := hb0.size
  have n1 : ¬ (Value.slice fa n fc).ownBlock = some q := fun e => orow_type HF0.out HC0.out.b (by decide) e
  have n2 : ¬ (Value.slice fa n fc).ownBlock = some w.heap.size := fun e => orow_type HF0.out zk (by decide) e
  have n3 : ¬ (Value.slice fa n fc).ownBlock = some (w.heap.size + 1) := fun e => orow_type HF0.out zh (by decide) e
  have HN : Hid (¬ (Value.slice fa n fc).ownBlock = some q ∧ ¬ (Value.slice fa n fc).ownBlock = some w.heap.size ∧ ¬ (Value.slice fa n fc).ownBlock = some (w.heap.size + 1)) := ⟨n1, n2, n3⟩
  clear n1 n2 n3
  go_cut [] (fun wx => ∃ fa' fc', wx.ownsRow base 113 12 (.slice fa' (n + 1) fc') (n + 1) (eflat (es ++ [x])) ∧ wx.cell? ⟨q, 1, none⟩ = some (.slice fa' (n + 1) fc') ∧ Fr (fun k => k = q ∨ (Value.slice fa n fc).ownBlock = some k) W0 wx ∧ Blk wx q #[.slice (some ⟨ga, 0, none⟩) N kA, .slice fa' (n + 1) fc', .map (some m)] 88 ∧ ((Value.slice fa' (n + 1) fc').ownBlock = (Value.slice fa n fc).ownBlock ∨ ∃ b, W0.heap.size ≤ b ∧ (Value.slice fa' (n + 1) fc').ownBlock = some b))
  case first =>
    rename_i J0 K0 hJ0 hK0
    have s0 : Pw w q #[.int .u16 x.pc, .int .i64 x.tag] #[.int .u16 x.pc, .int .i64 x.tag, .string x.s, .int .i64 x.ni, .slice x.oa x.on x.oc, .int .i64 x.lo, .int .i64 x.hi, .int .i64 x.f, .int .i64 x.sz] (.slice fa n fc) W0.drew := ⟨zk, zh, c1⟩
    refine regionM (S := Pw w q #[.int .u16 x.pc, .int .i64 x.tag] #[.int .u16 x.pc, .int .i64 x.tag, .string x.s, .int .i64 x.ni, .slice x.oa x.on x.oc, .int .i64 x.lo, .int .i64 x.hi, .int .i64 x.f, .int .i64 x.sz] (.slice fa n fc)) 13 (by kernel_rfl) ?_
    refine takeM (i := 0) (v := .pointer (some ⟨q, 0, none⟩)) _ rfl (by kernel_rfl) (by kernel_rfl) (by kernel_rfl) (by kernel_rfl) (fun _ _ _ h => h) (.inl ⟨by kernel_rfl, fun _ _ => by kernel_rfl⟩) s0 rfl ?_
    refine takeM (i := 1) (v := .pointer (some ⟨q, 0, none⟩)) _ rfl (by kernel_rfl) (by kernel_rfl) (by kernel_rfl) (by kernel_rfl) (fun _ _ _ h => h) (.inl ⟨by kernel_rfl, fun _ _ => by kernel_rfl⟩) s0 rfl ?_
    refine takeM (i := 2) (v := .pointer (some ⟨q, 0, none⟩)) _ rfl (by kernel_rfl) (by kernel_rfl) (by kernel_rfl) (by kernel_rfl) (fun _ _ _ h => h) (.inl ⟨by kernel_rfl, fun _ _ => by kernel_rfl⟩) s0 rfl ?_
    refine takeM (i := 3) (v := .pointer (some ⟨q, 1, none⟩)) _ rfl (by kernel_rfl) (by kernel_rfl) (by kernel_rfl) (by kernel_rfl) (fun _ _ _ h => h) (.inl ⟨by kernel_rfl, fun _ _ => by kernel_rfl⟩) s0 rfl ?_
    refine takeM (i := 4) (v := .slice fa n fc) _ rfl (by kernel_rfl) (by kernel_rfl) (by kernel_rfl) (by kernel_rfl) (fun _ _ _ h => h) (.inl ⟨by kernel_rfl, fun v hv => by have c := hv.c; go_simp⟩) s0 rfl ?_
    refine takeM (i := 5) (v := .int .i64 ((x.slot : Nat) : Int)) _ rfl (by kernel_rfl) (by kernel_rfl) (by kernel_rfl) (by kernel_rfl) (fun _ _ _ h => h) (.inl ⟨by kernel_rfl, fun _ _ => by kernel_rfl⟩) s0 rfl ?_
    refine takeM (i := 6) (v := .agg (#[.int .u16 x.pc, .int .i64 x.tag] : Array Value).toList.toArray) _ rfl (by kernel_rfl) (by kernel_rfl) (by kernel_rfl) (by kernel_rfl) (fun _ _ _ h => h) (.inl ⟨by kernel_rfl, fun v hv => exec_loadM (cs := (#[.int .u16 x.pc, .int .i64 x.tag] : Array Value).toList) rfl (by kernel_rfl) hv.k.range' Try.underlying24 rfl (by kernel_rfl)⟩) s0 rfl ?_
    refine takeM (i := 7) (v := .agg (#[.int .u16 x.pc, .int .i64 x.tag, .string x.s, .int .i64 x.ni, .slice x.oa x.on x.oc, .int .i64 x.lo, .int .i64 x.hi, .int .i64 x.f, .int .i64 x.sz] : Array Value).toList.toArray) _ rfl (by kernel_rfl) (by kernel_rfl) (by kernel_rfl) (by kernel_rfl) (fun _ _ _ h => h) (.inl ⟨by kernel_rfl, fun v hv => exec_loadM (cs := (#[.int .u16 x.pc, .int .i64 x.tag, .string x.s, .int .i64 x.ni, .slice x.oa x.on x.oc, .int .i64 x.lo, .int .i64 x.hi, .int .i64 x.f, .int .i64 x.sz] : Array Value).toList) rfl (by kernel_rfl) hv.h.range' Try.underlying84 rfl (by kernel_rfl)⟩) s0 rfl ?_
    refine takeM (i := 8) (v := .agg #[.int .i64 ((x.slot : Nat) : Int), .int .u16 x.pc, .int .i64 x.tag, .int .u16 x.pc, .int .i64 x.tag, .string x.s, .int .i64 x.ni, .slice x.oa x.on x.oc, .int .i64 x.lo, .int .i64 x.hi, .int .i64 x.f, .int .i64 x.sz]) _ rfl (by kernel_rfl) (by kernel_rfl) (by kernel_rfl) (by kernel_rfl) (fun _ _ _ h => h) (.inl ⟨by kernel_rfl, fun _ _ => by kernel_rfl⟩) s0 rfl ?_
    have hfd : W0.drew.ownsRow base 113 12 (.slice fa n fc) n (eflat es) := orow_keep HF0.out (Below.refl _ _).drew
    obtain ⟨fa', fc', W2, hrun, r2, fr2, hw2⟩ := run_appE (cs := #[.int .i64 ((x.slot : Nat) : Int), .int .u16 x.pc, .int .i64 x.tag, .int .u16 x.pc, .int .i64 x.tag, .string x.s, .int .i64 x.ni, .slice x.oa x.on x.oc, .int .i64 x.lo, .int .i64 x.hi, .int .i64 x.f, .int .i64 x.sz]) 77 hfd (by show base ≤ W0.heap.size; omega) rfl (List.all_eq_true.1 (show (#[.int .i64 ((x.slot : Nat) : Int), .int .u16 x.pc, .int .i64 x.tag, .int .u16 x.pc, .int .i64 x.tag, .string x.s, .int .i64 x.ni, .slice x.oa x.on x.oc, .int .i64 x.lo, .int .i64 x.hi, .int .i64 x.f, .int .i64 x.sz] : Array Value).toList.all (·.oneCell') = true from rfl)) (by omega)
    have s1 : Pw w q #[.int .u16 x.pc, .int .i64 x.tag] #[.int .u16 x.pc, .int .i64 x.tag, .string x.s, .int .i64 x.ni, .slice x.oa x.on x.oc, .int .i64 x.lo, .int .i64 x.hi, .int .i64 x.f, .int .i64 x.sz] (.slice fa n fc) (W0.drew.alloc (.cells #[.int .i64 ((x.slot : Nat) : Int), .int .u16 x.pc, .int .i64 x.tag, .int .u16 x.pc, .int .i64 x.tag, .string x.s, .int .i64 x.ni, .slice x.oa x.on x.oc, .int .i64 x.lo, .int .i64 x.hi, .int .i64 x.f, .int .i64 x.sz] 113)) := ⟨zk.drew.old _, zh.drew.old _, (((Below.refl W0.drew.heap.size W0.drew).alloc (Nat.le_refl _) _).cell (p := ⟨q, 1, none⟩) (cell_lt s0.c)).trans s0.c⟩
    have zq2 : Blk W2 q #[.slice (some ⟨ga, 0, none⟩) N kA, .slice fa n fc, .map (some m)] 88 := fr2.blk HC0.out.b.drew HN.out.1
    have s2 : Pw w q #[.int .u16 x.pc, .int .i64 x.tag] #[.int .u16 x.pc, .int .i64 x.tag, .string x.s, .int .i64 x.ni, .slice x.oa x.on x.oc, .int .i64 x.lo, .int .i64 x.hi, .int .i64 x.f, .int .i64 x.sz] (.slice fa n fc) W2 := ⟨fr2.blk zk.drew HN.out.2.1, fr2.blk zh.drew HN.out.2.2, zq2.cell 1⟩
    refine worldM (i := 9) (v := .slice (some ⟨W0.drew.heap.size, 0, none⟩) 1 1) (w1 := W0.drew.alloc (.cells #[.int .i64 ((x.slot : Nat) : Int), .int .u16 x.pc, .int .i64 x.tag, .int .u16 x.pc, .int .i64 x.tag, .string x.s, .int .i64 x.ni, .slice x.oa x.on x.oc, .int .i64 x.lo, .int .i64 x.hi, .int .i64 x.f, .int .i64 x.sz] 113)) _ (by kernel_rfl) rfl (by kernel_rfl) (by kernel_rfl) rfl ⟨s1, ?_⟩
    refine worldM (i := 10) (v := .slice fa' (n + 1) fc') (w1 := W2) _ (by kernel_rfl) rfl (by kernel_rfl) (exec_app rfl (by kernel_rfl) (by kernel_rfl) hrun) rfl ⟨s2, ?_⟩
    refine worldM (i := 11) (v := .pointer (some ⟨q, 0, none⟩)) (w1 := W2) _ (by kernel_rfl) rfl (by kernel_rfl) (by kernel_rfl) rfl ⟨s2, ?_⟩
    refine takeM (i := 12) (v := .pointer (some ⟨q, 1, none⟩)) _ rfl (by kernel_rfl) (by kernel_rfl) (by kernel_rfl) (by kernel_rfl) (fun _ _ _ h => h) (.inl ⟨by kernel_rfl, fun _ _ => by kernel_rfl⟩) s2 rfl ?_
    refine storeM (by kernel_rfl) (by kernel_rfl) ?_
    refine wpOp_store rfl (by kernel_rfl) 77 (.tmp 20) (.tmp 18) rfl q 1 (.slice fa' (n + 1) fc') #[.slice fa' (n + 1) fc'] (by kernel_rfl) (by kernel_rfl) rfl (zq2.thereAt 1 1 (by show 1 + 1 ≤ 3; omega)) (by kernel_rfl) (by kernel_rfl) _ rfl ?_
    intro W3 e3
    have hq2 : ∀ g c, Value.slice fa' (n + 1) fc' = .slice (some ⟨g, 0, none⟩) (n + 1) c → g ≠ q := fun g c e eg => by
      cases e
      subst eg
      rcases hw2 with h | ⟨b, hb, h⟩
      · exact HN.out.1 (h.symm.trans rfl)
      · cases h; have : W0.heap.size ≤ g := hb; omega
    have e3' : W3 = W2.setCell ⟨q, 1, none⟩ (.slice fa' (n + 1) fc') := e3
    have zq3 : Blk W3 q #[.slice (some ⟨ga, 0, none⟩) N kA, .slice fa' (n + 1) fc', .map (some m)] 88 := by rw [e3']; exact zq2.set 1 _
    have r3 : W3.ownsRow base 113 12 (.slice fa' (n + 1) fc') (n + 1) (eflat (es ++ [x])) := by
      rw [e3', eflat_app]
      exact orow_ne r2 hq2
    have fr3 : Fr (fun k => k = q ∨ (Value.slice fa n fc).ownBlock = some k) W0 W3 := by
      rw [e3']
      exact (((Fr.of_below (Below.refl _ _).drew).trans (fr2.mono (fun k h => .inr h))).setCell (.inl (.inl rfl)) _ _)
    exact hK0 _ _ (Met.intro (hJ0 _ _ ⟨.pointer (some ⟨q, 0, none⟩), .pointer (some ⟨q, 0, none⟩), .pointer (some ⟨q, 0, none⟩), .pointer (some ⟨q, 1, none⟩), .slice fa n fc, .int .i64 ((x.slot : Nat) : Int), .agg #[.int .u16 x.pc, .int .i64 x.tag], .agg #[.int .u16 x.pc, .int .i64 x.tag, .string x.s, .int .i64 x.ni, .slice x.oa x.on x.oc, .int .i64 x.lo, .int .i64 x.hi, .int .i64 x.f, .int .i64 x.sz], .agg #[.int .i64 ((x.slot : Nat) : Int), .int .u16 x.pc, .int .i64 x.tag, .int .u16 x.pc, .int .i64 x.tag, .string x.s, .int .i64 x.ni, .slice x.oa x.on x.oc, .int .i64 x.lo, .int .i64 x.hi, .int .i64 x.f, .int .i64 x.sz], .slice (some ⟨W0.drew.heap.size, 0, none⟩) 1 1, .slice fa' (n + 1) fc', .pointer (some ⟨q, 0, none⟩), .pointer (some ⟨q, 1, none⟩), undef, undef, undef, undef, undef, undef, undef, undef, undef, undef, undef, ⟨fa', fc', r3, zq3.cell 1, fr3, zq3, hw2⟩, by kernel_rfl⟩))
  case rest =>
  obtain ⟨fa', fc', r3, c1', fr3, zq3, hw3⟩ := hcut
  generalize wc = W3 at *
  clear zk zh c1 HF
  have m1 := HC0.out.mr.apart HC0.out.b
  have m2 := HC0.out.mr.row HC0.out.a
  have m3 : ¬ (Value.slice fa n fc).ownBlock = some ga := fun e => by
    obtain ⟨g, rfl⟩ : ∃ g, fa = some ⟨g, 0, none⟩ := by
      rcases HF0.out.2 with ⟨h, _⟩ | ⟨g, cap, cur, h, _⟩
      · rw [h] at e; cases e
      · cases h; exact ⟨g, rfl⟩
    cases e
    exact orow_apart HC0.out.a HF0.out (by decide) rfl
  have n4 := orow_blk HC0.out.a HC0.out.b (by decide)
  have ra3 : W3.ownsRow base 3 1 (.slice (some ⟨ga, 0, none⟩) N kA) N (ints A) := fr3.orow HC0.out.a (fun g c e h => by
    cases e
    rcases h with h | h
    · exact n4 h
    · exact m3 h)
  have mk3 : Mk W3 m k cnt := HC0.out.mr.keep (fr3.block m HC0.out.mr.lt (fun h => by
    rcases h with h | h
    · exact m1 h
    · obtain ⟨g, rfl⟩ : ∃ g, fa = some ⟨g, 0, none⟩ := by
        rcases HF0.out.2 with ⟨e, _⟩ | ⟨g, cap, cur, e, _⟩
        · rw [e] at h; cases h
        · cases e; exact ⟨g, rfl⟩
      cases h
      exact HC0.out.mr.row HF0.out rfl))
  have c0' : W3.cell? ⟨q, 0, none⟩ = some (.slice (some ⟨ga, 0, none⟩) N kA) := zq3.cell 0
  have a0 : W3.cell? ⟨ga, x.slot, none⟩ = some (.int .i64 0) := by
    rw [orow_cell ra3 x.slot (by omega)]; unfold ints; rw [List.getElem?_map, HS.out]; rfl
  have f0 := orow_free ra3 x.slot
  have hga : ga < W3.heap.size := (orow_base ra3).2.1
  have hgf : ∀ g c, Value.slice fa' (n + 1) fc' = .slice (some ⟨g, 0, none⟩) (n + 1) c → g ≠ ga := fun g c e => by
    cases e; exact fun eg => orow_apart ra3 r3 (by decide) eg.symm
  have HFIN : Hid (Ca base q ga kA m k N (.slice fa' (n + 1) fc') (A.set x.slot (n + 1)) (es ++ [x]) cnt (W3.drew.setCell ⟨ga, x.slot, none⟩ (.int .i64 ((n + 1 : Nat) : Int)))) := by
    refine ⟨zq3.drew.other (fun e => n4 e.symm) _ _, ?_, ?_, mk3.keep (Below.heap_setCell W3.drew ⟨ga, x.slot, none⟩ _ m m2), ?_, HC0.out.hq, HC0.out.hm⟩
    · rw [← ints_set]
      exact orow_set (orow_keep ra3 (Below.refl _ _).drew) x.slot (by omega) _
    · have hl : (es ++ [x]).length = n + 1 := by rw [List.length_append, ← HNE.out]; rfl
      rw [hl]
      exact orow_ne (orow_keep r3 (Below.refl _ _).drew) hgf
    · have := HC0.out.v.put HS.out
      rwa [← HNE.out] at this
  have HFR : Hid (Fr (CaS q ga m (.slice fa n fc)) w (W3.drew.setCell ⟨ga, x.slot, none⟩ (.int .i64 ((n + 1 : Nat) : Int)))) :=
    (((Fr.of_below hb0).trans ((fr3.mono (fun k h => by rcases h with h | h; exact .inl h; exact .inr (.inr (.inr h)))))).trans (Fr.of_below (Below.refl _ _).drew)).setCell (.inl (.inr (.inl rfl))) _ _
  have hx64 : (x.slot : Int) < (N : Int) := by omega
  have hwn : IntKind.i64.wrap ((n : Int) + 1) = (n : Int) + 1 := by rw [IntKind.wrap_i64]; omega
  have HW3 : Hid ((Value.slice fa' (n + 1) fc').ownBlock = (Value.slice fa n fc).ownBlock ∨ ∃ b, w.heap.size ≤ b ∧ (Value.slice fa' (n + 1) fc').ownBlock = some b) := hw3.imp id (fun ⟨b, h1, h2⟩ => ⟨b, by omega, h2⟩)
  clear HC0 HF0 HN m1 m2 m3 n4 ra3 mk3 r3 zq3 fr3 hgf hw3 HH
  generalize hsx : x.slot = sx at *
  go_upto_region 2 with fail
  go_still_tail 11, (by kernel_rfl)
  go_wp2
  refine bodyPost_end (v := .tuple #[]) (by kernel_rfl) (by kernel_rfl) ?_
  have hwe : (W3.setCell ⟨ga, sx, none⟩ (.int .i64 ((n : Int) + 1))).drew = W3.drew.setCell ⟨ga, sx, none⟩ (.int .i64 ((n + 1 : Nat) : Int)) := rfl
  rw [hwe, hsx]
  exact ⟨rfl, ⟨fa', fc', HFIN.out, HW3.out⟩, HFR.out⟩
end Go.Proofs.Ytpnalcbpdejpjaa
