/-
  The question of Store.
-/
import Derived.Test.YtpnalcbpdejpjaaXcSt
import Derived.Test.YtpnalcbpdejpjaaXcMark
set_option linter.unusedSimpArgs false
set_option linter.unusedVariables false
namespace Go.Proofs.Ytpnalcbpdejpjaa
open Go.RowKit Classical
/-- Does an entry cover a place? -/
def hasE (p : Int) (e : En) : Bool := decide (e.f ≤ p) && decide (p - e.f < e.sz)
theorem has_cov {p : Int} {e : En} (h : hasE p e = true) : cov (p / 256) e = true := by
  unfold hasE at h
  simp at h
  unfold cov pg0 pg1
  rw [decide_eq_true_iff, if_neg (by omega), if_neg (by omega)]
  omega
theorem has_none {es : List En} {p : Int} (h : ¬ 0 < cvr es (p / 256)) : es.filter (hasE p) = [] := by
  rw [List.filter_eq_nil_iff]
  intro e he hh
  have h1 := has_cov hh
  have h2 : e ∈ es.filter (cov (p / 256)) := List.mem_filter.2 ⟨he, h1⟩
  have h3 := List.length_pos_of_mem h2
  unfold cvr at h
  omega
theorem has_not {es : List En} {p : Int} (h : es.filter (hasE p) = []) : es.filter (fun e => !hasE p e) = es := by
  rw [List.filter_eq_self]
  intro e he
  rw [List.filter_eq_nil_iff] at h
  have := h e he
  simpa using this
set_option maxRecDepth 100000 in
set_option maxHeartbeats 4000000 in
theorem quest_any (fg i n bp : Nat) (x : En) (p : Int) (w : World) (c7 : w.cell? ⟨fg, i * 12 + 10, none⟩ = some (.int .i64 x.f)) (c8 : w.cell? ⟨fg, i * 12 + 11, none⟩ = some (.int .i64 x.sz)) (cp : w.cell? ⟨bp, 0, none⟩ = some (.int .i64 p)) (f0 : 0 ≤ x.f) (f1 : x.f ≤ 1099511627776) (p0 : -9223372036854775808 ≤ p) (p1 : p ≤ 9223372036854775807) :
    Calls Try.prog 48 #[.pointer (some ⟨fg, i * 12 + 3, none⟩), .pointer (some ⟨bp, 0, none⟩)] w fun e w' => e = .returned (.bool (hasE p x)) ∧ Below w.heap.size w w' := by
  have HH : Hid (∀ W, Calls _ _ _ W _) := fun W => has_any x.f x.sz p W f0 f1 p0 p1
  have RX : Hid (∀ W : World, Below w.heap.size w W → W.rangeAt fg (i * 12 + 3 + 7) ([.int .i64 x.f, .int .i64 x.sz] : List Value)) := fun W hb j v hv => by
    have hlt := cell_lt c7
    match j, hv with
    | 0, hv => cases hv; exact (hb.cell (p := ⟨fg, i * 12 + 10, none⟩) hlt).trans c7
    | 1, hv => cases hv; exact (hb.cell (p := ⟨fg, i * 12 + 11, none⟩) hlt).trans c8
    | j + 2, hv => simp at hv
  have CP : Hid (∀ W : World, Below w.heap.size w W → W.cell? ⟨bp, 0, none⟩ = some (.int .i64 p)) := fun W hb => (hb.cell (p := ⟨bp, 0, none⟩) (cell_lt cp)).trans cp
  clear c7 c8 f0 f1 p0 p1
  go_enter Try.func48, Try.ntmps48
  go_upto_region 1 with fail
  go_cut [3] (fun a wx => a = .bool (hasE p x) ∧ Below w.heap.size w wx)
  case first =>
    rename_i J0 K0 hJ0 hK0
    have s0 : Below w.heap.size w w.drew := (Below.refl _ _).drew
    refine wp_region_held (S := fun v => Below w.heap.size w v) (by kernel_rfl) ?_
    refine takeH (i := 0) (v := .pointer (some ⟨fg, i * 12 + 3, none⟩)) _ rfl (by kernel_rfl) (by kernel_rfl) (by kernel_rfl) (fun _ _ _ h => h) (.inl ⟨by kernel_rfl, fun _ _ => by kernel_rfl⟩) s0 rfl ?_
    refine takeH (i := 1) (v := .pointer (some ⟨fg, i * 12 + 3, none⟩)) _ rfl (by kernel_rfl) (by kernel_rfl) (by kernel_rfl) (fun _ _ _ h => h) (.inl ⟨by kernel_rfl, fun _ _ => by kernel_rfl⟩) s0 rfl ?_
    refine takeH (i := 2) (v := .pointer (some ⟨fg, i * 12 + 3 + 7, none⟩)) _ rfl (by kernel_rfl) (by kernel_rfl) (by kernel_rfl) (fun _ _ _ h => h) (.inl ⟨by kernel_rfl, fun _ _ => by kernel_rfl⟩) s0 rfl ?_
    refine takeH (i := 3) (v := .agg ([.int .i64 x.f, .int .i64 x.sz] : List Value).toArray) _ rfl (by kernel_rfl) (by kernel_rfl) (by kernel_rfl) (fun _ _ _ h => h) (.inl ⟨by kernel_rfl, fun v hv => exec_loadM (cs := ([.int .i64 x.f, .int .i64 x.sz] : List Value)) rfl (by kernel_rfl) (RX.out v hv) Try.underlying82 rfl (by kernel_rfl)⟩) s0 rfl ?_
    refine takeH (i := 4) (v := .int .i64 p) _ rfl (by kernel_rfl) (by kernel_rfl) (by kernel_rfl) (fun _ _ _ h => h) (.inl ⟨by kernel_rfl, fun v hv => by have c := CP.out v hv; go_simp⟩) s0 rfl ?_
    refine callH (i := 5) (f := 49) (v := .bool (hasE p x)) _ (by kernel_rfl) rfl (by kernel_rfl) (by kernel_rfl) (HH.out _) rfl ?_
    intro V1 hV1
    have s1 : Below w.heap.size w V1 := s0.trans (hV1.mono s0.size)
    refine ⟨s1, ?_⟩
    refine takeH (i := 6) (v := .bool (hasE p x)) _ rfl (by kernel_rfl) (by kernel_rfl) (by kernel_rfl) (fun _ _ _ h => h) (.inl ⟨by kernel_rfl, fun _ _ => by kernel_rfl⟩) s1 rfl ?_
    refine wpAnyH_done (by kernel_rfl) ?_ _
    exact hK0 _ _ (Met.intro (hJ0 _ _ ⟨.bool (hasE p x), .pointer (some ⟨fg, i * 12 + 3, none⟩), .pointer (some ⟨fg, i * 12 + 3, none⟩), .pointer (some ⟨fg, i * 12 + 3 + 7, none⟩), .agg ([.int .i64 x.f, .int .i64 x.sz] : List Value).toArray, .int .i64 p, .bool (hasE p x), ⟨rfl, s1⟩, by kernel_rfl⟩))
  case rest =>
    obtain ⟨rfl, s1⟩ := hcut
    go_wp2
    go_ret
    exact ⟨rfl, s1⟩
set_option maxRecDepth 100000 in
set_option maxHeartbeats 4000000 in
theorem skeys_has (base q ga kA m k N n fc bp : Nat) (fa : Option Addr) (A : List Nat) (es : List En) (cnt : Int → Int) (p : Int) (w : World) (H : Ca base q ga kA m k N (.slice fa n fc) A es cnt w) (cp : w.cell? ⟨bp, 0, none⟩ = some (.int .i64 p)) (he : ∀ e ∈ es, 0 ≤ e.f ∧ e.f ≤ 1099511627776) (p0 : -9223372036854775808 ≤ p) (p1 : p ≤ 9223372036854775807) (hn : n ≤ 65536) :
    Calls Try.prog 45 #[.pointer (some ⟨q, 0, none⟩), .func (.func 48) #[] #[.pointer (some ⟨bp, 0, none⟩)]] w fun e w' => ∃ v, e = .returned v ∧ w'.ownsRow w.heap.size 24 2 v (es.filter (hasE p)).length (kflat (es.filter (hasE p))) ∧ Below w.heap.size w w' := by
  obtain ⟨hne, hf0, -⟩ := H.row
  have c1 : w.cell? ⟨q, 1, none⟩ = some (.slice fa n fc) := H.b.cell 1
  have HF : Hid (w.ownsRow base 113 12 (.slice fa n fc) n (eflat es)) := hf0
  have HNE : Hid (n = es.length ∧ ∀ e ∈ es, 0 ≤ e.f ∧ e.f ≤ 1099511627776) := ⟨hne, he⟩
  have HP : Hid ((-9223372036854775808 ≤ p ∧ p ≤ 9223372036854775807) ∧ w.cell? ⟨bp, 0, none⟩ = some (.int .i64 p)) := ⟨⟨p0, p1⟩, cp⟩
  have hqw : q < w.heap.size := H.b.lt
  clear H hf0 hne he p0 p1 cp
  go_enter Try.func45, Try.ntmps45
  go_upto_region 3 with fail
  go_loopw [5, 12] (fun v i wr => ∃ j : Nat, j ≤ n ∧ i = .int .i64 ((j : Nat) : Int) ∧ wr.ownsRow w.heap.size 24 2 v ((es.take j).filter (hasE p)).length (kflat ((es.take j).filter (hasE p))) ∧ Below w.heap.size w wr) (fun _ i _ => ((n : Int) - intOf i).toNat)
  case atStart => exact ⟨0, by omega, rfl, World.ownsRow_nil _ _ 24 2, Below.refl _ _⟩
  case round =>
    obtain ⟨j, hj, rfl, hv, hb⟩ := hrel
    by_cases hlt : j < n
    · obtain ⟨x, hx⟩ : ∃ x, es[j]? = some x := ⟨_, List.getElem?_eq_getElem (by have := HNE.out.1; omega)⟩
      obtain ⟨fg, rfl⟩ : ∃ fg, fa = some ⟨fg, 0, none⟩ := by
        cases fa with
        | none => have := (orow_none HF.out).1; omega
        | some ad => obtain ⟨g, rfl⟩ := orow_where HF.out; exact ⟨g, rfl⟩
      have cx : ∀ t, t < 12 → wr.cell? ⟨fg, j * 12 + t, none⟩ = x.cells[t]? := fun t ht => by
        have h1 := orow_cell HF.out (j * 12 + t) (by omega)
        rw [eflat_at hx t ht] at h1
        obtain ⟨u, hu⟩ : ∃ u, x.cells[t]? = some u := ⟨_, Array.getElem?_eq_getElem (by show t < 12; exact ht)⟩
        rw [hu] at h1 ⊢
        exact (hb.cell (p := ⟨fg, j * 12 + t, none⟩) (cell_lt h1)).trans h1
      have d1 : wr.cell? ⟨fg, j * 12 + 1, none⟩ = some (.int .u16 x.pc) := cx 1 (by omega)
      have d2 : wr.cell? ⟨fg, j * 12 + 2, none⟩ = some (.int .i64 x.tag) := cx 2 (by omega)
      have e1 : wr.cell? ⟨q, 1, none⟩ = some (.slice (some ⟨fg, 0, none⟩) n fc) := (hb.cell (p := ⟨q, 1, none⟩) hqw).trans c1
      have hpi : (j : Int) < (n : Int) := by omega
      have hxe := HNE.out.2 x (List.mem_of_getElem? hx)
      have YS : Hid (Calls _ _ _ wr _) := quest_any fg j n bp x p wr (cx 10 (by omega)) (cx 11 (by omega)) ((hb.cell (p := ⟨bp, 0, none⟩) (cell_lt HP.out.2)).trans HP.out.2) hxe.1 hxe.2 HP.out.1.1 HP.out.1.2
      have HT : Hid ((es.take (j + 1)).filter (hasE p) = (es.take j).filter (hasE p) ++ (if hasE p x then [x] else [])) := by
        unfold Hid
        rw [List.take_add_one, hx, List.filter_append]
        congr 1
        cases h : hasE p x <;> simp [h]
      have hll : ((es.take j).filter (hasE p)).length ≤ n := by
        have := List.length_filter_le (hasE p) (es.take j)
        rw [List.length_take] at this
        omega
      have HLT : Hid (fg < w.heap.size) := (orow_base HF.out).2.1
      clear hx cx hxe
      cases hq : hasE p x with
      | false =>
        rw [hq] at YS HT
        go_wp2_with (go_at_call 48; go_must (refine YS.out.mono ?_; rintro e W5 ⟨rfl, b5⟩))
        go_roundw
        case rel => exact ⟨j + 1, by omega, by go_num, by rw [HT.out]; simpa using orow_keep hv b5, hb.trans (b5.mono hb.size)⟩
        case measure => simp [intOf]; omega
      | true =>
        rw [hq] at YS HT
        have KEEP : Hid (∀ W5, Below wr.heap.size wr W5 → (W5.cell? ⟨fg, j * 12 + 1, none⟩ = some (.int .u16 x.pc) ∧ W5.cell? ⟨fg, j * 12 + 2, none⟩ = some (.int .i64 x.tag)) ∧ W5.cell? ⟨q, 1, none⟩ = some (.slice (some ⟨fg, 0, none⟩) n fc)) := fun W5 b5 => ⟨⟨(b5.cell (p := ⟨fg, j * 12 + 1, none⟩) (cell_lt d1)).trans d1, (b5.cell (p := ⟨fg, j * 12 + 2, none⟩) (cell_lt d2)).trans d2⟩, (b5.cell (p := ⟨q, 1, none⟩) (cell_lt e1)).trans e1⟩
        have hbs := hb.size
        go_wp2_with (first
          | (go_at_call 48; go_must (refine YS.out.mono ?_; rintro e W5 ⟨rfl, b5⟩; obtain ⟨⟨d1', d2'⟩, e1'⟩ := KEEP.out W5 b5; have hv5 := orow_keep hv b5; have hb5 := hb.trans (b5.mono hb.size); have hbs5 := hb5.size))
          | (refine wpList_appKey rfl _ _ rfl (cs := #[.int .u16 x.pc, .int .i64 x.tag]) hv5 hb5 hbs5 rfl rfl rfl (List.all_eq_true.1 (show (#[.int .u16 x.pc, .int .i64 x.tag] : Array Value).toList.all (·.oneCell') = true from rfl)) (by omega) ?_; intro v2 w2 r2 b2 s2))
        go_roundw
        case rel => exact ⟨j + 1, by omega, by go_num, by rw [HT.out]; simp only [if_true]; rw [List.length_append, kflat_app]; exact r2, b2⟩
        case measure => simp [intOf]; omega
    · obtain rfl : j = n := by omega
      go_wp2
      go_ret
      refine ⟨_, rfl, ?_, hb⟩
      rw [List.take_of_length_le (by have := HNE.out.1; omega)] at hv
      exact hv
end Go.Proofs.Ytpnalcbpdejpjaa
