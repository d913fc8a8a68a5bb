/-
  Facts on an image's error as the document finds it; plain facts.
-/
import Derived.Test.YtilhlbnicmmaoaaDoorPre4
import Derived.Test.YtilhlbnicmmaoaaDoorPre4b
import Derived.Test.YtilhlbnicmmaoaaDoorPag6
set_option linter.unusedSimpArgs false
set_option linter.unusedVariables false
namespace Go.Proofs.YtilhlbnicmmaoaaDoor
open Go.RowKit
theorem rs_sz (low high unit bound : Nat) (hb : bound ≤ 1073741824) : rsV low high unit bound = ((Hq.sz low high unit : Nat) : Int) ∨ (rsV low high unit bound = -1 ∧ bound < Hq.sz low high unit) := by
  unfold rsV Hq.sz
  by_cases h : high = 15
  · rw [if_pos h, if_pos h]
    have em : low % 4 * 2 + 1 = 2 * (low % 4) + 1 := by omega
    unfold pwV
    rw [em]
    generalize hm : 2 * (low % 4) + 1 = m
    generalize low / 4 = e
    have hm1 : 1 ≤ m := by omega
    by_cases he : e ≤ 32
    · rw [Nat.min_eq_left he]
      by_cases hx : m * 2 ^ e ≤ bound
      · rw [if_pos hx]; exact .inl rfl
      · rw [if_neg hx]; exact .inr ⟨rfl, by omega⟩
    · rw [Nat.min_eq_right (by omega)]
      have h32 : m * 2 ^ 32 ≥ 4294967296 := by
        have := Nat.mul_le_mul_right (2 ^ 32) hm1
        omega
      have h33 : m * 2 ^ 32 ≤ m * 2 ^ e := Nat.mul_le_mul_left m (Nat.pow_le_pow_right (by decide) (by omega))
      rw [if_neg (by omega)]
      exact .inr ⟨rfl, by omega⟩
  · rw [if_neg h, if_neg h]; exact .inl rfl
theorem rpg_or (h : Hq) : rpg h = ((h.prg : Nat) : Int) ∨ (rpg h = -1 ∧ 1048576 < h.prg) := by
  by_cases hf : h.f = 2
  · have e1 : rpg h = rsV h.b4 (h.b9 % 16) 16384 1048576 := if_pos hf
    have e2 : h.prg = Hq.sz h.b4 (h.b9 % 16) 16384 := by unfold Hq.prg; rw [if_pos hf]
    rw [e1, e2]; exact rs_sz _ _ _ _ (by decide)
  · have e1 : rpg h = ((h.b4 * 16384 : Nat) : Int) := if_neg hf
    rw [e1, prg_old h hf]; exact .inl rfl
theorem rch_or (h : Hq) : rch h = ((h.chr : Nat) : Int) ∨ (rch h = -1 ∧ 524288 < h.chr) := by
  by_cases hf : h.f = 2
  · have e1 : rch h = rsV h.b5 (h.b9 / 16) 8192 524288 := if_pos hf
    have e2 : h.chr = Hq.sz h.b5 (h.b9 / 16) 8192 := by unfold Hq.chr; rw [if_pos hf]
    rw [e1, e2]; exact rs_sz _ _ _ _ (by decide)
  · have e1 : rch h = ((h.b5 * 8192 : Nat) : Int) := if_neg hf
    rw [e1, chr_old h hf]; exact .inl rfl
theorem PaG.no {L : List Nat} {w w' : World} {x y : Nat} (e : pz L = (x, y)) (hx : x ≠ 0) (hb : Below w.heap.size w w') : PaG L w (.returned (.tuple #[.agg Z19, .int .i64 (x : Nat), .int .i64 (y : Nat)])) w' := by
  have hz : ¬ (pz L).1 = 0 := by rw [e]; exact hx
  refine ⟨Z19, by rw [e], ?_, hb⟩
  unfold pC pT pP pQ pR
  rw [if_neg hz, if_neg hz, if_neg hz, if_neg hz, if_neg hz]
  exact cl_no w'
theorem fz_no {L : List Nat} (h : (fz L).1 ≠ 0) : pz L = fz L := by
  unfold fz at h ⊢
  unfold pz
  by_cases hb : 2097152 < L.length
  · rw [if_pos hb, if_pos hb]
  · rw [if_neg hb] at h ⊢
    rw [if_neg hb, if_pos h]
theorem fz_yes {L : List Nat} (h : (fz L).1 = 0) : L.length ≤ 2097152 ∧ 16 ≤ L.length ∧ fz L = (0, 0) ∧ pz L = (hdOf L).e L.length := by
  unfold fz at h ⊢
  unfold pz
  by_cases hb : 2097152 < L.length
  · rw [if_pos hb] at h; exact absurd h (by decide)
  · rw [if_neg hb] at h ⊢
    rw [if_neg hb, if_neg (fun x => x h)]
    have : 16 ≤ L.length ∧ frontE L L.length = (0, 0) := by
      revert h
      unfold frontE
      repeat' split
      all_goals first | (intro h; simp at h; done) | (intro h; exact ⟨by omega, rfl⟩)
    exact ⟨by omega, this.1, this.2, rfl⟩
/-- What is wrong behind the sizes. -/
theorem rt_or (h : Hq) (n : Nat) (hn : h.fin ≤ n) (c : CF) (hc : h.cf h.cr 0 0 0 0 = c) :
    (rtE c ((n - h.fin : Nat) : Int) = 11 ∧ (if h.f = 2 ∧ h.b14 % 4 = 0 ∧ h.fin < n then (15, h.fin) else if n - h.fin < h.least then (11, n) else (0, 0)) = ((11, n) : Nat × Nat)) ∨
    (rtE c ((n - h.fin : Nat) : Int) = 15 ∧ (if h.f = 2 ∧ h.b14 % 4 = 0 ∧ h.fin < n then (15, h.fin) else if n - h.fin < h.least then (11, n) else (0, 0)) = ((15, h.fin) : Nat × Nat)) ∨
    (rtE c ((n - h.fin : Nat) : Int) = 0 ∧ (if h.f = 2 ∧ h.b14 % 4 = 0 ∧ h.fin < n then (15, h.fin) else if n - h.fin < h.least then (11, n) else (0, 0)) = ((0, 0) : Nat × Nat)) := by
  have e1 : c.fmt = ((h.f : Nat) : Int) := by rw [← hc]; rfl
  have e2 : c.con = ((if h.f = 0 then 0 else h.b7 % 4 : Nat) : Int) := by rw [← hc]; rfl
  have e3 : c.misc = ((if h.f = 2 then h.b14 % 4 else 0 : Nat) : Int) := by rw [← hc]; rfl
  have hle : h.least = if h.f = 1 ∧ h.b7 % 4 = 2 then 8192 else if h.f = 2 then h.b14 % 4 else 0 := rfl
  unfold rtE
  rw [e1, e2, e3]
  clear e1 e2 e3 hc
  generalize h.least = le at *
  generalize h.fin = fi at *
  generalize h.b14 % 4 = m at *
  generalize h.b7 % 4 = o at *
  rcases h.f_lt with hf | hf | hf <;> rw [hf] at hle ⊢
  · have el : le = 0 := by rw [hle]; simp
    refine .inr (.inr ⟨?_, ?_⟩)
    · rw [if_neg (by simp), if_neg (by simp), if_neg (by simp)]
    · rw [if_neg (by simp), if_neg (by omega)]
  · by_cases ho : o = 2
    · subst ho
      have el : le = 8192 := by rw [hle]; simp
      by_cases hx : n - fi < 8192
      · refine .inl ⟨?_, ?_⟩
        · rw [if_pos ⟨rfl, rfl, by omega⟩]
        · rw [if_neg (by simp), if_pos (by omega)]
      · refine .inr (.inr ⟨?_, ?_⟩)
        · rw [if_neg (fun x => by have := x.2.2; omega), if_neg (by simp), if_neg (by simp)]
        · rw [if_neg (by simp), if_neg (by omega)]
    · have el : le = 0 := by rw [hle, if_neg (fun x => ho x.2)]; rfl
      refine .inr (.inr ⟨?_, ?_⟩)
      · rw [if_neg (fun x => ho (by have := x.2.1; simp at this; omega)), if_neg (by simp), if_neg (by simp)]
      · rw [if_neg (by simp), if_neg (by omega)]
  · have el : le = m := by rw [hle]; simp
    by_cases hm : m = 0
    · subst hm
      by_cases hx : fi < n
      · refine .inr (.inl ⟨?_, ?_⟩)
        · rw [if_neg (by simp), if_pos ⟨rfl, rfl, by omega⟩]
        · rw [if_pos ⟨rfl, rfl, hx⟩]
      · refine .inr (.inr ⟨?_, ?_⟩)
        · rw [if_neg (by simp), if_neg (fun x => by have := x.2.2; omega), if_neg (fun x => by have := x.2; simp at this; omega)]
        · rw [if_neg (fun x => hx x.2.2), if_neg (by omega)]
    · by_cases hx : n - fi < m
      · refine .inl ⟨?_, ?_⟩
        · rw [if_neg (by simp), if_neg (fun x => hm (by have := x.2.1; simp at this; omega)), if_pos ⟨rfl, by simp; omega⟩]
        · rw [if_neg (fun x => hm x.2.1), if_pos (by omega)]
      · refine .inr (.inr ⟨?_, ?_⟩)
        · rw [if_neg (by simp), if_neg (fun x => hm (by have := x.2.1; simp at this; omega)), if_neg (fun x => by have := x.2; simp at this; omega)]
        · rw [if_neg (fun x => hm x.2.1), if_neg (by omega)]
theorem hd_at {w : World} {b off : Nat} {L : List Nat} (hr : Row w (some ⟨b, off, none⟩) L) (h16 : 16 ≤ L.length) : HdAt w b off (hdOf L) := fun i hi => by
  refine row_at hr i _ (by omega) ?_
  rw [← hd_take L h16]
  simp [List.getD_eq_getElem?_getD, List.getElem?_take, hi]
theorem isN (c : CF) (h : ((c.nt = 0 ∧ c.np = 0) ∧ c.nq = 0) ∧ c.nr = 0) : IsC (cN c) c := by
  obtain ⟨⟨⟨h1, h2⟩, h3⟩, h4⟩ := h
  exact ⟨rfl, by simp [cN, Value.oneCell'], rfl, rfl, rfl, rfl, rfl, rfl, rfl, rfl, rfl, rfl, rfl, rfl, rfl, rfl, rfl, ⟨none, 0, by rw [h1]; rfl⟩, ⟨none, 0, by rw [h2]; rfl⟩, ⟨none, 0, by rw [h3]; rfl⟩, ⟨none, 0, by rw [h4]; rfl⟩, by rw [h1]; decide, by rw [h2]; decide, by rw [h3]; decide, by rw [h4]; decide⟩
/-- The document's Parse on its way. -/
structure Rp (w : World) (L : List Nat) (a : Option Addr) (hs : Array Value) (g : Nat) (W : World) : Prop where
  z : Blk W w.heap.size Z19 25
  b : Blk W g hs 60
  hg : w.heap.size < g
  r : Row W a L
  hb : Below w.heap.size w W
theorem Rp.on {w W W' : World} {L : List Nat} {a : Option Addr} {hs : Array Value} {g : Nat} (K : Rp w L a hs g W) (hb : Below W.heap.size W W') : Rp w L a hs g W' :=
  ⟨K.z.below K.z.lt hb, K.b.below K.b.lt hb, K.hg, K.r.below hb, K.hb.trans (hb.mono K.hb.size)⟩
theorem range19 {W : World} {g : Nat} {c : CF} {x y z : Bool} (hx : c.vert = x) (hy : c.four = y) (hz : c.bat = z) {tr pg ch bd : Int} (K : Blk W g (hC c x y z tr pg ch bd) 60) : W.rangeAt g 0 (cN c).toList := fun j v hv => by
  subst hx hy hz
  refine K.range j v ?_
  have e : (hC c c.vert c.four c.bat tr pg ch bd).toList = (cN c).toList ++ [.int .i64 tr, .int .i64 pg, .int .i64 ch, .int .i64 bd] := rfl
  rw [e, List.getElem?_append_left ((List.getElem?_eq_some_iff.1 hv).1)]
  exact hv
/-- And with a copy of the cartridge. -/
structure Rq (w : World) (L : List Nat) (a : Option Addr) (hs : Array Value) (g gc : Nat) (ca : Array Value) (W : World) : Prop where
  k : Rp w L a hs g W
  c : Blk W gc ca 25
  o : g < gc
theorem Rq.on {w W W' : World} {L : List Nat} {a : Option Addr} {hs ca : Array Value} {g gc : Nat} (K : Rq w L a hs g gc ca W) (hb : Below W.heap.size W W') : Rq w L a hs g gc ca W' := ⟨K.k.on hb, K.c.below K.c.lt hb, K.o⟩
theorem Rq.put {w W : World} {L : List Nat} {a : Option Addr} {hs ca ca' : Array Value} {g gc : Nat} (K : Rq w L a hs g gc ca W) (hr : Row w a L) (i : Nat) (v : Value) (e : ca.setIfInBounds i v = ca') : Rq w L a hs g gc ca' (W.setCell ⟨gc, i, none⟩ v) :=
  have h1 := K.k.hg
  have h2 := K.o
  have hb := K.k.hb.setCell (p := ⟨gc, i, none⟩) (by show w.heap.size ≤ gc; omega) v
  ⟨⟨K.k.z.other (by omega) i v, K.k.b.other (by omega) i v, h1, hr.below hb, hb⟩, e ▸ K.c.set i v, h2⟩
theorem piece_r (L : List Nat) (a : Option Addr) (n k from' nn : Nat) (hI : L.length = n) (hlen : n ≤ 2097152) (hf : from' + nn ≤ n) (w : World) (hr : Row w a L) :
    Calls Tryd.prog 30 #[.slice a n k, .int .i64 (from' : Nat), .int .i64 (nn : Nat)] w fun e w' => ∃ a' k', e = .returned (.slice a' nn k') ∧ RowF w.heap.size w' a' ((L.drop from').take nn) ∧ Below w.heap.size w w' := by
  refine (rpiece_g L a n k from' nn hI hlen hf w hr).mono ?_
  rintro e w' ⟨v, rfl, ht, hb⟩
  obtain ⟨a', k', rfl, hf'⟩ := ht.rowF
  refine ⟨a', k', ?_, hf', hb⟩
  rw [List.length_take, List.length_drop, Nat.min_eq_left (by omega)]
end Go.Proofs.YtilhlbnicmmaoaaDoor
