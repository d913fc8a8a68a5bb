/-
  A video memory as numbers; what writes to register 4 make of it, one by one and all at once.
-/
import Derived.Test.YtecaipakaaongaaXnBase
import Derived.Laws.BitsAllLaws
set_option linter.unusedSimpArgs false
set_option linter.unusedVariables false
namespace Go.Proofs.Ytecaipakaaongaa
open Go.RowKit Classical
def upd (f : Nat → Nat) (i x : Nat) : Nat → Nat := fun j => if j = i then x else f j
theorem upd_same (f : Nat → Nat) (i x : Nat) : upd f i x i = x := if_pos rfl
theorem upd_ne (f : Nat → Nat) {i j : Nat} (x : Nat) (h : j ≠ i) : upd f i x j = f j := if_neg h
/-- A byte without the bits that the third byte of a sprite lacks. -/
def mk8 (x : Nat) : Nat := x - x / 4 % 8 * 4
/-- What is laid at place a of the list of sprites. -/
def msk (a x : Nat) : Nat := if a % 4 = 2 then mk8 x else x
/-- A write to register 4. -/
def spr (f : Nat → Nat) (x : Nat) : Nat → Nat := upd (upd f (f 256) (msk (f 256) x)) 256 ((f 256 + 1) % 256)
/-- A write to register 4 with what stays on the port. -/
def spi (f : Nat → Nat) (x : Nat) : Nat → Nat := spr (upd f 12584 x) x
def fil (f : Nat → Nat) : List Nat → Nat → Nat → Nat
  | _, 0 => f
  | l, k + 1 => spi (fil f l k) (l.getD k 0)
/-- Where the last of k bytes was laid that fell upon a place d behind the first. -/
def lastJ (d k : Nat) : Nat := d + 256 * ((k - 1 - d) / 256)
def dis (o i : Nat) : Nat := (i + 256 - o) % 256
theorem fil_256 (f : Nat → Nat) (l : List Nat) (h : f 256 < 256) : ∀ k, fil f l k 256 = (f 256 + k) % 256
  | 0 => by simp only [fil]; omega
  | k + 1 => by
    simp only [fil, spi, spr, upd_same]
    rw [upd_ne _ _ (by decide), fil_256 f l h k]; omega
theorem fil_io (f : Nat → Nat) (l : List Nat) (h : f 256 < 256) (k : Nat) : fil f l k 12584 = if k = 0 then f 12584 else l.getD (k - 1) 0 := by
  cases k with
  | zero => rfl
  | succ k =>
    have e : upd (fil f l k) 12584 (l.getD k 0) 256 = fil f l k 256 := upd_ne _ _ (by decide)
    have hb : fil f l k 256 < 256 := by rw [fil_256 f l h k]; omega
    simp only [fil, spi, spr]
    rw [e]
    rw [upd_ne _ _ (by decide), upd_ne _ _ (by omega), upd_same]
    simp
theorem fil_rest (f : Nat → Nat) (l : List Nat) (h : f 256 < 256) (i : Nat) (hi : 257 ≤ i) (hj : i ≠ 12584) : ∀ k, fil f l k i = f i
  | 0 => rfl
  | k + 1 => by
    have e : upd (fil f l k) 12584 (l.getD k 0) 256 = fil f l k 256 := upd_ne _ _ (by decide)
    have hb : fil f l k 256 < 256 := by rw [fil_256 f l h k]; omega
    simp only [fil, spi, spr]
    rw [e, upd_ne _ _ (by omega), upd_ne _ _ (by omega), upd_ne _ _ hj, fil_rest f l h i hi hj k]
theorem lastJ_step (d k : Nat) (h : d < k) (hk : k % 256 ≠ d % 256) (hd : d < 256) : lastJ d (k + 1) = lastJ d k := by
  unfold lastJ; omega
theorem fil_oam (f : Nat → Nat) (l : List Nat) (h : f 256 < 256) (i : Nat) (hi : i < 256) : ∀ k, fil f l k i = if dis (f 256) i < k then msk i (l.getD (lastJ (dis (f 256) i) k) 0) else f i
  | 0 => by rw [if_neg (by omega)]; rfl
  | k + 1 => by
    have e : upd (fil f l k) 12584 (l.getD k 0) 256 = fil f l k 256 := upd_ne _ _ (by decide)
    have hb : fil f l k 256 = (f 256 + k) % 256 := fil_256 f l h k
    have hd : dis (f 256) i < 256 := by unfold dis; omega
    simp only [fil, spi, spr]
    rw [e, upd_ne _ _ (by omega : i ≠ 256)]
    by_cases hik : i = fil f l k 256
    · rw [← hik, upd_same]
      have h1 : dis (f 256) i = k % 256 := by rw [hb] at hik; unfold dis; omega
      rw [if_pos (by omega)]
      congr 2
      unfold lastJ
      omega
    · rw [upd_ne _ _ hik, upd_ne _ _ (by omega), fil_oam f l h i hi k]
      have h1 : dis (f 256) i ≠ k % 256 := by
        intro h1
        apply hik
        rw [hb]
        unfold dis at h1
        omega
      by_cases h2 : dis (f 256) i < k
      · rw [if_pos h2, if_pos (by omega), lastJ_step _ _ h2 (by omega) hd]
      · rw [if_neg h2, if_neg (by omega)]

/-- Bytes laid over a memory from a place on. -/
def cpy (f : Nat → Nat) (off n : Nat) (src : Nat → Nat) : Nat → Nat := fun j => if off ≤ j ∧ j < off + n then src (j - off) else f j
/-- The third bytes of the first k sprites lose their bits. -/
def thr (f : Nat → Nat) (k : Nat) : Nat → Nat := fun j => if j % 4 = 2 ∧ j < 4 * k + 2 then mk8 (f j) else f j
theorem thr_step (f : Nat → Nat) (k : Nat) : thr f (k + 1) = upd (thr f k) (4 * k + 2) (mk8 (thr f k (4 * k + 2))) := by
  funext j
  unfold thr upd
  by_cases h : j = 4 * k + 2
  · subst h
    rw [if_pos (by omega), if_pos rfl, if_neg (by omega)]
  · rw [if_neg h]
    show _ = if j % 4 = 2 ∧ j < 4 * k + 2 then mk8 (f j) else f j
    by_cases h2 : j % 4 = 2 ∧ j < 4 * k + 2
    · rw [if_pos h2, if_pos (by omega)]
    · rw [if_neg h2, if_neg (by omega)]
theorem mk8_id {x : Nat} (h : x / 4 % 8 = 0) : mk8 x = x := by unfold mk8; omega
/-- All of a list at once. -/
def all2 (f : Nat → Nat) (l : List Nat) (n : Nat) : Nat → Nat :=
  thr (cpy (cpy (upd f 256 ((f 256 + n) % 256)) ((f 256 + (n - 256)) % 256) (min (256 - (f 256 + (n - 256)) % 256) (n - (n - 256))) fun k => l.getD (n - 256 + k) 0)
    0 (n - (n - 256) - min (256 - (f 256 + (n - 256)) % 256) (n - (n - 256))) fun k => l.getD (n - 256 + min (256 - (f 256 + (n - 256)) % 256) (n - (n - 256)) + k) 0) 64
theorem all2_fil (f : Nat → Nat) (l : List Nat) (n : Nat) (h : f 256 < 256) (ho : ∀ k, k < 64 → f (4 * k + 2) / 4 % 8 = 0) (i : Nat) (hi : i ≠ 12584) : all2 f l n i = fil f l n i := by
  obtain ⟨o, eo⟩ : ∃ o, o = f 256 := ⟨_, rfl⟩
  obtain ⟨sk, hsk⟩ : ∃ sk, sk = n - 256 := ⟨_, rfl⟩
  obtain ⟨a, ha⟩ : ∃ a, a = (o + sk) % 256 := ⟨_, rfl⟩
  obtain ⟨m, hm⟩ : ∃ m, m = n - sk := ⟨_, rfl⟩
  obtain ⟨n1, hn1⟩ : ∃ n1, n1 = min (256 - a) m := ⟨_, rfl⟩
  unfold all2
  rw [← eo, ← hsk, ← ha, ← hm, ← hn1]
  rw [← eo] at h
  have ha2 : a < 256 := by omega
  have hm2 : m ≤ 256 := by omega
  by_cases h1 : i < 256
  · rw [fil_oam f l (by omega) i h1, ← eo]
    obtain ⟨d, hd⟩ : ∃ d, d = dis o i := ⟨_, rfl⟩
    rw [← hd]
    unfold dis at hd
    have key : thr (cpy (cpy (upd f 256 ((o + n) % 256)) a n1 fun k => l.getD (sk + k) 0) 0 (m - n1) fun k => l.getD (sk + n1 + k) 0) 64 i = if i % 4 = 2 then mk8 (cpy (cpy (upd f 256 ((o + n) % 256)) a n1 fun k => l.getD (sk + k) 0) 0 (m - n1) (fun k => l.getD (sk + n1 + k) 0) i) else cpy (cpy (upd f 256 ((o + n) % 256)) a n1 fun k => l.getD (sk + k) 0) 0 (m - n1) (fun k => l.getD (sk + n1 + k) 0) i := by
      unfold thr
      by_cases e : i % 4 = 2
      · rw [if_pos (by omega), if_pos e]
      · rw [if_neg (by omega), if_neg e]
    rw [key]
    clear key
    by_cases h2 : d < n
    · rw [if_pos h2]
      have c : cpy (cpy (upd f 256 ((o + n) % 256)) a n1 fun k => l.getD (sk + k) 0) 0 (m - n1) (fun k => l.getD (sk + n1 + k) 0) i = l.getD (lastJ d n) 0 := by
        unfold cpy
        by_cases h3 : i < m - n1
        · rw [if_pos (by omega)]
          show l.getD (sk + n1 + (i - 0)) 0 = _
          rw [show sk + n1 + (i - 0) = lastJ d n by unfold lastJ; omega]
        · rw [if_neg (by omega), if_pos (by omega)]
          show l.getD (sk + (i - a)) 0 = _
          rw [show sk + (i - a) = lastJ d n by unfold lastJ; omega]
      rw [c]
      rfl
    · rw [if_neg h2]
      have c : cpy (cpy (upd f 256 ((o + n) % 256)) a n1 fun k => l.getD (sk + k) 0) 0 (m - n1) (fun k => l.getD (sk + n1 + k) 0) i = f i := by
        unfold cpy
        rw [if_neg (by omega), if_neg (by omega), upd_ne _ _ (by omega)]
      rw [c]
      by_cases e : i % 4 = 2
      · rw [if_pos e]
        have := ho (i / 4) (by omega)
        rw [show 4 * (i / 4) + 2 = i by omega] at this
        exact mk8_id this
      · rw [if_neg e]
  · have t : thr (cpy (cpy (upd f 256 ((o + n) % 256)) a n1 fun k => l.getD (sk + k) 0) 0 (m - n1) fun k => l.getD (sk + n1 + k) 0) 64 i = upd f 256 ((o + n) % 256) i := by
      unfold thr
      rw [if_neg (by omega)]
      unfold cpy
      rw [if_neg (by omega), if_neg (by omega)]
    rw [t]
    by_cases h2 : i = 256
    · subst h2
      rw [upd_same, fil_256 f l (by omega), eo]
    · rw [upd_ne _ _ h2, fil_rest f l (by omega) i (by omega) hi]

/-- Cell i of a video memory, whose number is n. -/
def cel (i n : Nat) : Value := if i < 12577 then .int .u8 n else if i < 12579 then .int .u16 n else if i = 12579 then .int .u8 n else if i < 12583 then .bool (n != 0) else .int .u8 n
theorem cel_one (i n : Nat) : (cel i n).oneCell' = true := by
  unfold cel
  repeat' split
  all_goals rfl
theorem cel_b {i : Nat} (n : Nat) (h : i < 12577) : cel i n = .int .u8 n := if_pos h
/-- The cells of a video memory are these numbers. -/
def Vid (cs : Array Value) (f : Nat → Nat) : Prop := cs.size = 12585 ∧ ∀ i, i < 12585 → cs[i]? = some (cel i (f i))
structure Fok (f : Nat → Nat) : Prop where
  b : ∀ i, i < 12577 → f i < 256
  v : f 12577 < 65536
  t : f 12578 < 65536
  x : f 12579 < 256
  w : f 12580 < 2
  wide : f 12581 < 2
  grey : f 12582 < 2
  buf : f 12583 < 256
  io : f 12584 < 256
theorem Vid.byte {cs : Array Value} {f : Nat → Nat} (h : Vid cs f) (i : Nat) (hi : i < 12577) : cs[i]? = some (.int .u8 (f i)) := by rw [h.2 i (by omega), cel_b _ hi]
theorem Vid.set {cs : Array Value} {f : Nat → Nat} (h : Vid cs f) (i x : Nat) (v : Value) (hv : v = cel i x) : Vid (cs.setIfInBounds i v) (upd f i x) := by
  subst hv
  refine ⟨by rw [Array.size_setIfInBounds]; exact h.1, fun j hj => ?_⟩
  by_cases e : j = i
  · subst e
    rw [upd_same, Array.getElem?_setIfInBounds_self_of_lt (by rw [h.1]; exact hj)]
  · rw [upd_ne _ _ e, Array.getElem?_setIfInBounds_ne (fun h => e h.symm), h.2 j hj]
theorem Vid.ext {a b : Array Value} {f g : Nat → Nat} (h : Vid a f) (k : Vid b g) (e : ∀ i, i < 12585 → f i = g i) : a = b := by
  apply Array.ext_getElem?
  intro i
  by_cases hi : i < 12585
  · rw [h.2 i hi, k.2 i hi, e i hi]
  · rw [Array.getElem?_eq_none (by rw [h.1]; omega), Array.getElem?_eq_none (by rw [k.1]; omega)]
theorem Vid.one {cs : Array Value} {f : Nat → Nat} (h : Vid cs f) : cs.all (·.oneCell') = true := by
  rw [Array.all_eq_true_iff_forall_mem]
  intro v hv
  obtain ⟨j, hj, rfl⟩ := Array.mem_iff_getElem.1 hv
  have := h.2 j (by rw [← h.1]; exact hj)
  rw [Array.getElem?_eq_getElem hj] at this
  rw [Option.some.inj this]
  exact cel_one _ _
theorem mk8_lt {x : Nat} (h : x < 256) : mk8 x < 256 := by unfold mk8; omega
theorem msk_lt {x : Nat} (a : Nat) (h : x < 256) : msk a x < 256 := by unfold msk; split; exact mk8_lt h; exact h
theorem Fok.set {f : Nat → Nat} (h : Fok f) (i x : Nat) (hi : i < 12577) (hx : x < 256) : Fok (upd f i x) := by
  refine ⟨fun j hj => ?_, ?_, ?_, ?_, ?_, ?_, ?_, ?_, ?_⟩
  · by_cases e : j = i
    · rw [e, upd_same]; exact hx
    · rw [upd_ne _ _ e]; exact h.b j hj
  · rw [upd_ne _ _ (by omega)]; exact h.v
  · rw [upd_ne _ _ (by omega)]; exact h.t
  · rw [upd_ne _ _ (by omega)]; exact h.x
  · rw [upd_ne _ _ (by omega)]; exact h.w
  · rw [upd_ne _ _ (by omega)]; exact h.wide
  · rw [upd_ne _ _ (by omega)]; exact h.grey
  · rw [upd_ne _ _ (by omega)]; exact h.buf
  · rw [upd_ne _ _ (by omega)]; exact h.io
theorem Fok.updIo {f : Nat → Nat} (h : Fok f) (x : Nat) (hx : x < 256) : Fok (upd f 12584 x) := by
  refine ⟨fun j hj => ?_, ?_, ?_, ?_, ?_, ?_, ?_, ?_, ?_⟩
  · rw [upd_ne _ _ (by omega)]; exact h.b j hj
  · rw [upd_ne _ _ (by decide)]; exact h.v
  · rw [upd_ne _ _ (by decide)]; exact h.t
  · rw [upd_ne _ _ (by decide)]; exact h.x
  · rw [upd_ne _ _ (by decide)]; exact h.w
  · rw [upd_ne _ _ (by decide)]; exact h.wide
  · rw [upd_ne _ _ (by decide)]; exact h.grey
  · rw [upd_ne _ _ (by decide)]; exact h.buf
  · rw [upd_same]; exact hx
/-- What the check asks of the sprites, of the palette, of a memory without its board. -/
def oamF (f : Nat → Nat) : Bool := (List.range 64).all fun k => f (4 * k + 2) / 4 % 8 == 0
def entN (i : Nat) : Nat := if i % 32 % 4 = 0 then i % 16 else i % 32
def palF (f : Nat → Nat) : Bool := (List.range 32).all fun k => decide (f (4353 + k) ≤ 63) && (decide (f (4353 + k) = 0) || decide (entN k = k))
def fitF (f : Nat → Nat) : Bool := decide (f 12577 ≤ 32767) && (decide (f 12578 ≤ 32767) && (decide (f 12579 ≤ 7) && (oamF f && palF f)))
theorem oamF_true {f : Nat → Nat} (h : ∀ k, k < 64 → f (4 * k + 2) / 4 % 8 = 0) : oamF f = true := by
  unfold oamF
  rw [List.all_eq_true]
  intro k hk
  rw [List.mem_range] at hk
  simp [h k hk]
theorem oamF_at {f : Nat → Nat} (h : oamF f = true) (k : Nat) (hk : k < 64) : f (4 * k + 2) / 4 % 8 = 0 := by
  unfold oamF at h
  rw [List.all_eq_true] at h
  simpa using h k (List.mem_range.2 hk)
theorem oamF_false {f : Nat → Nat} (k : Nat) (hk : k < 64) (h : f (4 * k + 2) / 4 % 8 ≠ 0) : oamF f = false := by
  refine Bool.eq_false_iff.2 fun e => h (oamF_at e k hk)
theorem palF_true {f : Nat → Nat} (h : ∀ k, k < 32 → f (4353 + k) ≤ 63 ∧ (f (4353 + k) = 0 ∨ entN k = k)) : palF f = true := by
  unfold palF
  rw [List.all_eq_true]
  intro k hk
  rw [List.mem_range] at hk
  have := h k hk
  simp [this]
theorem palF_at {f : Nat → Nat} (h : palF f = true) (k : Nat) (hk : k < 32) : f (4353 + k) ≤ 63 ∧ (f (4353 + k) = 0 ∨ entN k = k) := by
  unfold palF at h
  rw [List.all_eq_true] at h
  simpa using h k (List.mem_range.2 hk)
theorem palF_false {f : Nat → Nat} (k : Nat) (hk : k < 32) (h : ¬ (f (4353 + k) ≤ 63 ∧ (f (4353 + k) = 0 ∨ entN k = k))) : palF f = false :=
  Bool.eq_false_iff.2 fun e => h (palF_at e k hk)
theorem andNot227 (x : Nat) (h : x < 256) : bits .andNot .u8 (x : Int) 227 = ((x / 4 % 8 * 4 : Nat) : Int) := by
  revert h; revert x; decide +kernel
theorem and28 (x : Nat) (h : x < 256) : bits .and .u8 (x : Int) 28 = ((x / 4 % 8 * 4 : Nat) : Int) := by
  revert h; revert x; decide +kernel
theorem and227 (x : Nat) (h : x < 256) : bits .and .u8 (x : Int) 227 = ((mk8 x : Nat) : Int) := by
  revert h; revert x; decide +kernel
end Go.Proofs.Ytecaipakaaongaa
