/-
  What is proved: plain facts on the times of a search: when each place is first reached, leg by leg. Conditions: those of each fact.
-/
import Derived.Test.YtnclfdfnhhicdaaSea
import Derived.Test.YtnclfdfnhhicdaaFn6
namespace Go.Proofs.Ytnclfdfnhhicdaa
open Go.RowKit
set_option linter.unusedSimpArgs false
set_option linter.unusedVariables false

/-- the numbers that f gives to the places 0 .. n-1 -/
def listF (n : Int) (f : Int → Int) : List Int := (upTo n).map f
theorem listF_len (n : Int) (f : Int → Int) : (listF n f).length = n.toNat := by simp [listF, upTo_len]
theorem listF_at (n : Int) (f : Int → Int) (k : Nat) (h : k < n.toNat) : (listF n f)[k]? = some (f k) := by simp [listF, upTo_at n k h]
theorem listF_congr {n : Int} {f g : Int → Int} (h : ∀ p, 0 ≤ p → p < n → f p = g p) : listF n f = listF n g := by
  apply List.ext_getElem?
  intro j
  by_cases hj : j < n.toNat
  · rw [listF_at n f j hj, listF_at n g j hj, h j (by omega) (by omega)]
  · rw [List.getElem?_eq_none (by rw [listF_len]; omega), List.getElem?_eq_none (by rw [listF_len]; omega)]
theorem listF_set {n : Int} {f g : Int → Int} {k : Nat} {x : Int} (hk : k < n.toNat) (hx : g k = x) (h : ∀ p, 0 ≤ p → p < n → p ≠ k → g p = f p) : (listF n f).set k x = listF n g := by
  apply List.ext_getElem?
  intro j
  by_cases hj : j < n.toNat
  · by_cases hjk : k = j
    · subst hjk
      rw [List.getElem?_set_self (by rw [listF_len]; exact hj), listF_at n g k hj, hx]
    · rw [List.getElem?_set_ne hjk, listF_at n f j hj, listF_at n g j hj, h j (by omega) (by omega) (by omega)]
  · rw [List.getElem?_eq_none (by rw [List.length_set, listF_len]; omega), List.getElem?_eq_none (by rw [listF_len]; omega)]
/-- the cells of such a list, one of them set -/
theorem listF_setV {n : Int} {f g : Int → Int} {k : Nat} {x : Int} (hk : k < n.toNat) (hx : g k = x) (h : ∀ p, 0 ≤ p → p < n → p ≠ k → g p = f p) : ((listF n f).map iv).set k (.int .i64 x) = (listF n g).map iv := by
  rw [← listF_set hk hx h, List.map_set]
/-- where the walker is behind k turning places -/
def plc (a : Int) (xs : List Int) : Nat → Int
  | 0 => a
  | k + 1 => xs.getD k 0
theorem plc_next {a : Int} {xs : List Int} {k : Nat} {x : Int} (h : xs[k]? = some x) : plc a xs (k + 1) = x := by simp [plc, h]
def gap1 (p q : Int) : Int := max (p - q) (q - p)
/-- the time at which the walker is there and has waited -/
def nowT (a e : Int) (xs : List Int) : Nat → Int
  | 0 => 0
  | k + 1 => nowT a e xs k + gap1 (plc a xs (k + 1)) (plc a xs k) + e
/-- the times of f, and those of the first m places of a leg from q towards x for the places that have none -/
def parT (f : Int → Int) (now q x m p : Int) : Int :=
  if 0 ≤ f p then f p else if (q ≤ x ∧ q ≤ p ∧ p < q + m) ∨ (x < q ∧ p ≤ q ∧ q - m < p) then now + gap1 p q else -1
theorem parT_zero {f : Int → Int} {now q x p : Int} (h : -1 ≤ f p) : parT f now q x 0 p = f p := by
  unfold parT
  split
  · rfl
  · rw [if_neg (by omega)]
    omega
theorem parT_seen {f : Int → Int} {now q x m p : Int} (h : 0 ≤ f p) : parT f now q x m p = f p := if_pos h
theorem parT_right {f : Int → Int} {now q x m p : Int} (hq : q ≤ x) (hm : 0 ≤ m) (hp : p ≠ q + m) : parT f now q x (m + 1) p = parT f now q x m p := by
  unfold parT gap1
  split
  · rfl
  · by_cases h : q ≤ p ∧ p < q + m
    · rw [if_pos (by omega), if_pos (by omega)]
    · rw [if_neg (by omega), if_neg (by omega)]
theorem parT_left {f : Int → Int} {now q x m p : Int} (hq : x < q) (hm : 0 ≤ m) (hp : p ≠ q - m) : parT f now q x (m + 1) p = parT f now q x m p := by
  unfold parT gap1
  split
  · rfl
  · by_cases h : p ≤ q ∧ q - m < p
    · rw [if_pos (by omega), if_pos (by omega)]
    · rw [if_neg (by omega), if_neg (by omega)]
theorem parT_right_new {f : Int → Int} {now q x m : Int} (hq : q ≤ x) (hm : 0 ≤ m) (hf : ¬ 0 ≤ f (q + m)) : parT f now q x (m + 1) (q + m) = now + m := by
  unfold parT gap1
  rw [if_neg hf, if_pos (by omega)]
  omega
theorem parT_left_new {f : Int → Int} {now q x m : Int} (hq : x < q) (hm : 0 ≤ m) (hf : ¬ 0 ≤ f (q - m)) : parT f now q x (m + 1) (q - m) = now + m := by
  unfold parT gap1
  rw [if_neg hf, if_pos (by omega)]
  omega
theorem parT_right_not {f : Int → Int} {now q x m : Int} (hq : q ≤ x) (hm : 0 ≤ m) (hf : ¬ 0 ≤ f (q + m)) : parT f now q x m (q + m) = -1 := by
  unfold parT
  rw [if_neg hf, if_neg (by omega)]
theorem parT_left_not {f : Int → Int} {now q x m : Int} (hq : x < q) (hm : 0 ≤ m) (hf : ¬ 0 ≤ f (q - m)) : parT f now q x m (q - m) = -1 := by
  unfold parT
  rw [if_neg hf, if_neg (by omega)]
/-- the times behind k turning places: -1 where nobody was -/
def timT (a e : Int) (xs : List Int) : Nat → Int → Int
  | 0 => fun _ => -1
  | k + 1 => fun p => parT (timT a e xs k) (nowT a e xs k) (plc a xs k) (plc a xs (k + 1)) (gap1 (plc a xs (k + 1)) (plc a xs k) + 1) p
/-- behind k turning places of a search: what is covered, and the times -/
structure TInv (n a e : Int) (xs : List Int) (k : Nat) (lo hi q : Int) : Prop where
  scov : cov a xs k = some (lo, hi, q)
  at_q : plc a xs k = q
  loA : lo ≤ a
  hiA : a ≤ hi
  lo0 : 0 ≤ lo
  hin : hi ≤ n - 1
  loQ : lo ≤ q
  hiQ : q ≤ hi
  qe : q = lo ∨ q = hi
  first : k = 0 → lo = a ∧ hi = a ∧ q = a
  many : (k : Int) ≤ hi - lo
  now0 : 0 ≤ nowT a e xs k
  nowU : nowT a e xs k ≤ 32 * (k : Int)
  seen : ∀ p, 0 ≤ timT a e xs k p ↔ 0 < k ∧ lo ≤ p ∧ p ≤ hi
  tmU : ∀ p, timT a e xs k p ≤ 32 * (k : Int) + 24
  tmN : ∀ p, -1 ≤ timT a e xs k p
theorem tinv_first {n a e : Int} (xs : List Int) (h0 : 0 ≤ a) (h1 : a < n) : TInv n a e xs 0 a a a :=
  { scov := rfl, at_q := rfl, loA := Int.le_refl _, hiA := Int.le_refl _, lo0 := h0, hin := by omega, loQ := Int.le_refl _, hiQ := Int.le_refl _, qe := .inl rfl, first := fun _ => ⟨rfl, rfl, rfl⟩, many := by simp, now0 := Int.le_refl _, nowU := by simp [nowT], seen := fun p => by simp [timT], tmU := fun p => by simp [timT], tmN := fun p => by simp [timT] }
theorem mayB_iff (lo hi q p : Int) : mayB lo hi q p = true ↔ (p < lo ∧ q = hi) ∨ (hi < p ∧ q = lo) := by simp [mayB]
/-- a search goes on: the next turning place may be one, and is on the line -/
theorem cov_go {n a : Int} {xs : List Int} {k : Nat} {lo hi q x : Int} (hs : searchB n a xs = true) (h : cov a xs k = some (lo, hi, q)) (hx : xs[k]? = some x) : mayB lo hi q x = true ∧ 0 ≤ x ∧ x ≤ n - 1 := by
  have hk := (List.getElem?_eq_some_iff.1 hx).1
  constructor
  · cases hm : mayB lo hi q x
    · rw [searchB_no (cov_no h hx hm) hk] at hs
      cases hs
    · rfl
  · by_cases ho : 0 ≤ x ∧ x ≤ n - 1
    · exact ho
    · rw [searchB_out hx (by omega)] at hs
      cases hs
theorem tinv_next {n a e : Int} {xs : List Int} {k : Nat} {lo hi q x : Int} (h : TInv n a e xs k lo hi q) (hn : n ≤ 24) (he0 : 0 ≤ e) (he : e ≤ 9) (hx : xs[k]? = some x) (hm : mayB lo hi q x = true) (hx0 : 0 ≤ x) (hx1 : x ≤ n - 1) :
    TInv n a e xs (k + 1) (min lo x) (max hi x) x := by
  have hmm := (mayB_iff lo hi q x).1 hm
  have h1 := h.loA
  have h2 := h.hiA
  have h3 := h.lo0
  have h4 := h.hin
  have h5 := h.loQ
  have h6 := h.hiQ
  have h7 := h.now0
  have h8 := h.nowU
  have h9 := h.many
  have hpn := plc_next (a := a) hx
  have hg : gap1 x q ≤ 23 ∧ 0 ≤ gap1 x q := by unfold gap1; omega
  have hnw : nowT a e xs (k + 1) = nowT a e xs k + gap1 x q + e := by
    show nowT a e xs k + gap1 (plc a xs (k + 1)) (plc a xs k) + e = _
    rw [hpn, h.at_q]
  have htm : ∀ p, timT a e xs (k + 1) p = parT (timT a e xs k) (nowT a e xs k) q x (gap1 x q + 1) p := fun p => by
    show parT (timT a e xs k) (nowT a e xs k) (plc a xs k) (plc a xs (k + 1)) (gap1 (plc a xs (k + 1)) (plc a xs k) + 1) p = _
    rw [hpn, h.at_q]
  refine { scov := cov_yes h.scov hx hm, at_q := hpn, loA := by omega, hiA := by omega, lo0 := by omega, hin := by omega, loQ := by omega, hiQ := by omega, qe := by omega, first := fun h => by omega, many := by omega, now0 := by omega, nowU := by omega, seen := fun p => ?_, tmU := fun p => ?_, tmN := fun p => ?_ }
  · rw [htm]
    have hs := h.seen p
    have hf := h.first
    unfold parT
    by_cases h0 : 0 ≤ timT a e xs k p
    · rw [if_pos h0]
      have := hs.1 h0
      constructor
      · intro _; omega
      · intro _; exact h0
    · rw [if_neg h0]
      have hns : ¬ (0 < k ∧ lo ≤ p ∧ p ≤ hi) := fun hh => h0 (hs.2 hh)
      by_cases hc : (q ≤ x ∧ q ≤ p ∧ p < q + (gap1 x q + 1)) ∨ (x < q ∧ p ≤ q ∧ q - (gap1 x q + 1) < p)
      · rw [if_pos hc]
        unfold gap1 at *
        constructor
        · intro _; omega
        · intro _; omega
      · rw [if_neg hc]
        unfold gap1 at *
        constructor
        · intro hh; omega
        · intro hh; omega
  · rw [htm]
    have hu := h.tmU p
    unfold parT
    by_cases h0 : 0 ≤ timT a e xs k p
    · rw [if_pos h0]; omega
    · rw [if_neg h0]
      split
      · unfold gap1 at *; omega
      · omega
  · rw [htm]
    have hu := h.tmN p
    unfold parT
    by_cases h0 : 0 ≤ timT a e xs k p
    · rw [if_pos h0]; omega
    · rw [if_neg h0]
      split
      · unfold gap1 at *; omega
      · omega
theorem tinv_at {n a e : Int} {xs : List Int} (hs : searchB n a xs = true) (h0 : 0 ≤ a) (h1 : a < n) (hn : n ≤ 24) (he0 : 0 ≤ e) (he : e ≤ 9) : ∀ k, k ≤ xs.length → ∃ lo hi q, TInv n a e xs k lo hi q
  | 0, _ => ⟨a, a, a, tinv_first xs h0 h1⟩
  | k + 1, hk => by
    obtain ⟨lo, hi, q, h⟩ := tinv_at hs h0 h1 hn he0 he k (by omega)
    obtain ⟨x, hx⟩ := get_some (show k < xs.length by omega)
    obtain ⟨hm, hx0, hx1⟩ := cov_go hs h.scov hx
    exact ⟨_, _, _, tinv_next h hn he0 he hx hm hx0 hx1⟩
/-- the times of a search -/
def timesL (n a e : Int) (xs : List Int) : List Int := listF n (timT a e xs xs.length)
theorem timesL_len (n a e : Int) (xs : List Int) : (timesL n a e xs).length = n.toNat := listF_len _ _
/-- at the end all places are seen -/
theorem tinv_end {n a e : Int} {xs : List Int} {lo hi q : Int} (h : TInv n a e xs xs.length lo hi q) (hs : searchB n a xs = true) (hn : 2 ≤ n) : lo = 0 ∧ hi = n - 1 ∧ ∀ p, 0 ≤ p → p < n → 0 ≤ timT a e xs xs.length p := by
  have e1 := searchB_some (n := n) h.scov
  rw [hs] at e1
  simp at e1
  have hk : 0 < xs.length := by
    by_cases h0 : xs.length = 0
    · have := h.first h0
      omega
    · omega
  exact ⟨e1.1, e1.2, fun p hp0 hp1 => (h.seen p).2 ⟨hk, by omega, by omega⟩⟩
theorem timT_bounds {n a e : Int} {xs : List Int} (hs : searchB n a xs = true) (h0 : 0 ≤ a) (h1 : a < n) (hn : n ≤ 24) (hn2 : 2 ≤ n) (he0 : 0 ≤ e) (he : e ≤ 9) (p : Int) (hp0 : 0 ≤ p) (hp1 : p < n) : 0 ≤ timT a e xs xs.length p ∧ timT a e xs xs.length p ≤ 760 := by
  obtain ⟨lo, hi, q, h⟩ := tinv_at hs h0 h1 hn he0 he xs.length (Nat.le_refl _)
  have h2 := tinv_end h hs hn2
  have h3 := h.tmU p
  have h4 := h.many
  have := h2.1
  have := h2.2.1
  exact ⟨h2.2.2 p hp0 hp1, by omega⟩
/-- what SearchTimes answers -/
def stimesR (n : Int) (g : Bool) (a : Int) (xs : List Int) (e : Int) : List Int × Bool := if lineB n g a && searchB n a xs && (decide (0 ≤ e) && decide (e ≤ 9)) then (timesL n a e xs, true) else ([], false)
theorem stimesR_len (n : Int) (g : Bool) (a : Int) (xs : List Int) (e : Int) : (stimesR n g a xs e).1.length ≤ 1048576 := by
  unfold stimesR
  by_cases h : (lineB n g a && searchB n a xs && (decide (0 ≤ e) && decide (e ≤ 9))) = true
  · rw [if_pos h]
    have hl : lineB n g a = true := by
      simp only [Bool.and_eq_true] at h
      exact h.1.1
    have := ((lineB_iff n g a).1 hl).2.1
    simp only [timesL_len]
    omega
  · rw [if_neg h]
    simp
end Go.Proofs.Ytnclfdfnhhicdaa
