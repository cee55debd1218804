/-
  What is proved: plain facts on relays: when legs are one, their price and their arrival. Conditions: those of each fact.
-/
import Derived.Test.YtekahkeddpngpaaRla
namespace Go.Proofs.Ytekahkeddpngpaa
open Go.RowKit
set_option linter.unusedVariables false
set_option linter.unusedSimpArgs false

/-- a leg: a carrier, and two places -/
structure Lg where
  k : Int
  a : Int
  b : Int
/-- the steps of a leg -/
def stpI (c : Cr) (a b : Int) : Int := appI c a + b - a
/-- a leg goes on from x, behind legs of the carriers in used -/
def legB (cs : List Cr) (to x : Int) (used : List Int) (l : Lg) : Bool :=
  (decide (0 ≤ l.k) && decide (l.k < cs.length)) && (!used.contains l.k && (decide (l.a = x) && ((decide (l.a < l.b) && decide (l.b ≤ to)) && decide (stpI (crAt cs l.k) l.a l.b ≤ (crAt cs l.k).r))))
/-- legs are a relay from x on to b -/
def relF (cs : List Cr) (to : Int) : Int → List Int → List Lg → Bool
  | x, _, [] => decide (x = to)
  | x, used, l :: ls => legB cs to x used l && relF cs to l.b (used ++ [l.k]) ls
theorem legB_iff (cs : List Cr) (to x : Int) (used : List Int) (l : Lg) : legB cs to x used l = true ↔ (0 ≤ l.k ∧ l.k < cs.length) ∧ used.contains l.k = false ∧ l.a = x ∧ (l.a < l.b ∧ l.b ≤ to) ∧ stpI (crAt cs l.k) l.a l.b ≤ (crAt cs l.k).r := by
  unfold legB
  simp only [Bool.and_eq_true, decide_eq_true_iff, Bool.not_eq_true']
theorem legB_no {cs : List Cr} {to x : Int} {used : List Int} {l : Lg} (h : ¬ ((0 ≤ l.k ∧ l.k < cs.length) ∧ used.contains l.k = false ∧ l.a = x ∧ (l.a < l.b ∧ l.b ≤ to) ∧ stpI (crAt cs l.k) l.a l.b ≤ (crAt cs l.k).r)) : legB cs to x used l = false := by
  cases hb : legB cs to x used l
  · rfl
  · exact absurd ((legB_iff cs to x used l).1 hb) h
theorem relF_step {cs : List Cr} {to x : Int} {used : List Int} {ls : List Lg} {j : Nat} {l : Lg} (hj : ls[j]? = some l) : relF cs to x used (ls.drop j) = (legB cs to x used l && relF cs to l.b (used ++ [l.k]) (ls.drop (j + 1))) := by
  have hlt := (List.getElem?_eq_some_iff.1 hj).1
  have he := (List.getElem?_eq_some_iff.1 hj).2
  rw [List.drop_eq_getElem_cons hlt, he]
  rfl
theorem relF_end {cs : List Cr} {to x : Int} {used : List Int} {ls : List Lg} : relF cs to x used (ls.drop ls.length) = decide (x = to) := by
  rw [List.drop_length]
  rfl
/-- the numbers of the carriers of the first j legs -/
def usedK (ls : List Lg) (j : Nat) : List Int := (ls.take j).map fun l => l.k
theorem usedK_next {ls : List Lg} {j : Nat} {l : Lg} (hj : ls[j]? = some l) : usedK ls (j + 1) = usedK ls j ++ [l.k] := by
  unfold usedK
  rw [List.take_add_one, hj]
  simp
theorem usedK_len {ls : List Lg} {j : Nat} (h : j ≤ ls.length) : (usedK ls j).length = j := by simp [usedK]; omega
theorem usedK_take {ls : List Lg} {j : Nat} (h : j ≤ ls.length) : (usedK ls (j + 1)).take j = usedK ls j := by
  unfold usedK
  rw [← List.map_take, List.take_take]
  congr 2
  omega
/-- a relay on a line from a to b -/
def askB (n : Int) (g : Bool) (cs : List Cr) (a b : Int) : Bool := csB n g cs && (decide (0 ≤ a) && (decide (a ≤ b) && decide (b < n)))
theorem askB_iff (n : Int) (g : Bool) (cs : List Cr) (a b : Int) : askB n g cs a b = true ↔ csB n g cs = true ∧ 0 ≤ a ∧ a ≤ b ∧ b < n := by
  unfold askB
  simp only [Bool.and_eq_true, decide_eq_true_iff]
theorem askB_no {n : Int} {g : Bool} {cs : List Cr} {a b : Int} (h : ¬ (csB n g cs = true ∧ 0 ≤ a ∧ a ≤ b ∧ b < n)) : askB n g cs a b = false := by
  cases hb : askB n g cs a b
  · rfl
  · exact absurd ((askB_iff n g cs a b).1 hb) h
def relR (n : Int) (g : Bool) (cs : List Cr) (a b : Int) (ls : List Lg) : Bool × Bool := (askB n g cs a b && relF cs b a [] ls, askB n g cs a b)
/-- a relay that is valid, with a valid request -/
def relOK (n : Int) (g : Bool) (cs : List Cr) (a b : Int) (ls : List Lg) : Bool := askB n g cs a b && relF cs b a [] ls
/-- the price of the first j legs -/
def prcK (cs : List Cr) (ls : List Lg) : Nat → Int
  | 0 => 0
  | j + 1 => prcK cs ls j + (match ls[j]? with | some l => stpI (crAt cs l.k) l.a l.b * (crAt cs l.k).f | none => 0)
/-- the arrival behind the first j legs -/
def arrK (cs : List Cr) (ls : List Lg) : Nat → Int
  | 0 => 0
  | j + 1 => match ls[j]? with | some l => max (arrK cs ls j) (appI (crAt cs l.k) l.a) + l.b - l.a | none => 0
theorem prcK_next {cs : List Cr} {ls : List Lg} {j : Nat} {l : Lg} (hj : ls[j]? = some l) : prcK cs ls (j + 1) = prcK cs ls j + stpI (crAt cs l.k) l.a l.b * (crAt cs l.k).f := by
  show prcK cs ls j + (match ls[j]? with | some l => stpI (crAt cs l.k) l.a l.b * (crAt cs l.k).f | none => 0) = _
  rw [hj]
theorem arrK_next {cs : List Cr} {ls : List Lg} {j : Nat} {l : Lg} (hj : ls[j]? = some l) : arrK cs ls (j + 1) = max (arrK cs ls j) (appI (crAt cs l.k) l.a) + l.b - l.a := by
  show (match ls[j]? with | some l => max (arrK cs ls j) (appI (crAt cs l.k) l.a) + l.b - l.a | none => 0) = _
  rw [hj]
/-- what holds of each leg of a relay -/
structure LgOK (n : Int) (cs : List Cr) (l : Lg) : Prop where
  k0 : 0 ≤ l.k
  kn : l.k < cs.length
  a0 : 0 ≤ l.a
  ab : l.a < l.b
  bn : l.b < n
  fit : stpI (crAt cs l.k) l.a l.b ≤ (crAt cs l.k).r
theorem relF_legs {n : Int} {cs : List Cr} {to : Int} (hto : to < n) : ∀ (ls : List Lg) (x : Int) (used : List Int), 0 ≤ x → relF cs to x used ls = true → ∀ (j : Nat) l, ls[j]? = some l → LgOK n cs l
  | [], _, _, _, _, j, l, hj => by simp at hj
  | l0 :: ls, x, used, hx, h, j, l, hj => by
    have h' : (legB cs to x used l0 && relF cs to l0.b (used ++ [l0.k]) ls) = true := h
    rw [Bool.and_eq_true, legB_iff] at h'
    obtain ⟨⟨h1, h2, h3, h4, h5⟩, h6⟩ := h'
    match j, hj with
    | 0, hj =>
      cases hj
      exact ⟨h1.1, h1.2, by omega, h4.1, by omega, h5⟩
    | j + 1, hj =>
      exact relF_legs hto ls l0.b (used ++ [l0.k]) (by omega) h6 j l (by simpa using hj)
def rpriceR (n : Int) (g : Bool) (cs : List Cr) (a b : Int) (ls : List Lg) : Int × Bool := (if relOK n g cs a b ls then prcK cs ls ls.length else 0, relOK n g cs a b ls)
def rarriveR (n : Int) (g : Bool) (cs : List Cr) (a b : Int) (ls : List Lg) : Int × Bool := (if relOK n g cs a b ls then arrK cs ls ls.length else 0, relOK n g cs a b ls)
/-- v reads as the list ls of legs -/
def ReadsG (w : World) (v : Value) (ls : List Lg) : Prop :=
  ∃ a c, v = .slice a ls.length c ∧ ls.length ≤ c ∧ ls.length ≤ maxLen ∧ ∀ (j : Nat) l, ls[j]? = some l → ∃ b o, a = some ⟨b, o, none⟩ ∧ b < w.heap.size ∧
    w.cell? ⟨b, o + j * 3, none⟩ = some (.int .i64 l.k) ∧ w.cell? ⟨b, o + j * 3 + 1, none⟩ = some (.int .i64 l.a) ∧ w.cell? ⟨b, o + j * 3 + 2, none⟩ = some (.int .i64 l.b)
theorem ReadsG.below {w w' : World} {v : Value} {ls : List Lg} (h : ReadsG w v ls) (hb : Below w.heap.size w w') : ReadsG w' v ls := by
  obtain ⟨a, c, hv, hc, hm, hx⟩ := h
  refine ⟨a, c, hv, hc, hm, fun j k hj => ?_⟩
  obtain ⟨b, o, ha, hlt, h0, h1, h2⟩ := hx j k hj
  exact ⟨b, o, ha, Nat.lt_of_lt_of_le hlt hb.size, (hb.cell (p := ⟨b, _, none⟩) hlt).trans h0, (hb.cell (p := ⟨b, _, none⟩) hlt).trans h1, (hb.cell (p := ⟨b, _, none⟩) hlt).trans h2⟩
theorem legs_in {w : World} {a : Option Addr} {l c : Nat} {ls : List Lg} (h : ReadsG w (.slice a l c) ls) {j : Nat} {k : Lg} (hj : ls[j]? = some k) :
    ∃ b o, a = some ⟨b, o, none⟩ ∧ b < w.heap.size ∧ w.cell? ⟨b, o + j * 3, none⟩ = some (.int .i64 k.k) ∧ w.cell? ⟨b, o + j * 3 + 1, none⟩ = some (.int .i64 k.a) ∧ w.cell? ⟨b, o + j * 3 + 2, none⟩ = some (.int .i64 k.b) := by
  obtain ⟨a', c', e, hc, hm, hx⟩ := h
  cases e
  exact hx j k hj
end Go.Proofs.Ytekahkeddpngpaa
