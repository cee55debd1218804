/-
  What is proved: plain facts on memory: cells of a block that are written, and what lies apart. Conditions: those of each fact.
-/
import Derived.Test.YthbmiigndhoopaaFn18
import Derived.Test.YthbmiigndhoopaaBlk
namespace Go.Proofs.Ythbmiigndhoopaa
open Go.RowKit
set_option linter.unusedVariables false
set_option linter.unusedSimpArgs false

theorem bset {w : World} {b j : Nat} {cs : Array Value} {t : TypeId} (v : Value) (h : Blk w b cs t) : Blk (w.setCell ⟨b, j, none⟩ v) b (cs.setIfInBounds j v) t := heap_setCell_same w b j _ t v h
theorem both {w : World} {b b' j : Nat} {cs : Array Value} {t : TypeId} (v : Value) (h : Blk w b cs t) (hne : b ≠ b') : Blk (w.setCell ⟨b', j, none⟩ v) b cs t := (heap_setCell_other w ⟨b', j, none⟩ b v (fun e => hne e)).trans h
theorem bkept {w w' : World} {b : Nat} {cs : Array Value} {t : TypeId} {r : Option Nat} (h : Blk w b cs t) (hg : w.grownBy w' r) (hne : r = some b → False) : Blk w' b cs t := by
  obtain ⟨g1, g2, g3, g4, g5⟩ := hg
  exact (g5 b h.lt (fun e => hne e.symm)).trans h
theorem bset3 {W : World} {b : Nat} {x0 x1 x2 : Value} {t : TypeId} (v0 v1 v2 : Value) (h : Blk W b #[x0, x1, x2] t) : Blk (((W.setCell ⟨b, 0, none⟩ v0).setCell ⟨b, 1, none⟩ v1).setCell ⟨b, 2, none⟩ v2) b #[v0, v1, v2] t :=
  bset v2 (bset v1 (bset v0 h))
theorem both3 {W : World} {b c : Nat} {cs : Array Value} {t : TypeId} (v0 v1 v2 : Value) (h : Blk W c cs t) (hne : c ≠ b) : Blk (((W.setCell ⟨b, 0, none⟩ v0).setCell ⟨b, 1, none⟩ v1).setCell ⟨b, 2, none⟩ v2) c cs t :=
  both _ (both _ (both _ h hne) hne) hne
theorem lset3 {base : Nat} {w W : World} {b : Nat} (v0 v1 v2 : Value) (h : Below base w W) (hb : base ≤ b) : Below base w (((W.setCell ⟨b, 0, none⟩ v0).setCell ⟨b, 1, none⟩ v1).setCell ⟨b, 2, none⟩ v2) :=
  ((h.setCell hb _).setCell hb _).setCell hb _
theorem roth {w : World} {base n b j : Nat} {v : Value} {xs : List Value} (h : w.ownsRow base 3 1 v n xs) (u : Value) (hne : ∀ c, v.ownBlock = some c → c ≠ b) : (w.setCell ⟨b, j, none⟩ u).ownsRow base 3 1 v n xs := by
  obtain ⟨hl, h2⟩ := h
  refine ⟨hl, ?_⟩
  rcases h2 with h2 | ⟨g, cap, cur, hv, hgb, hblk, h3⟩
  · exact .inl h2
  · subst hv
    exact .inr ⟨g, cap, cur, rfl, hgb, (heap_setCell_other w ⟨b, j, none⟩ g u (fun e => hne g rfl e)).trans hblk, h3⟩
theorem roth3 {w : World} {base n b : Nat} {v : Value} {xs : List Value} (h : w.ownsRow base 3 1 v n xs) (v0 v1 v2 : Value) (hne : ∀ c, v.ownBlock = some c → c ≠ b) : (((w.setCell ⟨b, 0, none⟩ v0).setCell ⟨b, 1, none⟩ v1).setCell ⟨b, 2, none⟩ v2).ownsRow base 3 1 v n xs :=
  roth (roth (roth h _ hne) _ hne) _ hne
theorem rkept {w w' : World} {base n : Nat} {v : Value} {xs : List Value} {r : Option Nat} (h : w.ownsRow base 3 1 v n xs) (hg : w.grownBy w' r) (hne : ∀ b, v.ownBlock = some b → r = some b → False) : w'.ownsRow base 3 1 v n xs := by
  obtain ⟨hl, h2⟩ := h
  refine ⟨hl, ?_⟩
  rcases h2 with h2 | ⟨g, cap, cur, hv, hgb, hblk, h3⟩
  · exact .inl h2
  · subst hv
    obtain ⟨g1, g2, g3, g4, g5⟩ := hg
    exact .inr ⟨g, cap, cur, rfl, hgb, (g5 g (Array.getElem?_eq_some_iff.1 hblk).1 (fun e => hne g rfl e.symm)).trans hblk, h3⟩
theorem rd_cells {w : World} {a : Option Addr} {l c : Nat} {xs : List Int} (h : ReadsI w (.slice a l c) xs) : 0 < (xs.map iv).length → ∃ ad, a = some ad ∧ ∀ (j : Nat) v, (xs.map iv)[j]? = some v → w.cell? (ad.add j) = some v := by
  intro h0
  obtain ⟨a', c', e, hc, hm, hx⟩ := h
  cases e
  obtain ⟨x0, hx0⟩ := get_some (xs := xs) (k := 0) (by simpa using h0)
  obtain ⟨b, o, ha, _⟩ := hx 0 x0 hx0
  refine ⟨_, ha, fun j v hj => ?_⟩
  rw [List.getElem?_map] at hj
  cases hxj : xs[j]? with
  | none => rw [hxj] at hj; cases hj
  | some x =>
    rw [hxj] at hj
    cases hj
    obtain ⟨b', o', e, _, hcell⟩ := hx j x hxj
    rw [ha] at e
    cases e
    have hadd : (⟨b, o, none⟩ : Addr).add j = ⟨b, o + j, none⟩ := by
      unfold Addr.add
      by_cases h : j = 0 <;> simp [h]
    rw [hadd]
    exact hcell
/-- a block that is known whole, as a row of its own -/
theorem own_blk {w : World} {base g m : Nat} {xs : List Int} (h : Blk w g (xs.map iv).toArray 3) (hb : base ≤ g) (hl : xs.length = m) (hm : m ≤ 1048576) : w.ownsRow base 3 1 (.slice (some ⟨g, 0, none⟩) m m) m (xs.map iv) := by
  subst hl
  exact ⟨by simp, .inr ⟨g, xs.length, _, rfl, hb, h, Nat.le_refl _, by unfold maxLen; omega, by simp, List.take_of_length_le (by simp)⟩⟩
theorem one_nw {x : Value} {t : TypeId} (wc : World) (k : Nat) (hk : wc.heap.size = k) :
    ∀ (j : Nat) u, [x][j]? = some u → (wc.alloc (.cells #[x] t)).cell? ((⟨k, 0, none⟩ : Addr).add j) = some u := by
  subst hk
  intro j u hj
  match j, hj with
  | 0, hj =>
    cases hj
    show (wc.alloc (.cells #[x] t)).cell? ⟨wc.heap.size, 0, none⟩ = some x
    rw [cell_new]
    rfl
/-- a row of numbers and a block of another type lie apart -/
theorem row_type {w : World} {base n g : Nat} {v : Value} {xs : List Value} {cs : Array Value} {t : TypeId} (h : w.ownsRow base 3 1 v n xs) (hb : Blk w g cs t) (ht : t ≠ 3) : ∀ b, v.ownBlock = some b → b ≠ g := by
  intro b hvb e
  rcases h.2 with ⟨hv, _⟩ | ⟨g', cap, cur, hv, _, hblk, _⟩
  · rw [hv] at hvb; cases hvb
  · rw [hv] at hvb
    cases hvb
    subst e
    have h1 := hblk.symm.trans hb
    simp only [Option.some.injEq, Obj.cells.injEq] at h1
    exact ht h1.2.1.symm
theorem own_nil (w : World) (base : Nat) : w.ownsRow base 3 1 (.slice none 0 0) 0 [] := ⟨rfl, .inl ⟨rfl, rfl⟩⟩
theorem below_set {base : Nat} {w W : World} {b j : Nat} (v : Value) (h : Below base w W) (hb : base ≤ b) : Below base w (W.setCell ⟨b, j, none⟩ v) := h.setCell hb v
end Go.Proofs.Ythbmiigndhoopaa
