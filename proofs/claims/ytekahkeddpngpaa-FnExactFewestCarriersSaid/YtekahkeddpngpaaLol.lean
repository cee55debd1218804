/-
  What is proved: plain facts on lists of lists of numbers that a function owns: how they are read, what leaves them alone, one more list appended. Conditions: those of each fact.
-/
import Derived.Test.YtekahkeddpngpaaFn4
namespace Go.Proofs.Ytekahkeddpngpaa
open Go.RowKit
set_option linter.unusedVariables false
set_option linter.unusedSimpArgs false

theorem infoInts : (Try.prog.info? 24).map (fun i => (i.zero, i.size, i.bytes)) = some (some (.slice none 0 0), 1, 24) := by kernel_rfl
/-- u is a list of numbers in a block of its own, not below base -/
def RdT (base : Nat) (w : World) (u : Value) (xs : List Int) : Prop :=
  (u = .slice none 0 0 ∧ xs = []) ∨ ∃ (g c : Nat) (cs : Array Value), u = .slice (some ⟨g, 0, none⟩) xs.length c ∧ base ≤ g ∧ xs.length ≤ c ∧ xs.length ≤ maxLen ∧ w.heap[g]? = some (.cells cs 3 (0, 0)) ∧ cs.toList.take xs.length = xs.map iv
theorem rdT_of {base : Nat} {w : World} {u : Value} {xs : List Int} (h : w.ownsRow base 3 1 u xs.length (xs.map iv)) (hm : xs.length ≤ maxLen) : RdT base w u xs := by
  obtain ⟨_, ⟨rfl, h0⟩ | ⟨g, cap, cur, rfl, hg, hh, hc, _, _, ht⟩⟩ := h
  · exact .inl ⟨rfl, List.eq_nil_of_length_eq_zero h0⟩
  · exact .inr ⟨g, cap, cur, rfl, hg, hc, hm, hh, by rw [Nat.mul_one] at ht; exact ht⟩
theorem RdT.lower {base base' : Nat} {w : World} {u : Value} {xs : List Int} (h : RdT base w u xs) (hb : base' ≤ base) : RdT base' w u xs := by
  obtain h | ⟨g, c, cs, hu, hg, h⟩ := h
  · exact .inl h
  · exact .inr ⟨g, c, cs, hu, Nat.le_trans hb hg, h⟩
theorem RdT.reads {base : Nat} {w : World} {u : Value} {xs : List Int} (h : RdT base w u xs) : ReadsI w u xs := by
  obtain ⟨rfl, rfl⟩ | ⟨g, c, cs, rfl, hg, hc, hm, hh, ht⟩ := h
  · exact ⟨none, 0, rfl, Nat.le_refl _, by decide, fun j x hj => by simp at hj⟩
  · refine ⟨_, c, rfl, hc, hm, fun j x hj => ⟨g, 0, rfl, (Array.getElem?_eq_some_iff.1 hh).1, ?_⟩⟩
    have hj2 : (cs.toList.take xs.length)[j]? = some (iv x) := by rw [ht, List.getElem?_map, hj]; rfl
    rw [List.getElem?_take] at hj2
    split at hj2
    · have hcell : w.cell? ⟨g, 0 + j, none⟩ = cs[0 + j]? := by simp [World.cell?, hh]
      rw [hcell, Nat.zero_add, ← Array.getElem?_toList]
      exact hj2
    · cases hj2
theorem RdT.below {base : Nat} {w w' : World} {u : Value} {xs : List Int} (h : RdT base w u xs) (hb : Below w.heap.size w w') : RdT base w' u xs := by
  obtain h | ⟨g, c, cs, hu, hg, hc, hm, hh, ht⟩ := h
  · exact .inl h
  · exact .inr ⟨g, c, cs, hu, hg, hc, hm, (hb.block g (Array.getElem?_eq_some_iff.1 hh).1).trans hh, ht⟩
/-- a change of one block leaves it alone: a block of another type, or one below -/
theorem RdT.grown {base : Nat} {w w' : World} {u : Value} {xs : List Int} {r : Option Nat} (h : RdT base w u xs) (hg : w.grownBy w' r) (hr : ∀ b, r = some b → b < base ∨ ∃ cs fr, w.heap[b]? = some (.cells cs 24 fr)) : RdT base w' u xs := by
  obtain h | ⟨g, c, cs, hu, hb, hc, hm, hh, ht⟩ := h
  · exact .inl h
  · refine .inr ⟨g, c, cs, hu, hb, hc, hm, (hg.block g (Array.getElem?_eq_some_iff.1 hh).1 ?_).trans hh, ht⟩
    intro e
    rcases hr g (by rw [e]) with h | ⟨cs2, fr2, h⟩
    · omega
    · rw [hh] at h
      cases h
/-- v is a list of such lists, in a block of its own -/
def OwnL (base : Nat) (v : Value) (xss : List (List Int)) (w : World) : Prop :=
  ∃ us : List Value, w.ownsRow base 24 1 v xss.length us ∧ ∀ (j : Nat) u xs, us[j]? = some u → xss[j]? = some xs → RdT base w u xs
theorem ownL_block {base : Nat} {v : Value} {xss : List (List Int)} {w : World} (h : OwnL base v xss w) : ∀ b, v.ownBlock = some b → base ≤ b ∧ b < w.heap.size ∧ ∃ cs fr, w.heap[b]? = some (.cells cs 24 fr) := by
  obtain ⟨us, ⟨_, ⟨rfl, _⟩ | ⟨g, cap, cur, rfl, hg, hh, _⟩⟩, _⟩ := h
  · intro b hb
    cases hb
  · intro b hb
    cases hb
    exact ⟨hg, (Array.getElem?_eq_some_iff.1 hh).1, cur, _, hh⟩
theorem ownL_lower {base base' : Nat} {v : Value} {xss : List (List Int)} {w : World} (h : OwnL base v xss w) (hb : base' ≤ base) : OwnL base' v xss w := by
  obtain ⟨us, ⟨hl, h1⟩, h2⟩ := h
  refine ⟨us, ⟨hl, ?_⟩, fun j u xs hu hx => (h2 j u xs hu hx).lower hb⟩
  obtain h1 | ⟨g, cap, cur, hv, hg, h1⟩ := h1
  · exact .inl h1
  · exact .inr ⟨g, cap, cur, hv, Nat.le_trans hb hg, h1⟩
theorem ownL_below {base : Nat} {v : Value} {xss : List (List Int)} {w w' : World} (h : OwnL base v xss w) (hb : Below w.heap.size w w') : OwnL base v xss w' := by
  obtain ⟨us, ⟨hl, h1⟩, h2⟩ := h
  refine ⟨us, ⟨hl, ?_⟩, fun j u xs hu hx => (h2 j u xs hu hx).below hb⟩
  obtain h1 | ⟨g, cap, cur, hv, hg, hh, h1⟩ := h1
  · exact .inl h1
  · exact .inr ⟨g, cap, cur, hv, hg, (hb.block g (Array.getElem?_eq_some_iff.1 hh).1).trans hh, h1⟩
/-- a change of a block below leaves it alone -/
theorem ownL_apart {base : Nat} {v : Value} {xss : List (List Int)} {w w' : World} {r : Option Nat} (h : OwnL base v xss w) (hg : w.grownBy w' r) (hr : ∀ b, r = some b → b < base) : OwnL base v xss w' := by
  obtain ⟨us, ⟨hl, h1⟩, h2⟩ := h
  refine ⟨us, ⟨hl, ?_⟩, fun j u xs hu hx => (h2 j u xs hu hx).grown hg (fun b hb => .inl (hr b hb))⟩
  obtain h1 | ⟨g, cap, cur, hv, hb, hh, h1⟩ := h1
  · exact .inl h1
  · refine .inr ⟨g, cap, cur, hv, hb, (hg.block g (Array.getElem?_eq_some_iff.1 hh).1 ?_).trans hh, h1⟩
    intro e
    have := hr g (by rw [e])
    omega
theorem ownL_reads {base : Nat} {v : Value} {xss : List (List Int)} {w : World} (h : OwnL base v xss w) (hm : xss.length ≤ maxLen) : ReadsL w v xss := by
  obtain ⟨us, ⟨hl, ⟨rfl, h0⟩ | ⟨g, cap, cur, rfl, hb, hh, hc, _, _, ht⟩⟩, h2⟩ := h
  · have e : xss = [] := List.eq_nil_of_length_eq_zero h0
    subst e
    exact ⟨none, 0, rfl, Nat.le_refl _, by decide, fun j x hj => by simp at hj⟩
  · refine ⟨_, cap, rfl, hc, hm, fun j xs hj => ?_⟩
    have hjl := (List.getElem?_eq_some_iff.1 hj).1
    obtain ⟨u, hu⟩ := get_some (xs := us) (k := j) (by omega)
    refine ⟨g, 0, u, rfl, (Array.getElem?_eq_some_iff.1 hh).1, ?_, (h2 j u xs hu hj).reads⟩
    have hj2 : (cur.toList.take (xss.length * 1))[j]? = some u := by rw [ht]; exact hu
    rw [List.getElem?_take] at hj2
    split at hj2
    · have hcell : w.cell? ⟨g, 0 + j, none⟩ = cur[0 + j]? := by simp [World.cell?, hh]
      rw [hcell, Nat.zero_add, ← Array.getElem?_toList]
      exact hj2
    · cases hj2
theorem ownL_new (w : World) (base k : Nat) (hk : w.heap.size = k) (hb : base ≤ k) : OwnL base (.slice (some ⟨k, 0, none⟩) 0 0) [] (w.alloc (.cells #[] 24)) := by
  subst hk
  exact ⟨[], World.ownsRow_made w #[] 0 hb (by decide) (by simp), fun j u xs hu => by simp at hu⟩
/-- one more list appended -/
theorem ownL_append {base : Nat} {v v' u : Value} {xss : List (List Int)} {us : List Value} {xs : List Int} {w w' : World} {o : Obj} (h : OwnL base v xss w)
    (hus : ∀ (j : Nat) u xs, us[j]? = some u → xss[j]? = some xs → RdT base w u xs) (hl : us.length = xss.length) (hx : RdT base w u xs)
    (hown : w'.ownsRow base 24 1 v' (xss.length + 1) (us ++ [u])) (hg : (w.alloc o).grownBy w' v.ownBlock) : OwnL base v' (xss ++ [xs]) w' := by
  have hblk : ∀ b, v.ownBlock = some b → b < base ∨ ∃ cs fr, (w.alloc o).heap[b]? = some (.cells cs 24 fr) := by
    intro b hb
    obtain ⟨_, hlt, cs, fr, hh⟩ := ownL_block h b hb
    exact .inr ⟨cs, fr, ((below_new w o).block b hlt).trans hh⟩
  refine ⟨us ++ [u], by rw [List.length_append]; exact hown, fun j y ys hy hys => ?_⟩
  by_cases hj : j < xss.length
  · rw [List.getElem?_append_left (by omega)] at hy
    rw [List.getElem?_append_left hj] at hys
    exact ((hus j y ys hy hys).below (below_new w o)).grown hg hblk
  · have hj2 : j = xss.length := by
      have := (List.getElem?_eq_some_iff.1 hys).1
      simp at this
      omega
    subst hj2
    rw [List.getElem?_append_right (by omega), hl, Nat.sub_self] at hy
    rw [List.getElem?_append_right (by omega), Nat.sub_self] at hys
    cases hy
    cases hys
    exact (hx.below (below_new w o)).grown hg hblk
theorem ownL_at {base : Nat} {a : Option Addr} {m c : Nat} {xss : List (List Int)} {w : World} {j : Nat} {xs : List Int} (h : OwnL base (.slice a m c) xss w) (hj : xss[j]? = some xs) : ∃ g u, a = some ⟨g, 0, none⟩ ∧ g < w.heap.size ∧ w.cell? ⟨g, j, none⟩ = some u ∧ RdT base w u xs := by
  obtain ⟨us, ⟨hl, ⟨he, h0⟩ | ⟨g, cap, cur, he, hb, hh, hc, _, _, ht⟩⟩, h2⟩ := h
  · have e : xss = [] := List.eq_nil_of_length_eq_zero h0
    subst e
    simp at hj
  · cases he
    have hjl := (List.getElem?_eq_some_iff.1 hj).1
    obtain ⟨u, hu⟩ := get_some (xs := us) (k := j) (by omega)
    refine ⟨g, u, rfl, (Array.getElem?_eq_some_iff.1 hh).1, ?_, h2 j u xs hu hj⟩
    have hj2 : (cur.toList.take (xss.length * 1))[j]? = some u := by rw [ht]; exact hu
    rw [List.getElem?_take] at hj2
    split at hj2
    · have hcell : w.cell? ⟨g, j, none⟩ = cur[j]? := by simp [World.cell?, hh]
      rw [hcell, ← Array.getElem?_toList]
      exact hj2
    · cases hj2
theorem ownL_shape {base : Nat} {v : Value} {xss : List (List Int)} {w : World} (h : OwnL base v xss w) : ∃ a c, v = .slice a xss.length c := by
  obtain ⟨us, ⟨hl, ⟨he, h0⟩ | ⟨g, cap, cur, he, _⟩⟩, h2⟩ := h
  · exact ⟨none, 0, by rw [he, h0]⟩
  · exact ⟨_, _, he⟩
theorem rdT_shape {base : Nat} {w : World} {u : Value} {xs : List Int} (h : RdT base w u xs) (hx : xs ≠ []) : ∃ g c, u = .slice (some ⟨g, 0, none⟩) xs.length c := by
  obtain ⟨_, h⟩ | ⟨g, c, cs, hu, _⟩ := h
  · exact absurd h hx
  · exact ⟨g, c, hu⟩
theorem rdT_cell {base : Nat} {w : World} {g m c : Nat} {xs : List Int} {j : Nat} {x : Int} (h : RdT base w (.slice (some ⟨g, 0, none⟩) m c) xs) (hj : xs[j]? = some x) : w.cell? ⟨g, j, none⟩ = some (.int .i64 x) := by
  obtain ⟨a, c', e, hc, hm, hx⟩ := h.reads
  obtain ⟨b, o, e2, _, h3⟩ := hx j x hj
  cases e
  cases e2
  rw [Nat.zero_add] at h3
  exact h3
end Go.Proofs.Ytekahkeddpngpaa
