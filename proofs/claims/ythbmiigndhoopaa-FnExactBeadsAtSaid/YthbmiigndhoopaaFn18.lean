/-
  What is proved: slices.Grow of nil, slices.Concat of lists of numbers that are not nil, spec.l1Own. Conditions: those of each contract.
-/
import Derived.Test.YthbmiigndhoopaaFn4
import Derived.Lib.Walk
import Derived.Lib.SliceRun
import Derived.Lib.AppendZerosOnto
namespace Go.Proofs.Ythbmiigndhoopaa
open Go.RowKit
set_option linter.unusedVariables false
set_option linter.unusedSimpArgs false

theorem cells_list {w' : World} {xs : List Int} {b o : Nat} (h : ∀ (i : Nat) x, xs[i]? = some x → w'.cell? ⟨b, o + i, none⟩ = some (.int .i64 x)) : ∀ j u, (xs.map iv)[j]? = some u → w'.cell? ((⟨b, o, none⟩ : Addr).add j) = some u := by
  intro j u hj
  rw [List.getElem?_map] at hj
  cases hxj : xs[j]? with
  | none => rw [hxj] at hj; cases hj
  | some x =>
    rw [hxj] at hj
    cases hj
    have ha : (⟨b, o, none⟩ : Addr).add j = ⟨b, o + j, none⟩ := by
      unfold Addr.add
      by_cases h : j = 0 <;> simp [h]
    rw [ha]
    exact h j x hxj
theorem list_cells {w w' : World} {xs : List Int} {b o : Nat} (hx : ∀ (j : Nat) x, xs[j]? = some x → ∃ b' o', (some ⟨b, o, none⟩ : Option Addr) = some ⟨b', o', none⟩ ∧ b' < w.heap.size ∧ w.cell? ⟨b', o' + j, none⟩ = some (.int .i64 x)) (hb : Below w.heap.size w w') : ∀ j u, (xs.map iv)[j]? = some u → w'.cell? ((⟨b, o, none⟩ : Addr).add j) = some u :=
  cells_list (fun i x h => by
    obtain ⟨b', o', e, hl, hc⟩ := hx i x h
    cases e
    exact (hb.cell (p := ⟨b, o + i, none⟩) hl).trans hc)
set_option maxHeartbeats 800000 in
set_option maxRecDepth 20000 in
theorem own_any (v : Value) (xs : List Int) (w : World) (hv : ReadsI w v xs) (hl : 1 ≤ xs.length) (hl2 : xs.length ≤ 1048576) :
    Calls Try.prog 67 #[v] w (OwnsI w.heap.size xs w) := by
  obtain ⟨i0, hi, hz0, hz1, hz2⟩ := info_parts infoInt
  obtain ⟨y, c, rfl, hc, hm, hx⟩ := hv
  unfold maxLen at hm
  obtain ⟨x0, hx0⟩ := get_some (xs := xs) (k := 0) hl
  obtain ⟨b, o, rfl, hbl, _⟩ := hx 0 x0 hx0
  have HC := Lib.hid (list_cells (w' := w.alloc (.cells #[] 3)) hx (below_new w _))
  have HOW := Lib.hid (made_at w w.heap.size w.heap.size rfl (Nat.le_refl _))
  clear hx hx0
  go_enter Try.func67, Try.ntmps67
  go_wp2_with (at_builtin; refine wpList_append_own _ rfl _ _ 22 rfl w.heap.size 3 i0 (.int .i64 0) 1 8 Try.underlying22 hi hz0 hz1 hz2 rfl (by decide) _ _ _ rfl HOW.out ⟨b, o, none⟩ xs.length c (xs.map iv) rfl ?c1 HC.out ?c2 ?c3 ?c4 ?c5 ?_)
  case c1 => simp
  case c2 => intro u hu; simp at hu; obtain ⟨z, _, rfl⟩ := hu; rfl
  case c3 => unfold maxLen; omega
  case c4 => omega
  case c5 => simp
  intro v' w9 hown' hgrow _
  have HB := Lib.hid ((Below.refl w.heap.size w).alloc (Nat.le_refl _) (.cells #[] 3) |>.trans (below_grown hgrow (fun b hb => (owns_block HOW.out b hb).1) (by simp)))
  have HOW' := Lib.hid hown'
  clear hgrow hown'
  go_wp2_with fail
  go_ret
  exact ⟨_, rfl, by simpa using HOW'.out, HB.out⟩
/-- v reads as a list of lists, none of which is nil -/
def ReadsN (w : World) (v : Value) (xss : List (List Int)) : Prop :=
  ∃ a c, v = .slice a xss.length c ∧ xss.length ≤ c ∧ xss.length ≤ maxLen ∧ ∀ (j : Nat) xs, xss[j]? = some xs → ∃ b o b' o' c', a = some ⟨b, o, none⟩ ∧ b < w.heap.size ∧ w.cell? ⟨b, o + j, none⟩ = some (.slice (some ⟨b', o', none⟩) xs.length c') ∧ xs.length ≤ c' ∧ (∀ (i : Nat) x, xs[i]? = some x → b' < w.heap.size ∧ w.cell? ⟨b', o' + i, none⟩ = some (.int .i64 x))
def sumL (xss : List (List Int)) : Nat → Nat
  | 0 => 0
  | k + 1 => sumL xss k + (xss.getD k []).length
theorem sumL_next {xss : List (List Int)} {k : Nat} {xs : List Int} (h : xss[k]? = some xs) : sumL xss (k + 1) = sumL xss k + xs.length := by
  show sumL xss k + (xss.getD k []).length = _
  simp [List.getD, h]
theorem sumL_le (xss : List (List Int)) : ∀ k, k ≤ xss.length → sumL xss k ≤ sumL xss xss.length := by
  intro k hk
  obtain ⟨d, hd⟩ : ∃ d, xss.length = k + d := ⟨xss.length - k, by omega⟩
  rw [hd]
  clear hd hk
  induction d with
  | zero => exact Nat.le_refl _
  | succ d ih => exact Nat.le_trans ih (by show sumL xss (k + d) ≤ sumL xss (k + d) + _; omega)
def catL (xss : List (List Int)) : Nat → List Int
  | 0 => []
  | k + 1 => catL xss k ++ xss.getD k []
theorem catL_next {xss : List (List Int)} {k : Nat} {xs : List Int} (h : xss[k]? = some xs) : catL xss (k + 1) = catL xss k ++ xs := by
  show catL xss k ++ xss.getD k [] = _
  simp [List.getD, h]
theorem catL_len (xss : List (List Int)) : ∀ k, (catL xss k).length = sumL xss k
  | 0 => rfl
  | k + 1 => by
    show (catL xss k ++ xss.getD k []).length = sumL xss k + (xss.getD k []).length
    rw [List.length_append, catL_len xss k]
end Go.Proofs.Ythbmiigndhoopaa
