/-
  What is proved: two lists of rows that are put together; spec.l1Own of a list that is not nil. Conditions: those of each contract.
-/
import Derived.Test.YtekahkeddpngpaaLol
import Derived.Test.YtekahkeddpngpaaFn18
namespace Go.Proofs.Ytekahkeddpngpaa
open Go.RowKit
set_option linter.unusedVariables false
set_option linter.unusedSimpArgs false

/-- one table appended to another -/
theorem ownL_concat {base : Nat} {v v' : Value} {xss yss : List (List Int)} {us us2 : List Value} {w w' : World} (h : OwnL base v xss w)
    (hus : ∀ (j : Nat) u xs, us[j]? = some u → xss[j]? = some xs → RdT base w u xs) (hl : us.length = xss.length)
    (hus2 : ∀ (j : Nat) u xs, us2[j]? = some u → yss[j]? = some xs → RdT base w u xs)
    (hown : w'.ownsRow base 24 1 v' (xss.length + yss.length) (us ++ us2)) (hg : w.grownBy w' v.ownBlock) : OwnL base v' (xss ++ yss) w' := by
  have hblk : ∀ b, v.ownBlock = some b → b < base ∨ ∃ cs fr, w.heap[b]? = some (.cells cs 24 fr) := by
    intro b hb
    obtain ⟨_, hlt, cs, fr, hh⟩ := ownL_block h b hb
    exact .inr ⟨cs, fr, hh⟩
  refine ⟨us ++ us2, by rw [List.length_append]; exact hown, fun j y ys hy hys => ?_⟩
  by_cases hj : j < xss.length
  · rw [List.getElem?_append_left (by omega)] at hy
    rw [List.getElem?_append_left hj] at hys
    exact (hus j y ys hy hys).grown hg hblk
  · rw [List.getElem?_append_right (by omega), hl] at hy
    rw [List.getElem?_append_right (by omega)] at hys
    exact (hus2 _ y ys hy hys).grown hg hblk
set_option maxHeartbeats 800000 in
set_option maxRecDepth 20000 in
theorem own_some (b o c : Nat) (xs : List Int) (w : World) (hv : ReadsI w (.slice (some ⟨b, o, none⟩) xs.length c) xs) (hl2 : xs.length ≤ 1048576) :
    Calls Try.prog 86 #[.slice (some ⟨b, o, none⟩) xs.length c] w (OwnsI w.heap.size xs w) := by
  obtain ⟨i0, hi, hz0, hz1, hz2⟩ := info_parts infoInt
  obtain ⟨y, c2, he, hc, hm, hx⟩ := hv
  cases he
  unfold maxLen at hm
  have HC := Lib.hid (list_cells (w' := w.alloc (.cells #[] 3)) hx (below_new w _))
  have HOW := Lib.hid (made_at w w.heap.size w.heap.size rfl (Nat.le_refl _))
  clear hx
  go_enter Try.func86, Try.ntmps86
  go_wp2_with (at_builtin; refine wpList_append_own _ rfl _ _ 24 rfl w.heap.size 3 i0 (.int .i64 0) 1 8 Try.underlying24 hi hz0 hz1 hz2 rfl (by decide) _ _ _ rfl HOW.out ⟨b, o, none⟩ xs.length c (xs.map iv) rfl ?c1 HC.out ?c2 ?c3 ?c4 ?c5 ?_)
  case c1 => simp
  case c2 => intro u hu; simp at hu; obtain ⟨z, _, rfl⟩ := hu; rfl
  case c3 => unfold maxLen; omega
  case c4 => omega
  case c5 => simp
  intro v' w9 hown' hgrow _
  have HB := Lib.hid ((Below.refl w.heap.size w).alloc (Nat.le_refl _) (.cells #[] 3) |>.trans (below_grown hgrow (fun b hb => (owns_block HOW.out b hb).1) (by simp)))
  have HOW' := Lib.hid hown'
  clear hgrow hown'
  go_wp2_with fail
  go_ret
  exact ⟨_, rfl, by simpa using HOW'.out, HB.out⟩
end Go.Proofs.Ytekahkeddpngpaa
