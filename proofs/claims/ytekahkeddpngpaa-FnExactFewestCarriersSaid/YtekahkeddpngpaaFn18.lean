/-
  What is proved: slices.Grow of nil, slices.Concat of lists of numbers that are not nil, spec.l1Own. Conditions: those of each contract.
-/
import Derived.Test.YtekahkeddpngpaaFn4
import Derived.Lib.Walk
import Derived.Lib.SliceRun
import Derived.Lib.AppendZerosOnto
namespace Go.Proofs.Ytekahkeddpngpaa
open Go.RowKit
set_option linter.unusedVariables false
set_option linter.unusedSimpArgs false

theorem cells_list {w' : World} {xs : List Int} {b o : Nat} (h : ∀ (i : Nat) x, xs[i]? = some x → w'.cell? ⟨b, o + i, none⟩ = some (.int .i64 x)) : ∀ j u, (xs.map iv)[j]? = some u → w'.cell? ((⟨b, o, none⟩ : Addr).add j) = some u := by
  intro j u hj
  rw [List.getElem?_map] at hj
  cases hxj : xs[j]? with
  | none => rw [hxj] at hj; cases hj
  | some x =>
    rw [hxj] at hj
    cases hj
    have ha : (⟨b, o, none⟩ : Addr).add j = ⟨b, o + j, none⟩ := by
      unfold Addr.add
      by_cases h : j = 0 <;> simp [h]
    rw [ha]
    exact h j x hxj
theorem list_cells {w w' : World} {xs : List Int} {b o : Nat} (hx : ∀ (j : Nat) x, xs[j]? = some x → ∃ b' o', (some ⟨b, o, none⟩ : Option Addr) = some ⟨b', o', none⟩ ∧ b' < w.heap.size ∧ w.cell? ⟨b', o' + j, none⟩ = some (.int .i64 x)) (hb : Below w.heap.size w w') : ∀ j u, (xs.map iv)[j]? = some u → w'.cell? ((⟨b, o, none⟩ : Addr).add j) = some u :=
  cells_list (fun i x h => by
    obtain ⟨b', o', e, hl, hc⟩ := hx i x h
    cases e
    exact (hb.cell (p := ⟨b, o + i, none⟩) hl).trans hc)
set_option maxHeartbeats 800000 in
set_option maxRecDepth 20000 in
theorem grow_nil (m : Nat) (w : World) (hm : 0 < m) (hm2 : m ≤ 1048576) :
    Calls Try.prog 104 #[.slice none 0 0, .int .i64 m] w fun e w' => ∃ v, e = .returned v ∧ w'.ownsRow w.heap.size 3 1 v 0 [] ∧ Below w.heap.size w w' := by
  obtain ⟨i0, hi, hz0, hz1, hz2⟩ := info_parts infoInt
  have hold : (Builtin.firstCells i0.size 0 (.slice none 0 0)).run Try.prog w.drew = .ok ([] : List Value).toArray w.drew := run_firstCells_none w.drew i0.size 0 0 0
  have hrz := fun ty => Lib.run_append_grow_zeros w 24 3 ty 3 i0 (.int .i64 0) .i64 .i64 Try.underlying24 Try.underlying3 hi hz0 none 0 0 [] hold m hm (by rw [hz1]; decide) (by omega) (by omega) (by rw [hz2]; omega)
    (growslice_fits (by omega) (by rw [hz2]; omega))
  have hg1 := grownCap_ge w (0 + m) 0 3
  have hg2 := grownCap_le_maxLen w (0 + m) 0 3 (by unfold maxLen; omega)
  rw [Nat.zero_add] at hrz hg1 hg2
  generalize grownCap w m 0 3 = G at *
  have hsz : (Builtin.zeroCells #[Value.int .i64 0] m ++ Builtin.zeroCells #[Value.int .i64 0] (G - m)).size = G * 1 := by
    simp [size_zeroCells]
    omega
  have HOW := Lib.hid (World.ownsRow_made (base := w.heap.size) (e := 3) (size := 1) w.drew _ G (Nat.le_refl _) hg2 hsz)
  have HB := Lib.hid (((Below.refl w.heap.size w).trans (below_drewN w 1)).trans (below_new w.drew (.cells (Builtin.zeroCells #[Value.int .i64 0] m ++ Builtin.zeroCells #[Value.int .i64 0] (G - m)) 3)))
  unfold maxLen at hg2
  clear hold hsz
  go_enter Try.func104, Try.ntmps104
  go_wp2_with (at_builtin; refine Lib.wpList_append_run _ rfl _ _ _ _ rfl _ _ rfl rfl _ _ (hrz _) ?_)
  all_goals
    go_ret
    exact ⟨_, rfl, HOW.out, HB.out⟩
set_option maxHeartbeats 800000 in
set_option maxRecDepth 20000 in
theorem own_any (v : Value) (xs : List Int) (w : World) (hv : ReadsI w v xs) (hl : 1 ≤ xs.length) (hl2 : xs.length ≤ 1048576) :
    Calls Try.prog 86 #[v] w (OwnsI w.heap.size xs w) := by
  obtain ⟨i0, hi, hz0, hz1, hz2⟩ := info_parts infoInt
  obtain ⟨y, c, rfl, hc, hm, hx⟩ := hv
  unfold maxLen at hm
  obtain ⟨x0, hx0⟩ := get_some (xs := xs) (k := 0) hl
  obtain ⟨b, o, rfl, hbl, _⟩ := hx 0 x0 hx0
  have HC := Lib.hid (list_cells (w' := w.alloc (.cells #[] 3)) hx (below_new w _))
  have HOW := Lib.hid (made_at w w.heap.size w.heap.size rfl (Nat.le_refl _))
  clear hx hx0
  go_enter Try.func86, Try.ntmps86
  go_wp2_with (at_builtin; refine wpList_append_own _ rfl _ _ 24 rfl w.heap.size 3 i0 (.int .i64 0) 1 8 Try.underlying24 hi hz0 hz1 hz2 rfl (by decide) _ _ _ rfl HOW.out ⟨b, o, none⟩ xs.length c (xs.map iv) rfl ?c1 HC.out ?c2 ?c3 ?c4 ?c5 ?_)
  case c1 => simp
  case c2 => intro u hu; simp at hu; obtain ⟨z, _, rfl⟩ := hu; rfl
  case c3 => unfold maxLen; omega
  case c4 => omega
  case c5 => simp
  intro v' w9 hown' hgrow _
  have HB := Lib.hid ((Below.refl w.heap.size w).alloc (Nat.le_refl _) (.cells #[] 3) |>.trans (below_grown hgrow (fun b hb => (owns_block HOW.out b hb).1) (by simp)))
  have HOW' := Lib.hid hown'
  clear hgrow hown'
  go_wp2_with fail
  go_ret
  exact ⟨_, rfl, by simpa using HOW'.out, HB.out⟩
/-- v reads as a list of lists, none of which is nil -/
def ReadsN (w : World) (v : Value) (xss : List (List Int)) : Prop :=
  ∃ a c, v = .slice a xss.length c ∧ xss.length ≤ c ∧ xss.length ≤ maxLen ∧ ∀ (j : Nat) xs, xss[j]? = some xs → ∃ b o b' o' c', a = some ⟨b, o, none⟩ ∧ b < w.heap.size ∧ w.cell? ⟨b, o + j, none⟩ = some (.slice (some ⟨b', o', none⟩) xs.length c') ∧ xs.length ≤ c' ∧ (∀ (i : Nat) x, xs[i]? = some x → b' < w.heap.size ∧ w.cell? ⟨b', o' + i, none⟩ = some (.int .i64 x))
def sumL (xss : List (List Int)) : Nat → Nat
  | 0 => 0
  | k + 1 => sumL xss k + (xss.getD k []).length
theorem sumL_next {xss : List (List Int)} {k : Nat} {xs : List Int} (h : xss[k]? = some xs) : sumL xss (k + 1) = sumL xss k + xs.length := by
  show sumL xss k + (xss.getD k []).length = _
  simp [List.getD, h]
theorem sumL_le (xss : List (List Int)) : ∀ k, k ≤ xss.length → sumL xss k ≤ sumL xss xss.length := by
  intro k hk
  obtain ⟨d, hd⟩ : ∃ d, xss.length = k + d := ⟨xss.length - k, by omega⟩
  rw [hd]
  clear hd hk
  induction d with
  | zero => exact Nat.le_refl _
  | succ d ih => exact Nat.le_trans ih (by show sumL xss (k + d) ≤ sumL xss (k + d) + _; omega)
def catL (xss : List (List Int)) : Nat → List Int
  | 0 => []
  | k + 1 => catL xss k ++ xss.getD k []
theorem catL_next {xss : List (List Int)} {k : Nat} {xs : List Int} (h : xss[k]? = some xs) : catL xss (k + 1) = catL xss k ++ xs := by
  show catL xss k ++ xss.getD k [] = _
  simp [List.getD, h]
theorem catL_len (xss : List (List Int)) : ∀ k, (catL xss k).length = sumL xss k
  | 0 => rfl
  | k + 1 => by
    show (catL xss k ++ xss.getD k []).length = sumL xss k + (xss.getD k []).length
    rw [List.length_append, catL_len xss k]
def CtRel (xss : List (List Int)) (w : World) (base : Nat) (v i : Value) (wr : World) : Prop :=
  ∃ k : Nat, k ≤ xss.length ∧ i = .int .i64 k ∧ wr.ownsRow base 3 1 v (sumL xss k) ((catL xss k).map iv) ∧ Below base w wr ∧ base ≤ wr.heap.size
set_option maxHeartbeats 1600000 in
set_option maxRecDepth 20000 in
theorem concat_any (v : Value) (xss : List (List Int)) (w : World) (hv : ReadsN w v xss) (h0 : 0 < sumL xss xss.length) (h1 : sumL xss xss.length ≤ 1048576) :
    Calls Try.prog 91 #[v] w (OwnsI w.heap.size (catL xss xss.length) w) := by
  obtain ⟨i0, hi, hz0, hz1, hz2⟩ := info_parts infoInt
  obtain ⟨y, c, rfl, hc, hm, hx⟩ := hv
  unfold maxLen at hm
  have HX := Lib.hid hx
  have HG := Lib.hid (fun w => grow_nil (sumL xss xss.length) w h0 h1)
  clear hx
  go_enter Try.func91, Try.ntmps91
  go_wp2_with fail
  go_loop [3, 11] (fun s i => ∃ k : Nat, k ≤ xss.length ∧ i = .int .i64 k ∧ s = .int .i64 (sumL xss k : Nat)) (fun _ i => xss.length - (intOf i).toNat)
  case atStart => exact ⟨0, Nat.zero_le _, rfl, rfl⟩
  case round =>
    obtain ⟨k, hk, rfl, rfl⟩ := hrel
    have hs := sumL_le xss k hk
    by_cases hlt : k < xss.length
    · obtain ⟨xs, hxk⟩ := get_some hlt
      obtain ⟨b, o, b', o', c', rfl, hbl, hcell, hcl, _⟩ := HX.out k xs hxk
      have hn := sumL_next hxk
      have hs2 := sumL_le xss (k + 1) hlt
      have HN := Lib.hid hn
      have hxl : sumL xss k + xs.length ≤ 1048576 := by omega
      clear hxk hn hs2
      generalize sumL xss k = s at *
      go_wp2_with fail
      go_round
      case rel => exact ⟨k + 1, hlt, by go_num, by rw [HN.out]; exact congrArg (Value.int .i64) (by omega)⟩
      case measure => simp [intOf] <;> omega
    · have hE : k = xss.length := by omega
      subst hE
      go_wp2_with fail
      refine (HG.out _).mono ?_
      rintro e w2 ⟨u, rfl, ho, hb⟩
      have HO := Lib.hid ho
      have HB := Lib.hid hb
      clear ho hb
      go_wp2_with fail
      go_loopw [6, 27] (fun v i wr => CtRel xss w w.heap.size v i wr) (fun _ i _ => xss.length - (intOf i).toNat)
      case atStart => exact ⟨0, Nat.zero_le _, rfl, HO.out, HB.out, HB.out.size⟩
      case round =>
        obtain ⟨k, hk, rfl, hown, hb, hbs⟩ := hrel
        have hs := sumL_le xss k hk
        generalize hys : (catL xss k).map iv = ys at hown
        have HYS := Lib.hid hys
        have HOW := Lib.hid hown
        have HBB := Lib.hid hb
        clear hown hys hb
        by_cases hlt : k < xss.length
        · obtain ⟨xs, hxk⟩ := get_some hlt
          obtain ⟨b, o, b', o', c', rfl, hbl, hcell0, hcl, hcs⟩ := HX.out k xs hxk
          have hcell : wr.cell? ⟨b, o + k, none⟩ = some (.slice (some ⟨b', o', none⟩) xs.length c') := (HBB.out.cell (p := ⟨b, o + k, none⟩) hbl).trans hcell0
          have hn := sumL_next hxk
          have hs2 := sumL_le xss (k + 1) hlt
          have hxl : sumL xss k + xs.length ≤ 1048576 := by omega
          have HCAT := Lib.hid (catL_next hxk)
          have HN := Lib.hid hn
          have HC := Lib.hid (cells_list (w' := wr) (xs := xs) (b := b') (o := o') (fun i x hx => by obtain ⟨hl, hc⟩ := hcs i x hx; exact (HBB.out.cell (p := ⟨b', o' + i, none⟩) hl).trans hc))
          clear hcell0 hxk hn hs2 hcs
          generalize sumL xss k = s at *
          go_wp2_with (at_builtin; refine wpList_append_own _ rfl _ _ 24 rfl w.heap.size 3 i0 (.int .i64 0) 1 8 Try.underlying24 hi hz0 hz1 hz2 rfl (by decide) _ _ _ rfl HOW.out ⟨b', o', none⟩ xs.length c' (xs.map iv) rfl ?c1 HC.out ?c2 ?c3 ?c4 ?c5 ?_)
          case c1 => simp
          case c2 => intro u hu; simp at hu; obtain ⟨z, _, rfl⟩ := hu; rfl
          case c3 => unfold maxLen; omega
          case c4 => omega
          case c5 => exact hbs
          intro v' w9 hown' hgrow _
          have hbg := below_grown hgrow (fun b hb => (owns_block HOW.out b hb).1) hbs
          have HB2 := Lib.hid (HBB.out.trans hbg)
          have HS2 := Lib.hid (Nat.le_trans hbs hbg.size)
          have HOW' := Lib.hid hown'
          clear hgrow hown' hbg
          go_wp2_with fail
          go_roundw
          case rel =>
            refine ⟨k + 1, hlt, by go_num, ?_, HB2.out, HS2.out⟩
            rw [HN.out, HCAT.out, List.map_append, HYS.out]
            exact HOW'.out
          case measure => simp [intOf] <;> omega
        · have hE : k = xss.length := by omega
          subst hE
          go_wp2_with fail
          go_ret
          exact ⟨_, rfl, by rw [catL_len, HYS.out]; exact HOW.out, HBB.out⟩
end Go.Proofs.Ytekahkeddpngpaa
