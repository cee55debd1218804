/-
  What is proved: the contracts of slices.Grow of nil and slices.Concat, of tables. Conditions: those of each contract.
-/
import Derived.Test.YtefjignlhlpndaaJna
import Derived.Test.YtefjignlhlpndaaFn18
namespace Go.Proofs.Ytefjignlhlpndaa
open Go.RowKit
set_option linter.unusedVariables false
set_option linter.unusedSimpArgs false

set_option maxHeartbeats 800000 in
set_option maxRecDepth 20000 in
theorem growT_nil (m : Nat) (w : World) (hm : 0 < m) (hm2 : m ≤ 1000) :
    Calls Try.prog 96 #[.slice none 0 0, .int .i64 m] w fun e w' => ∃ v, e = .returned v ∧ w'.ownsRow w.heap.size 43 1 v 0 [] ∧ Below w.heap.size w w' := by
  obtain ⟨i0, hi, hz0, hz1, hz2⟩ := info_parts infoTab
  have hold : (Builtin.firstCells i0.size 0 (.slice none 0 0)).run Try.prog w.drew = .ok ([] : List Value).toArray w.drew := run_firstCells_none w.drew i0.size 0 0 0
  have hrz := fun ty => Lib.run_append_grow_zeros w 24 3 ty 43 i0 (.slice none 0 0) .i64 .i64 Try.underlying24 Try.underlying3 hi hz0 none 0 0 [] hold m hm (by rw [hz1]; decide) (by omega) (by omega) (by rw [hz2]; omega)
    (growslice_fits (by omega) (by rw [hz2]; omega))
  have hg1 := grownCap_ge w (0 + m) 0 43
  have hg2 := grownCap_le_maxLen w (0 + m) 0 43 (by unfold maxLen; omega)
  rw [Nat.zero_add] at hrz hg1 hg2
  generalize grownCap w m 0 43 = G at *
  have hsz : (Builtin.zeroCells #[Value.slice none 0 0] m ++ Builtin.zeroCells #[Value.slice none 0 0] (G - m)).size = G * 1 := by
    simp [size_zeroCells]
    omega
  have HOW := Lib.hid (World.ownsRow_made (base := w.heap.size) (e := 43) (size := 1) w.drew _ G (Nat.le_refl _) hg2 hsz)
  have HB := Lib.hid (((Below.refl w.heap.size w).trans (below_drewN w 1)).trans (below_new w.drew (.cells (Builtin.zeroCells #[Value.slice none 0 0] m ++ Builtin.zeroCells #[Value.slice none 0 0] (G - m)) 43)))
  unfold maxLen at hg2
  clear hold hsz
  go_enter Try.func96, Try.ntmps96
  go_wp2_with (at_builtin; refine Lib.wpList_append_run _ rfl _ _ _ _ rfl _ _ rfl rfl _ _ (hrz _) ?_)
  all_goals
    go_ret
    exact ⟨_, rfl, HOW.out, HB.out⟩
/-- v reads as a list of runs of cells, none of which is nil -/
def ReadsV (w : World) (v : Value) (vss : List (List Value)) : Prop :=
  ∃ a c, v = .slice a vss.length c ∧ vss.length ≤ c ∧ vss.length ≤ 60 ∧ ∀ (j : Nat) vs, vss[j]? = some vs → ∃ b o b' o' c', a = some ⟨b, o, none⟩ ∧ b < w.heap.size ∧ w.cell? ⟨b, o + j, none⟩ = some (.slice (some ⟨b', o', none⟩) vs.length c') ∧ vs.length ≤ c' ∧ (∀ (i : Nat) x, vs[i]? = some x → b' < w.heap.size ∧ w.cell? ⟨b', o' + i, none⟩ = some x)
def sumV (vss : List (List Value)) : Nat → Nat
  | 0 => 0
  | k + 1 => sumV vss k + (vss.getD k []).length
theorem sumV_next {vss : List (List Value)} {k : Nat} {vs : List Value} (h : vss[k]? = some vs) : sumV vss (k + 1) = sumV vss k + vs.length := by
  show sumV vss k + (vss.getD k []).length = _
  simp [List.getD, h]
theorem sumV_le (vss : List (List Value)) : ∀ k, k ≤ vss.length → sumV vss k ≤ sumV vss vss.length := by
  intro k hk
  obtain ⟨d, hd⟩ : ∃ d, vss.length = k + d := ⟨vss.length - k, by omega⟩
  rw [hd]
  clear hd hk
  induction d with
  | zero => exact Nat.le_refl _
  | succ d ih => exact Nat.le_trans ih (by show sumV vss (k + d) ≤ sumV vss (k + d) + _; omega)
def catV (vss : List (List Value)) : Nat → List Value
  | 0 => []
  | k + 1 => catV vss k ++ vss.getD k []
theorem catV_next {vss : List (List Value)} {k : Nat} {vs : List Value} (h : vss[k]? = some vs) : catV vss (k + 1) = catV vss k ++ vs := by
  show catV vss k ++ vss.getD k [] = _
  simp [List.getD, h]
theorem catV_len (vss : List (List Value)) : ∀ k, (catV vss k).length = sumV vss k
  | 0 => rfl
  | k + 1 => by
    show (catV vss k ++ vss.getD k []).length = sumV vss k + (vss.getD k []).length
    rw [List.length_append, catV_len vss k]
theorem cells_any {w' : World} {vs : List Value} {b o : Nat} (h : ∀ (i : Nat) x, vs[i]? = some x → w'.cell? ⟨b, o + i, none⟩ = some x) : ∀ j u, vs[j]? = some u → w'.cell? ((⟨b, o, none⟩ : Addr).add j) = some u := by
  intro j u hj
  have ha : (⟨b, o, none⟩ : Addr).add j = ⟨b, o + j, none⟩ := by
    unfold Addr.add
    by_cases h : j = 0 <;> simp [h]
  rw [ha]
  exact h j u hj
def CvRel (vss : List (List Value)) (w : World) (base : Nat) (v i : Value) (wr : World) : Prop :=
  ∃ k : Nat, k ≤ vss.length ∧ i = .int .i64 k ∧ wr.ownsRow base 43 1 v (sumV vss k) (catV vss k) ∧ Below base w wr ∧ base ≤ wr.heap.size
set_option maxHeartbeats 1600000 in
set_option maxRecDepth 20000 in
theorem concatT_any (v : Value) (vss : List (List Value)) (w : World) (hv : ReadsV w v vss) (hone : ∀ (j : Nat) vs, vss[j]? = some vs → ∀ u ∈ vs, u.oneCell' = true) (h0 : 0 < sumV vss vss.length) (h1 : sumV vss vss.length ≤ 1000) :
    Calls Try.prog 71 #[v] w fun e w' => ∃ z, e = .returned z ∧ w'.ownsRow w.heap.size 43 1 z (sumV vss vss.length) (catV vss vss.length) ∧ Below w.heap.size w w' := by
  obtain ⟨i0, hi, hz0, hz1, hz2⟩ := info_parts infoTab
  obtain ⟨y, c, rfl, hc, hm, hx⟩ := hv
  have HX := Lib.hid hx
  have HONE := Lib.hid hone
  have HG := Lib.hid (fun w => growT_nil (sumV vss vss.length) w h0 h1)
  clear hx hone
  go_enter Try.func71, Try.ntmps71
  go_wp2_with fail
  go_loop [3, 11] (fun s i => ∃ k : Nat, k ≤ vss.length ∧ i = .int .i64 k ∧ s = .int .i64 (sumV vss k : Nat)) (fun _ i => vss.length - (intOf i).toNat)
  case atStart => exact ⟨0, Nat.zero_le _, rfl, rfl⟩
  case round =>
    obtain ⟨k, hk, rfl, rfl⟩ := hrel
    have hs := sumV_le vss k hk
    by_cases hlt : k < vss.length
    · obtain ⟨xs, hxk⟩ := get_some hlt
      obtain ⟨b, o, b', o', c', rfl, hbl, hcell, hcl, _⟩ := HX.out k xs hxk
      have hn := sumV_next hxk
      have hs2 := sumV_le vss (k + 1) hlt
      have HN := Lib.hid hn
      have hxl : sumV vss k + xs.length ≤ 1048576 := by omega
      clear hxk hn hs2
      generalize sumV vss k = s at *
      go_wp2_with fail
      go_round
      case rel => exact ⟨k + 1, hlt, by go_num, by rw [HN.out]; exact congrArg (Value.int .i64) (by omega)⟩
      case measure => simp [intOf] <;> omega
    · have hE : k = vss.length := by omega
      subst hE
      go_wp2_with fail
      refine (HG.out _).mono ?_
      rintro e w2 ⟨u, rfl, ho, hb⟩
      have HO := Lib.hid ho
      have HB := Lib.hid hb
      clear ho hb
      go_wp2_with fail
      go_loopw [6, 27] (fun v i wr => CvRel vss w w.heap.size v i wr) (fun _ i _ => vss.length - (intOf i).toNat)
      case atStart => exact ⟨0, Nat.zero_le _, rfl, HO.out, HB.out, HB.out.size⟩
      case round =>
        obtain ⟨k, hk, rfl, hown, hb, hbs⟩ := hrel
        have hs := sumV_le vss k hk
        generalize hys : catV vss k = ys at hown
        have HYS := Lib.hid hys
        have HOW := Lib.hid hown
        have HBB := Lib.hid hb
        clear hown hys hb
        by_cases hlt : k < vss.length
        · obtain ⟨xs, hxk⟩ := get_some hlt
          obtain ⟨b, o, b', o', c', rfl, hbl, hcell0, hcl, hcs⟩ := HX.out k xs hxk
          have hcell : wr.cell? ⟨b, o + k, none⟩ = some (.slice (some ⟨b', o', none⟩) xs.length c') := (HBB.out.cell (p := ⟨b, o + k, none⟩) hbl).trans hcell0
          have hn := sumV_next hxk
          have hs2 := sumV_le vss (k + 1) hlt
          have hxl : sumV vss k + xs.length ≤ 1048576 := by omega
          have hxl2 : sumV vss k + xs.length ≤ 1000 := by omega
          have HCAT := Lib.hid (catV_next hxk)
          have HN := Lib.hid hn
          have HONX := Lib.hid (HONE.out k xs hxk)
          have HC := Lib.hid (cells_any (w' := wr) (vs := xs) (b := b') (o := o') (fun i x hx => by obtain ⟨hl, hc⟩ := hcs i x hx; exact (HBB.out.cell (p := ⟨b', o' + i, none⟩) hl).trans hc))
          clear hcell0 hxk hn hs2 hcs
          generalize sumV vss k = s at *
          go_wp2_with (at_builtin; refine wpList_append_own _ rfl _ _ 24 rfl w.heap.size 43 i0 (.slice none 0 0) 1 24 Try.underlying24 hi hz0 hz1 hz2 rfl (by decide) _ _ _ rfl HOW.out ⟨b', o', none⟩ xs.length c' xs rfl ?c1 HC.out ?c2 ?c3 ?c4 ?c5 ?_)
          case c1 => simp
          case c2 => exact HONX.out
          case c3 => unfold maxLen; omega
          case c4 => omega
          case c5 => exact hbs
          intro v' w9 hown' hgrow _
          have hbg := below_grown hgrow (fun b hb => (row_block HOW.out b hb).1) hbs
          have HB2 := Lib.hid (HBB.out.trans hbg)
          have HS2 := Lib.hid (Nat.le_trans hbs hbg.size)
          have HOW' := Lib.hid hown'
          clear hgrow hown' hbg
          go_wp2_with fail
          go_roundw
          case rel =>
            refine ⟨k + 1, hlt, by go_num, ?_, HB2.out, HS2.out⟩
            rw [HN.out, HCAT.out, HYS.out]
            exact HOW'.out
          case measure => simp [intOf] <;> omega
        · have hE : k = vss.length := by omega
          subst hE
          go_wp2_with fail
          go_ret
          exact ⟨_, rfl, by rw [HYS.out]; exact HOW.out, HBB.out⟩
end Go.Proofs.Ytefjignlhlpndaa
