/-
  What is proved: the contracts of MirrorWalker of the model and of the program, and of slices.Clone. Conditions: slices that read as lists.
-/
import Derived.Test.YtcpembfioelnlaaMef
import Derived.Test.YtcpembfioelnlaaFn4
import Derived.Test.YtcpembfioelnlaaFn18
import Derived.Lib.SliceRun
import Derived.IntWalk
import Derived.Deep.CutRange
import Derived.Deep.RegionHeld3
namespace Go.Proofs.Ytcpembfioelnlaa
open Go.RowKit
set_option linter.unusedVariables false
set_option linter.unusedSimpArgs false

set_option maxHeartbeats 800000 in
set_option maxRecDepth 20000 in
theorem clone_any (v : Value) (xs : List Int) (w : World) (hv : ReadsI w v xs) (hl : 1 ≤ xs.length) (hl2 : xs.length ≤ 1048576) :
    Calls Try.prog 41 #[v] w (OwnsI w.heap.size xs w) := by
  obtain ⟨i0, hi, hz0, hz1, hz2⟩ := info_parts infoInt
  obtain ⟨y, c, rfl, hc, hm, hx⟩ := hv
  unfold maxLen at hm
  obtain ⟨x0, hx0⟩ := get_some (xs := xs) (k := 0) hl
  obtain ⟨b, o, rfl, hbl, _⟩ := hx 0 x0 hx0
  have hcells : ∀ j u, (xs.map iv)[j]? = some u → (w.alloc (.cells #[] 3)).cell? ((⟨b, o, none⟩ : Addr).add j) = some u := by
    intro j u hj
    rw [List.getElem?_map] at hj
    cases hxj : xs[j]? with
    | none => rw [hxj] at hj; cases hj
    | some x =>
      rw [hxj] at hj
      cases hj
      obtain ⟨b', o', e, _, hcell⟩ := hx j x hxj
      cases e
      have ha : (⟨b, o, none⟩ : Addr).add j = ⟨b, o + j, none⟩ := by
        unfold Addr.add
        by_cases h : j = 0 <;> simp [h]
      rw [ha]
      exact ((below_new w _).cell (p := ⟨b, o + j, none⟩) hbl).trans hcell
  have HC := Lib.hid hcells
  have q22 : ∀ (w : World) (a : Option Addr) (n c n' c' : Nat), (binOp .eql 24 (.slice a n c) (.slice none n' c')).run Try.prog w = .ok (.bool a.isNone) w := fun w a n c n' c' => Lib.run_eql_slice_nil w _ _ a n c n' c' Try.underlying24
  have hown0 := made_at w w.heap.size w.heap.size rfl (Nat.le_refl _)
  have HOW := Lib.hid hown0
  clear hx hcells hown0 hx0
  go_enter Try.func41, Try.ntmps41
  go_wp2_with (at_builtin; refine wpList_append_own _ rfl _ _ 24 rfl w.heap.size 3 i0 (.int .i64 0) 1 8 Try.underlying24 hi hz0 hz1 hz2 rfl (by decide) _ _ _ rfl HOW.out ⟨b, o, none⟩ xs.length c (xs.map iv) rfl ?c1 HC.out ?c2 ?c3 ?c4 ?c5 ?_)
  case c1 => simp
  case c2 => intro u hu; simp at hu; obtain ⟨z, _, rfl⟩ := hu; rfl
  case c3 => unfold maxLen; omega
  case c4 => omega
  case c5 => simp
  intro v' w9 hown' hgrow _
  have HB := Lib.hid ((Below.refl w.heap.size w).alloc (Nat.le_refl _) (.cells #[] 3) |>.trans (below_grown hgrow (fun b hb => (owns_block HOW.out b hb).1) (by simp)))
  have HOW' := Lib.hid hown'
  clear hgrow hown'
  go_wp2_with fail
  go_ret
  exact ⟨_, rfl, by simpa using HOW'.out, HB.out⟩
/-- the walker turned around -/
def mirW (n : Int) (k : Wk) : Wk := ⟨n - 1 - k.s, -k.f, k.d, k.ms⟩
/-- what MirrorWalker answers -/
def mirwR (n : Int) (g : Bool) (k : Wk) : Wk × Bool := if wkB n g k = true then (mirW n k, true) else (⟨0, 0, 0, []⟩, false)
theorem mirwR_yes {n : Int} {g : Bool} {k : Wk} (h : wkB n g k = true) : mirwR n g k = (mirW n k, true) := if_pos h
theorem mirwR_no {n : Int} {g : Bool} {k : Wk} (h : wkB n g k = false) : mirwR n g k = (⟨0, 0, 0, []⟩, false) := if_neg (by rw [h]; decide)
theorem mirwR_len (n : Int) (g : Bool) (k : Wk) (h : k.ms.length ≤ 1048576) : (mirwR n g k).1.ms.length ≤ 1048576 := by
  cases hw : wkB n g k
  · rw [mirwR_no hw]; exact Nat.zero_le _
  · rw [mirwR_yes hw]; exact h
theorem blk_set4 {W : World} {b : Nat} {x0 x1 x2 x3 : Value} {t : TypeId} (h : Blk W b #[x0, x1, x2, x3] t) (v0 v1 v2 v3 : Value) :
    Blk ((((W.setCell ⟨b, 0, none⟩ v0).setCell ⟨b, 1, none⟩ v1).setCell ⟨b, 2, none⟩ v2).setCell ⟨b, 3, none⟩ v3) b #[v0, v1, v2, v3] t :=
  heap_setCell_same _ b 3 _ t v3 (heap_setCell_same _ b 2 _ t v2 (heap_setCell_same _ b 1 _ t v1 (heap_setCell_same W b 0 _ t v0 h)))
theorem below_set4 (W : World) (b m : Nat) (h : m ≤ b) (v0 v1 v2 v3 : Value) : Below m W ((((W.setCell ⟨b, 0, none⟩ v0).setCell ⟨b, 1, none⟩ v1).setCell ⟨b, 2, none⟩ v2).setCell ⟨b, 3, none⟩ v3) :=
  ((((Below.refl m W).setCell (p := ⟨b, 0, none⟩) h _).setCell (p := ⟨b, 1, none⟩) h _).setCell (p := ⟨b, 2, none⟩) h _).setCell (p := ⟨b, 3, none⟩) h _
/-- the two boxes, and the cells of the answer -/
abbrev KeepM (base : Nat) (n : Int) (g : Bool) (k : Wk) (m : Value) (cs : Array Value) (w w1 : World) : Prop := KeepW base n g k m w w1 ∧ Blk w1 (base + 2) cs 32
theorem keepM {base : Nat} {n : Int} {g : Bool} {k : Wk} {m : Value} {cs : Array Value} {w w1 w2 : World} (h : KeepM base n g k m cs w w1) (hb : Below w1.heap.size w1 w2) : KeepM base n g k m cs w w2 := ⟨keepW h.1 hb, h.2.below hb⟩
theorem keepM_first (w : World) (n : Int) (g : Bool) (k : Wk) (m : Value) (cs : Array Value) : KeepM w.heap.size n g k m cs w (((w.alloc (.cells #[.int .i64 n, .bool g] 30)).alloc (.cells #[.int .i64 k.s, .int .i64 k.f, .int .i64 k.d, m] 32)).alloc (.cells cs 32)) :=
  ⟨keepW (keepW_first w n g k m) (below_new _ _), blk_at _ _ _ _ (by simp)⟩
theorem keepM_set {base : Nat} {n : Int} {g : Bool} {k : Wk} {m : Value} {x0 x1 x2 x3 : Value} {w W : World} (h : KeepM base n g k m #[x0, x1, x2, x3] w W) (v0 v1 v2 v3 : Value) :
    KeepM base n g k m #[v0, v1, v2, v3] w ((((W.setCell ⟨base + 2, 0, none⟩ v0).setCell ⟨base + 2, 1, none⟩ v1).setCell ⟨base + 2, 2, none⟩ v2).setCell ⟨base + 2, 3, none⟩ v3) :=
  ⟨keepW_mk (h.1.1.nextAt (m := base + 2) (by omega) (below_set4 W (base + 2) (base + 2) (Nat.le_refl _) v0 v1 v2 v3)) (h.1.2.2.2.1.belowAt (m := base + 2) (by omega) (below_set4 W (base + 2) (base + 2) (Nat.le_refl _) v0 v1 v2 v3)), blk_set4 h.2 v0 v1 v2 v3⟩
theorem own_set4 {b m : Nat} {v : Value} {xs : List Value} {W : World} (h : W.ownsRow (b + 1) 3 1 v m xs) (v0 v1 v2 v3 : Value) :
    ((((W.setCell ⟨b, 0, none⟩ v0).setCell ⟨b, 1, none⟩ v1).setCell ⟨b, 2, none⟩ v2).setCell ⟨b, 3, none⟩ v3).ownsRow (b + 1) 3 1 v m xs :=
  ownsRow_setCell_below (ownsRow_setCell_below (ownsRow_setCell_below (ownsRow_setCell_below h (Nat.lt_succ_self b) _) (Nat.lt_succ_self b) _) (Nat.lt_succ_self b) _) (Nat.lt_succ_self b) _
set_option maxHeartbeats 1600000 in
set_option maxRecDepth 20000 in
theorem spec_MirrorWalker (n : Int) (g : Bool) (k : Wk) (m : Value) (w : World) (hv : ReadsI w m k.ms) :
    Calls Try.prog 21 #[rd n g, wkv k m] w (OwnsWB w.heap.size (mirwR n g k).1 (mirwR n g k).2 w) := by
  have HW := Lib.hid (fun w hv => l4Walker_any n g k m w hv)
  have HK := Lib.hid (keepM_first w n g k m #[.int .i64 0, .int .i64 0, .int .i64 0, .slice none 0 0])
  have HO := Lib.hid (fun w hv h1 h2 => own_any m k.ms w hv h1 h2)
  have HV := Lib.hid hv
  obtain ⟨ma, mc, rfl, _⟩ := hv
  generalize hml : k.ms.length = ml at *
  have HML := Lib.hid hml
  clear hml
  unfold wkv rd at *
  go_enter Try.func21, Try.ntmps21
  go_wp2_with fail
  refine (HW.out _ (HV.out.below HK.out.1.1.below)).mono ?_
  rintro e w2 ⟨rfl, hb⟩
  have HK := Lib.hid (keepM HK.out hb)
  clear hb
  cases hr : wkB n g k
  · skip
    have HY := Lib.hid hr
    clear hr
    have a0 := HK.out.2.cell 0
    have a1 := HK.out.2.cell 1
    have a2 := HK.out.2.cell 2
    have a3 := HK.out.2.cell 3
    have b0 := HK.out.2.free 0
    have b1 := HK.out.2.free 1
    have b2 := HK.out.2.free 2
    have b3 := HK.out.2.free 3
    have hB4 := (keepM_set HK.out (.int .i64 0) (.int .i64 0) (.int .i64 0) (.slice none 0 0)).1.1.below
    have HB4 := Lib.hid hB4
    clear hB4
    go_wp2_with fail
    refine bodyPost_ret (v := .tuple #[.agg #[.int .i64 0, .int .i64 0, .int .i64 0, .slice none 0 0], .bool false]) (by simp [results, Try.results21, go_sem, a0, a1, a2, a3]) rfl ?_
    rw [mirwR_no HY.out]
    exact ⟨.slice none 0 0, rfl, ⟨rfl, .inl ⟨rfl, rfl⟩⟩, HB4.out⟩
  · skip
    have hok := (wkB_iff n g k).1 hr
    have HY := Lib.hid hr
    have hn2 := hok.n2
    have hn24 := hok.n24
    have hs0 := hok.s0
    have hsn := hok.sn
    have HL1 := Lib.hid (show 1 ≤ ml by have := hok.l1; rw [HML.out] at this; exact this)
    have HL24 := Lib.hid (show ml ≤ 1048576 by have := hok.l24; rw [HML.out] at this; omega)
    have HHN := Lib.hid (show 0 ≤ n ∧ n ≤ 24 by omega)
    have HHS := Lib.hid (show 0 ≤ k.s ∧ k.s < n by omega)
    have hw1 : IntKind.i64.wrap (n - 1) = n - 1 := IntWalk.i64_in _ (by omega)
    have hw2 : IntKind.i64.wrap (n - 1 - k.s) = n - 1 - k.s := IntWalk.i64_in _ (by omega)
    have hw3 : IntKind.i64.wrap (-k.f) = -k.f := by rcases hok.fac with h | h <;> rw [h] <;> exact IntWalk.i64_in _ (by omega)
    clear hok hr hn2 hn24 hs0 hsn
    have c0 := HK.out.1.2.1
    have c1 := HK.out.1.2.2.1
    have d0 := HK.out.1.2.2.2.2.1
    have d1 := HK.out.1.2.2.2.2.2.1
    have d2 := HK.out.1.2.2.2.2.2.2.1
    have d3 := HK.out.1.2.2.2.2.2.2.2
    go_wp2_with fail
    have HK := Lib.hid (keepM HK.out (below_drewN _ 1))
    refine wp_region_noPanic ?_
    refine wp_region_held_drew (S := fun w' => w'.cell? ⟨w.heap.size, 0, none⟩ = some (.int .i64 n) ∧ w'.cell? ⟨w.heap.size, 1, none⟩ = some (.bool g) ∧ w'.cell? ⟨w.heap.size + 1, 0, none⟩ = some (.int .i64 k.s) ∧ w'.cell? ⟨w.heap.size + 1, 1, none⟩ = some (.int .i64 k.f) ∧ w'.cell? ⟨w.heap.size + 1, 2, none⟩ = some (.int .i64 k.d) ∧ w'.cell? ⟨w.heap.size + 1, 3, none⟩ = some (.slice ma ml mc)) (by kernel_rfl) (⟨(HK.out).1.2.1, (HK.out).1.2.2.1, (HK.out).1.2.2.2.2.1, (HK.out).1.2.2.2.2.2.1, (HK.out).1.2.2.2.2.2.2.1, (HK.out).1.2.2.2.2.2.2.2⟩) (fun hHeld => ?_)
    refine wpAnyH_take (i := 0) (oi := _) (v := ?_) rfl (by kernel_rfl) (by kernel_rfl) (by kernel_rfl) (fun _ _ _ h => h) (Or.inl ⟨by rfl, ?_⟩) (by assumption) ?_
    rotate_left
    · (intro w hSw; (try dsimp only at hSw); (first | (go_simp; done) | (go_simp; with_reducible rfl)))
    simp only [Act.put, List.getElem_toArray, List.getElem_cons_succ, List.getElem_cons_zero, List.setIfInBounds_toArray, List.set_cons_zero, List.set_cons_succ]
    refine wpAnyH_take (i := 1) (oi := _) (v := ?_) rfl (by kernel_rfl) (by kernel_rfl) (by kernel_rfl) (fun _ _ _ h => h) (Or.inl ⟨by rfl, ?_⟩) (by assumption) ?_
    rotate_left
    · (intro w hSw; (try dsimp only at hSw); (first | (go_simp; done) | (go_simp; with_reducible rfl)))
    simp only [Act.put, List.getElem_toArray, List.getElem_cons_succ, List.getElem_cons_zero, List.setIfInBounds_toArray, List.set_cons_zero, List.set_cons_succ]
    refine wpAnyH_take (i := 2) (oi := _) (v := ?_) rfl (by kernel_rfl) (by kernel_rfl) (by kernel_rfl) (fun _ _ _ h => h) (Or.inl ⟨by rfl, ?_⟩) (by assumption) ?_
    rotate_left
    · (intro w hSw; (try dsimp only at hSw); (first | (go_simp; done) | (go_simp; with_reducible rfl)))
    simp only [Act.put, List.getElem_toArray, List.getElem_cons_succ, List.getElem_cons_zero, List.setIfInBounds_toArray, List.set_cons_zero, List.set_cons_succ]
    refine wpAnyH_take (i := 3) (oi := _) (v := ?_) rfl (by kernel_rfl) (by kernel_rfl) (by kernel_rfl) (fun _ _ _ h => h) (Or.inl ⟨by rfl, ?_⟩) (by assumption) ?_
    rotate_left
    · (intro w hSw; (try dsimp only at hSw); (first | (go_simp; done) | (go_simp; with_reducible rfl)))
    simp only [Act.put, List.getElem_toArray, List.getElem_cons_succ, List.getElem_cons_zero, List.setIfInBounds_toArray, List.set_cons_zero, List.set_cons_succ]
    refine wpAnyH_take (i := 4) (oi := _) (v := ?_) rfl (by kernel_rfl) (by kernel_rfl) (by kernel_rfl) (fun _ _ _ h => h) (Or.inl ⟨by rfl, ?_⟩) (by assumption) ?_
    rotate_left
    · (intro w hSw; (try dsimp only at hSw); (first | (go_simp; done) | (go_simp; with_reducible rfl)))
    simp only [Act.put, List.getElem_toArray, List.getElem_cons_succ, List.getElem_cons_zero, List.setIfInBounds_toArray, List.set_cons_zero, List.set_cons_succ]
    refine wpAnyH_take (i := 5) (oi := _) (v := ?_) rfl (by kernel_rfl) (by kernel_rfl) (by kernel_rfl) (fun _ _ _ h => h) (Or.inl ⟨by rfl, ?_⟩) (by assumption) ?_
    rotate_left
    · (intro w hSw; (try dsimp only at hSw); (first | (go_simp; done) | (go_simp; with_reducible rfl)))
    simp only [Act.put, List.getElem_toArray, List.getElem_cons_succ, List.getElem_cons_zero, List.setIfInBounds_toArray, List.set_cons_zero, List.set_cons_succ]
    refine wpAnyH_take (i := 6) (oi := _) (v := ?_) rfl (by kernel_rfl) (by kernel_rfl) (by kernel_rfl) (fun _ _ _ h => h) (Or.inl ⟨by rfl, ?_⟩) (by assumption) ?_
    rotate_left
    · (intro w hSw; (try dsimp only at hSw); (first | (go_simp; done) | (go_simp; with_reducible rfl)))
    simp only [Act.put, List.getElem_toArray, List.getElem_cons_succ, List.getElem_cons_zero, List.setIfInBounds_toArray, List.set_cons_zero, List.set_cons_succ]
    refine wpAnyH_take (i := 7) (oi := _) (v := ?_) rfl (by kernel_rfl) (by kernel_rfl) (by kernel_rfl) (fun _ _ _ h => h) (Or.inl ⟨by rfl, ?_⟩) (by assumption) ?_
    rotate_left
    · (intro w hSw; (try dsimp only at hSw); (first | (go_simp; done) | (go_simp; with_reducible rfl)))
    simp only [Act.put, List.getElem_toArray, List.getElem_cons_succ, List.getElem_cons_zero, List.setIfInBounds_toArray, List.set_cons_zero, List.set_cons_succ]
    refine wpAnyH_take (i := 8) (oi := _) (v := ?_) rfl (by kernel_rfl) (by kernel_rfl) (by kernel_rfl) (fun _ _ _ h => h) (Or.inl ⟨by rfl, ?_⟩) (by assumption) ?_
    rotate_left
    · (intro w hSw; (try dsimp only at hSw); (first | (go_simp; done) | (go_simp; with_reducible rfl)))
    simp only [Act.put, List.getElem_toArray, List.getElem_cons_succ, List.getElem_cons_zero, List.setIfInBounds_toArray, List.set_cons_zero, List.set_cons_succ]
    refine wpAnyH_take (i := 9) (oi := _) (v := ?_) rfl (by kernel_rfl) (by kernel_rfl) (by kernel_rfl) (fun _ _ _ h => h) (Or.inl ⟨by rfl, ?_⟩) (by assumption) ?_
    rotate_left
    · (intro w hSw; (try dsimp only at hSw); (first | (go_simp; done) | (go_simp; with_reducible rfl)))
    simp only [Act.put, List.getElem_toArray, List.getElem_cons_succ, List.getElem_cons_zero, List.setIfInBounds_toArray, List.set_cons_zero, List.set_cons_succ]
    refine wpAnyH_take (i := 10) (oi := _) (v := ?_) rfl (by kernel_rfl) (by kernel_rfl) (by kernel_rfl) (fun _ _ _ h => h) (Or.inl ⟨by rfl, ?_⟩) (by assumption) ?_
    rotate_left
    · (intro w hSw; (try dsimp only at hSw); (first | (go_simp; done) | (go_simp; with_reducible rfl)))
    simp only [Act.put, List.getElem_toArray, List.getElem_cons_succ, List.getElem_cons_zero, List.setIfInBounds_toArray, List.set_cons_zero, List.set_cons_succ]
    refine wpAnyH_take (i := 11) (oi := _) (v := ?_) rfl (by kernel_rfl) (by kernel_rfl) (by kernel_rfl) (fun _ _ _ h => h) (Or.inl ⟨by rfl, ?_⟩) (by assumption) ?_
    rotate_left
    · (intro w hSw; (try dsimp only at hSw); (first | (go_simp; done) | (go_simp; with_reducible rfl)))
    simp only [Act.put, List.getElem_toArray, List.getElem_cons_succ, List.getElem_cons_zero, List.setIfInBounds_toArray, List.set_cons_zero, List.set_cons_succ]
    refine wpAnyH_take (i := 12) (oi := _) (v := ?_) rfl (by kernel_rfl) (by kernel_rfl) (by kernel_rfl) (fun _ _ _ h => h) (Or.inl ⟨by rfl, ?_⟩) (by assumption) ?_
    rotate_left
    · (intro w hSw; (try dsimp only at hSw); (first | (go_simp; done) | (go_simp; with_reducible rfl)))
    simp only [Act.put, List.getElem_toArray, List.getElem_cons_succ, List.getElem_cons_zero, List.setIfInBounds_toArray, List.set_cons_zero, List.set_cons_succ]
    refine wpAnyH_ready (rs := [13]) (by kernel_rfl) (by simp) ?_
    refine AllReadyH.cons rfl (fun K hK => ?_) AllReadyH.nil
    go_simp
    refine (HO.out _ (HV.out.below HK.out.1.1.below) HL1.out HL24.out).mono ?_
    rintro e w3 ⟨v, rfl, ho, hb⟩
    obtain ⟨va, vc, hvs, _⟩ := owns_shape ho
    rw [HML.out] at hvs ho
    subst hvs
    have HOW := Lib.hid (owns_lower (base' := w.heap.size + 2 + 1) ho (Nat.succ_le_of_lt HK.out.2.lt))
    have HK := Lib.hid (keepM HK.out hb)
    clear ho hb hHeld
    go_wp2_with fail
    refine hK.out _ _ (⟨(HK.out).1.2.1, (HK.out).1.2.2.1, (HK.out).1.2.2.2.2.1, (HK.out).1.2.2.2.2.2.1, (HK.out).1.2.2.2.2.2.2.1, (HK.out).1.2.2.2.2.2.2.2⟩) (fun hHeld => ?_)
    clear hK K
    refine wpAnyH_take (i := 14) (oi := _) (v := ?_) rfl (by kernel_rfl) (by kernel_rfl) (by kernel_rfl) (fun _ _ _ h => h) (Or.inl ⟨by rfl, ?_⟩) (by assumption) ?_
    rotate_left
    · (intro w hSw; (try dsimp only at hSw); (first | (go_simp; done) | (go_simp; with_reducible rfl)))
    simp only [Act.put, List.getElem_toArray, List.getElem_cons_succ, List.getElem_cons_zero, List.setIfInBounds_toArray, List.set_cons_zero, List.set_cons_succ]
    refine wpAnyH_ready (rs := [15]) (by kernel_rfl) (by simp) ?_
    refine AllReadyH.cons rfl (fun K hK => ?_) AllReadyH.nil
    go_simp
    have a0 := HK.out.2.cell 0
    have a1 := HK.out.2.cell 1
    have a2 := HK.out.2.cell 2
    have a3 := HK.out.2.cell 3
    have b0 := HK.out.2.free 0
    have b1 := HK.out.2.free 1
    have b2 := HK.out.2.free 2
    have b3 := HK.out.2.free 3
    have hB4 := keepM_set HK.out (.int .i64 (n - 1 - k.s)) (.int .i64 (-k.f)) (.int .i64 k.d) (.slice va ml vc)
    have HO4 := Lib.hid (own_set4 HOW.out (.int .i64 (n - 1 - k.s)) (.int .i64 (-k.f)) (.int .i64 k.d) (.slice va ml vc))
    have HK4 := Lib.hid hB4
    clear hHeld hB4
    go_simp
    refine hK.out _ _ (⟨(HK4.out).1.2.1, (HK4.out).1.2.2.1, (HK4.out).1.2.2.2.2.1, (HK4.out).1.2.2.2.2.2.1, (HK4.out).1.2.2.2.2.2.2.1, (HK4.out).1.2.2.2.2.2.2.2⟩) (fun hHeld => ?_)
    clear hK K
    generalize (((w3.setCell ⟨w.heap.size + 2, 0, none⟩ (.int .i64 (n - 1 - k.s))).setCell ⟨w.heap.size + 2, 1, none⟩ (.int .i64 (-k.f))).setCell ⟨w.heap.size + 2, 2, none⟩ (.int .i64 k.d)).setCell ⟨w.heap.size + 2, 3, none⟩ (.slice va ml vc) = w9 at *
    refine wpAnyH_take (i := 16) (oi := _) (v := ?_) rfl (by kernel_rfl) (by kernel_rfl) (by kernel_rfl) (fun _ _ _ h => h) (Or.inl ⟨by rfl, ?_⟩) (by assumption) ?_
    rotate_left
    · (intro w hSw; (try dsimp only at hSw); (first | (go_simp; done) | (go_simp; with_reducible rfl)))
    simp only [Act.put, List.getElem_toArray, List.getElem_cons_succ, List.getElem_cons_zero, List.setIfInBounds_toArray, List.set_cons_zero, List.set_cons_succ]
    refine wpAnyH_done (by kernel_rfl) ?_ _
    refine NoPanic.normal ?_
    clear hHeld a0 a1 a2 a3 b0 b1 b2 b3
    have a0 := HK4.out.2.cell 0
    have a1 := HK4.out.2.cell 1
    have a2 := HK4.out.2.cell 2
    have a3 := HK4.out.2.cell 3
    go_wp2_with fail
    refine bodyPost_ret (v := .tuple #[.agg #[.int .i64 (n - 1 - k.s), .int .i64 (-k.f), .int .i64 k.d, .slice va ml vc], .bool true]) (by simp [results, Try.results21, go_sem, a0, a1, a2, a3]) rfl ?_
    rw [mirwR_yes HY.out]
    refine ⟨.slice va ml vc, rfl, ?_, HK4.out.1.1.below⟩
    rw [show (mirW n k).ms = k.ms from rfl, HML.out]
    exact owns_lower HO4.out (by omega)
set_option maxHeartbeats 1600000 in
set_option maxRecDepth 20000 in
theorem impl_MirrorWalker (n : Int) (g : Bool) (k : Wk) (m : Value) (w : World) (hv : ReadsI w m k.ms) :
    Calls Try.prog 22 #[rd n g, wkv k m] w (OwnsWB w.heap.size (mirwR n g k).1 (mirwR n g k).2 w) := by
  have HW := Lib.hid (fun v w hv => areWalkers_one n g v k w hv)
  have HK := Lib.hid (keepM_first w n g k m #[.int .i64 0, .int .i64 0, .int .i64 0, .slice none 0 0])
  have HO := Lib.hid (fun w hv h1 h2 => clone_any m k.ms w hv h1 h2)
  have HMI := Lib.hid (fun w h1 h2 => mirrored_any n g k.s w h1 h2)
  have HV := Lib.hid hv
  obtain ⟨ma, mc, rfl, _⟩ := hv
  generalize hml : k.ms.length = ml at *
  have HML := Lib.hid hml
  clear hml
  unfold wkv rd at *
  go_enter Try.func22, Try.ntmps22
  go_upto_region 1 with (fail)
  generalize ((w.alloc (.cells #[.int .i64 n, .bool g] 30)).alloc (.cells #[.int .i64 k.s, .int .i64 k.f, .int .i64 k.d, .slice ma ml mc] 32)).alloc (.cells #[.int .i64 0, .int .i64 0, .int .i64 0, .slice none 0 0] 32) = w1 at *
  have c0 := HK.out.1.2.1
  have c1 := HK.out.1.2.2.1
  have d0 := HK.out.1.2.2.2.2.1
  have d1 := HK.out.1.2.2.2.2.2.1
  have d2 := HK.out.1.2.2.2.2.2.2.1
  have d3 := HK.out.1.2.2.2.2.2.2.2
  go_wp2_with fail
  refine (HW.out _ _ (walkers_one (HV.out.below HK.out.1.1.below) _ rfl)).mono ?_
  clear c0 c1 d0 d1 d2 d3
  rintro e w2 ⟨rfl, hb⟩
  have HK := Lib.hid (keepM (keepM HK.out (below_new _ _)) hb)
  clear hb
  cases hr : wkB n g k
  · skip
    have HY := Lib.hid hr
    clear hr
    have a0 := HK.out.2.cell 0
    have a1 := HK.out.2.cell 1
    have a2 := HK.out.2.cell 2
    have a3 := HK.out.2.cell 3
    have b0 := HK.out.2.free 0
    have b1 := HK.out.2.free 1
    have b2 := HK.out.2.free 2
    have b3 := HK.out.2.free 3
    have hB4 := (keepM_set HK.out (.int .i64 0) (.int .i64 0) (.int .i64 0) (.slice none 0 0)).1.1.below
    have HB4 := Lib.hid hB4
    clear hB4
    go_wp2_with fail
    refine bodyPost_ret (v := .tuple #[.agg #[.int .i64 0, .int .i64 0, .int .i64 0, .slice none 0 0], .bool false]) (by simp [results, Try.results22, go_sem, a0, a1, a2, a3]) rfl ?_
    rw [mirwR_no HY.out]
    exact ⟨.slice none 0 0, rfl, ⟨rfl, .inl ⟨rfl, rfl⟩⟩, HB4.out⟩
  · skip
    have hok := (wkB_iff n g k).1 hr
    have HY := Lib.hid hr
    have hn2 := hok.n2
    have hn24 := hok.n24
    have hs0 := hok.s0
    have hsn := hok.sn
    have HL1 := Lib.hid (show 1 ≤ ml by have := hok.l1; rw [HML.out] at this; exact this)
    have HL24 := Lib.hid (show ml ≤ 1048576 by have := hok.l24; rw [HML.out] at this; omega)
    have HHN := Lib.hid (show 0 ≤ n ∧ n ≤ 24 by omega)
    have HHS := Lib.hid (show 0 ≤ k.s ∧ k.s < n by omega)
    have hw1 : IntKind.i64.wrap (n - 1) = n - 1 := IntWalk.i64_in _ (by omega)
    have hw2 : IntKind.i64.wrap (n - 1 - k.s) = n - 1 - k.s := IntWalk.i64_in _ (by omega)
    have hw3 : IntKind.i64.wrap (-k.f) = -k.f := by rcases hok.fac with h | h <;> rw [h] <;> exact IntWalk.i64_in _ (by omega)
    clear hok hr hn2 hn24 hs0 hsn
    have c0 := HK.out.1.2.1
    have c1 := HK.out.1.2.2.1
    have d0 := HK.out.1.2.2.2.2.1
    have d1 := HK.out.1.2.2.2.2.2.1
    have d2 := HK.out.1.2.2.2.2.2.2.1
    have d3 := HK.out.1.2.2.2.2.2.2.2
    go_wp2_with fail
    have HK := Lib.hid (keepM HK.out (below_drewN _ 1))
    refine wp_region_noPanic ?_
    refine wp_region_held_drew (S := fun w' => w'.cell? ⟨w.heap.size, 0, none⟩ = some (.int .i64 n) ∧ w'.cell? ⟨w.heap.size, 1, none⟩ = some (.bool g) ∧ w'.cell? ⟨w.heap.size + 1, 0, none⟩ = some (.int .i64 k.s) ∧ w'.cell? ⟨w.heap.size + 1, 1, none⟩ = some (.int .i64 k.f) ∧ w'.cell? ⟨w.heap.size + 1, 2, none⟩ = some (.int .i64 k.d) ∧ w'.cell? ⟨w.heap.size + 1, 3, none⟩ = some (.slice ma ml mc)) (by kernel_rfl) (⟨(HK.out).1.2.1, (HK.out).1.2.2.1, (HK.out).1.2.2.2.2.1, (HK.out).1.2.2.2.2.2.1, (HK.out).1.2.2.2.2.2.2.1, (HK.out).1.2.2.2.2.2.2.2⟩) (fun hHeld => ?_)
    refine wpAnyH_take (i := 0) (oi := _) (v := ?_) rfl (by kernel_rfl) (by kernel_rfl) (by kernel_rfl) (fun _ _ _ h => h) (Or.inl ⟨by rfl, ?_⟩) (by assumption) ?_
    rotate_left
    · (intro w hSw; (try dsimp only at hSw); (first | (go_simp; done) | (go_simp; with_reducible rfl)))
    simp only [Act.put, List.getElem_toArray, List.getElem_cons_succ, List.getElem_cons_zero, List.setIfInBounds_toArray, List.set_cons_zero, List.set_cons_succ]
    refine wpAnyH_take (i := 1) (oi := _) (v := ?_) rfl (by kernel_rfl) (by kernel_rfl) (by kernel_rfl) (fun _ _ _ h => h) (Or.inl ⟨by rfl, ?_⟩) (by assumption) ?_
    rotate_left
    · (intro w hSw; (try dsimp only at hSw); (first | (go_simp; done) | (go_simp; with_reducible rfl)))
    simp only [Act.put, List.getElem_toArray, List.getElem_cons_succ, List.getElem_cons_zero, List.setIfInBounds_toArray, List.set_cons_zero, List.set_cons_succ]
    refine wpAnyH_take (i := 2) (oi := _) (v := ?_) rfl (by kernel_rfl) (by kernel_rfl) (by kernel_rfl) (fun _ _ _ h => h) (Or.inl ⟨by rfl, ?_⟩) (by assumption) ?_
    rotate_left
    · (intro w hSw; (try dsimp only at hSw); (first | (go_simp; done) | (go_simp; with_reducible rfl)))
    simp only [Act.put, List.getElem_toArray, List.getElem_cons_succ, List.getElem_cons_zero, List.setIfInBounds_toArray, List.set_cons_zero, List.set_cons_succ]
    refine wpAnyH_take (i := 4) (oi := _) (v := ?_) rfl (by kernel_rfl) (by kernel_rfl) (by kernel_rfl) (fun _ _ _ h => h) (Or.inl ⟨by rfl, ?_⟩) (by assumption) ?_
    rotate_left
    · (intro w hSw; (try dsimp only at hSw); (first | (go_simp; done) | (go_simp; with_reducible rfl)))
    simp only [Act.put, List.getElem_toArray, List.getElem_cons_succ, List.getElem_cons_zero, List.setIfInBounds_toArray, List.set_cons_zero, List.set_cons_succ]
    refine wpAnyH_take (i := 5) (oi := _) (v := ?_) rfl (by kernel_rfl) (by kernel_rfl) (by kernel_rfl) (fun _ _ _ h => h) (Or.inl ⟨by rfl, ?_⟩) (by assumption) ?_
    rotate_left
    · (intro w hSw; (try dsimp only at hSw); (first | (go_simp; done) | (go_simp; with_reducible rfl)))
    simp only [Act.put, List.getElem_toArray, List.getElem_cons_succ, List.getElem_cons_zero, List.setIfInBounds_toArray, List.set_cons_zero, List.set_cons_succ]
    refine wpAnyH_take (i := 6) (oi := _) (v := ?_) rfl (by kernel_rfl) (by kernel_rfl) (by kernel_rfl) (fun _ _ _ h => h) (Or.inl ⟨by rfl, ?_⟩) (by assumption) ?_
    rotate_left
    · (intro w hSw; (try dsimp only at hSw); (first | (go_simp; done) | (go_simp; with_reducible rfl)))
    simp only [Act.put, List.getElem_toArray, List.getElem_cons_succ, List.getElem_cons_zero, List.setIfInBounds_toArray, List.set_cons_zero, List.set_cons_succ]
    refine wpAnyH_take (i := 7) (oi := _) (v := ?_) rfl (by kernel_rfl) (by kernel_rfl) (by kernel_rfl) (fun _ _ _ h => h) (Or.inl ⟨by rfl, ?_⟩) (by assumption) ?_
    rotate_left
    · (intro w hSw; (try dsimp only at hSw); (first | (go_simp; done) | (go_simp; with_reducible rfl)))
    simp only [Act.put, List.getElem_toArray, List.getElem_cons_succ, List.getElem_cons_zero, List.setIfInBounds_toArray, List.set_cons_zero, List.set_cons_succ]
    refine wpAnyH_take (i := 8) (oi := _) (v := ?_) rfl (by kernel_rfl) (by kernel_rfl) (by kernel_rfl) (fun _ _ _ h => h) (Or.inl ⟨by rfl, ?_⟩) (by assumption) ?_
    rotate_left
    · (intro w hSw; (try dsimp only at hSw); (first | (go_simp; done) | (go_simp; with_reducible rfl)))
    simp only [Act.put, List.getElem_toArray, List.getElem_cons_succ, List.getElem_cons_zero, List.setIfInBounds_toArray, List.set_cons_zero, List.set_cons_succ]
    refine wpAnyH_take (i := 9) (oi := _) (v := ?_) rfl (by kernel_rfl) (by kernel_rfl) (by kernel_rfl) (fun _ _ _ h => h) (Or.inl ⟨by rfl, ?_⟩) (by assumption) ?_
    rotate_left
    · (intro w hSw; (try dsimp only at hSw); (first | (go_simp; done) | (go_simp; with_reducible rfl)))
    simp only [Act.put, List.getElem_toArray, List.getElem_cons_succ, List.getElem_cons_zero, List.setIfInBounds_toArray, List.set_cons_zero, List.set_cons_succ]
    refine wpAnyH_take (i := 10) (oi := _) (v := ?_) rfl (by kernel_rfl) (by kernel_rfl) (by kernel_rfl) (fun _ _ _ h => h) (Or.inl ⟨by rfl, ?_⟩) (by assumption) ?_
    rotate_left
    · (intro w hSw; (try dsimp only at hSw); (first | (go_simp; done) | (go_simp; with_reducible rfl)))
    simp only [Act.put, List.getElem_toArray, List.getElem_cons_succ, List.getElem_cons_zero, List.setIfInBounds_toArray, List.set_cons_zero, List.set_cons_succ]
    refine wpAnyH_ready (rs := [3]) (by kernel_rfl) (by simp) ?_
    refine AllReadyH.cons rfl (fun K hK => ?_) AllReadyH.nil
    go_simp
    refine (HMI.out _ HHN.out HHS.out).mono ?_
    rintro e w3 ⟨rfl, hb⟩
    have HK := Lib.hid (keepM HK.out hb)
    clear hb hHeld
    go_wp2_with fail
    refine hK.out _ _ (⟨(HK.out).1.2.1, (HK.out).1.2.2.1, (HK.out).1.2.2.2.2.1, (HK.out).1.2.2.2.2.2.1, (HK.out).1.2.2.2.2.2.2.1, (HK.out).1.2.2.2.2.2.2.2⟩) (fun hHeld => ?_)
    clear hK K
    refine wpAnyH_ready (rs := [11]) (by kernel_rfl) (by simp) ?_
    refine AllReadyH.cons rfl (fun K hK => ?_) AllReadyH.nil
    go_simp
    refine (HO.out _ (HV.out.below HK.out.1.1.below) HL1.out HL24.out).mono ?_
    rintro e w4 ⟨v, rfl, ho, hb⟩
    obtain ⟨va, vc, hvs, _⟩ := owns_shape ho
    rw [HML.out] at hvs ho
    subst hvs
    have HOW := Lib.hid (owns_lower (base' := w.heap.size + 2 + 1) ho (Nat.succ_le_of_lt HK.out.2.lt))
    have HK := Lib.hid (keepM HK.out hb)
    clear ho hb hHeld
    go_wp2_with fail
    refine hK.out _ _ (⟨(HK.out).1.2.1, (HK.out).1.2.2.1, (HK.out).1.2.2.2.2.1, (HK.out).1.2.2.2.2.2.1, (HK.out).1.2.2.2.2.2.2.1, (HK.out).1.2.2.2.2.2.2.2⟩) (fun hHeld => ?_)
    clear hK K
    refine wpAnyH_take (i := 12) (oi := _) (v := ?_) rfl (by kernel_rfl) (by kernel_rfl) (by kernel_rfl) (fun _ _ _ h => h) (Or.inl ⟨by rfl, ?_⟩) (by assumption) ?_
    rotate_left
    · (intro w hSw; (try dsimp only at hSw); (first | (go_simp; done) | (go_simp; with_reducible rfl)))
    simp only [Act.put, List.getElem_toArray, List.getElem_cons_succ, List.getElem_cons_zero, List.setIfInBounds_toArray, List.set_cons_zero, List.set_cons_succ]
    refine wpAnyH_ready (rs := [13]) (by kernel_rfl) (by simp) ?_
    refine AllReadyH.cons rfl (fun K hK => ?_) AllReadyH.nil
    go_simp
    have a0 := HK.out.2.cell 0
    have a1 := HK.out.2.cell 1
    have a2 := HK.out.2.cell 2
    have a3 := HK.out.2.cell 3
    have b0 := HK.out.2.free 0
    have b1 := HK.out.2.free 1
    have b2 := HK.out.2.free 2
    have b3 := HK.out.2.free 3
    have hB4 := keepM_set HK.out (.int .i64 (n - 1 - k.s)) (.int .i64 (-k.f)) (.int .i64 k.d) (.slice va ml vc)
    have HO4 := Lib.hid (own_set4 HOW.out (.int .i64 (n - 1 - k.s)) (.int .i64 (-k.f)) (.int .i64 k.d) (.slice va ml vc))
    have HK4 := Lib.hid hB4
    clear hHeld hB4
    go_simp
    refine hK.out _ _ (⟨(HK4.out).1.2.1, (HK4.out).1.2.2.1, (HK4.out).1.2.2.2.2.1, (HK4.out).1.2.2.2.2.2.1, (HK4.out).1.2.2.2.2.2.2.1, (HK4.out).1.2.2.2.2.2.2.2⟩) (fun hHeld => ?_)
    clear hK K
    generalize (((w4.setCell ⟨w.heap.size + 2, 0, none⟩ (.int .i64 (n - 1 - k.s))).setCell ⟨w.heap.size + 2, 1, none⟩ (.int .i64 (-k.f))).setCell ⟨w.heap.size + 2, 2, none⟩ (.int .i64 k.d)).setCell ⟨w.heap.size + 2, 3, none⟩ (.slice va ml vc) = w9 at *
    refine wpAnyH_take (i := 14) (oi := _) (v := ?_) rfl (by kernel_rfl) (by kernel_rfl) (by kernel_rfl) (fun _ _ _ h => h) (Or.inl ⟨by rfl, ?_⟩) (by assumption) ?_
    rotate_left
    · (intro w hSw; (try dsimp only at hSw); (first | (go_simp; done) | (go_simp; with_reducible rfl)))
    simp only [Act.put, List.getElem_toArray, List.getElem_cons_succ, List.getElem_cons_zero, List.setIfInBounds_toArray, List.set_cons_zero, List.set_cons_succ]
    refine wpAnyH_done (by kernel_rfl) ?_ _
    refine NoPanic.normal ?_
    clear hHeld a0 a1 a2 a3 b0 b1 b2 b3
    have a0 := HK4.out.2.cell 0
    have a1 := HK4.out.2.cell 1
    have a2 := HK4.out.2.cell 2
    have a3 := HK4.out.2.cell 3
    go_wp2_with fail
    refine bodyPost_ret (v := .tuple #[.agg #[.int .i64 (n - 1 - k.s), .int .i64 (-k.f), .int .i64 k.d, .slice va ml vc], .bool true]) (by simp [results, Try.results22, go_sem, a0, a1, a2, a3]) rfl ?_
    rw [mirwR_yes HY.out]
    refine ⟨.slice va ml vc, rfl, ?_, HK4.out.1.1.below⟩
    rw [show (mirW n k).ms = k.ms from rfl, HML.out]
    exact owns_lower HO4.out (by omega)
end Go.Proofs.Ytcpembfioelnlaa
