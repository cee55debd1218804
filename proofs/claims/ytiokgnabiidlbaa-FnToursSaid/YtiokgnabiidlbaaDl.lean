/-
  What is proved: the contract of a draw of the law FnTours. Conditions: the bytes read as bytes.
-/
import Derived.Test.YtiokgnabiidlbaaDj
namespace Go.Proofs.Ytiokgnabiidlbaa
open Go.RowKit
set_option linter.unusedVariables false
set_option linter.unusedSimpArgs false

set_option maxHeartbeats 1600000 in
set_option maxRecDepth 20000 in
theorem drawTour_any (v : Value) (w : World) (hv : CodeOK w v) :
    Calls Try.prog 29 #[v] w (fun e w' => ∃ (n : Int) (g : Bool) (a : Int) (vl : Value) (xs : List Int), e = .returned (.tuple #[rd n g, .int .i64 a, vl]) ∧ SizeOk n ∧ w'.ownsRow w.heap.size 3 1 vl xs.length (xs.map iv) ∧ xs.length ≤ 62 ∧ Below w.heap.size w w') := by
  obtain ⟨i0, hi, hz0, hz1, hz2⟩ := info_parts infoInt
  have HC0 := Lib.hid (show ∀ a n cp, v = .slice a n cp → CurOK (w.heap.size + 1) (w.heap.size + 1) 0 ((w.alloc (.cells #[.int .i64 0, .bool false] 25)).alloc (.cells #[.slice a n cp, .int .i64 0, .int .u64 0] 66)) from by
    intro a n cp e
    subst e
    have h := cur_new (hv.below (below_new w (.cells #[.int .i64 0, .bool false] 25)))
    simpa using h)
  obtain ⟨av, nv, cv, hvv, _⟩ := hv
  subst hvv
  go_enter Try.func29, Try.ntmps29
  go_wp2_with fail
  refine (road_any (w.heap.size + 1) (w.heap.size + 1) 0 _ (HC0.out _ _ _ rfl) (by omega)).mono ?_
  rintro e w1 ⟨n, g, rfl, hn, hc, hg⟩
  have HD := Lib.hid (DSt.first (n := n) (g := g) hc hg)
  have HN := Lib.hid hn
  have HPO := Lib.hid (fun t W h ht => placeOn_any (w.heap.size + 1) (w.heap.size + 1) t n g W h ht hn)
  have HWK := Lib.hid (fun t W h ht => walk_any (w.heap.size + 1) (w.heap.size + 1) t n g W h ht hn)
  have hlo : w.heap.size + 1 < w1.heap.size := HD.out.lo
  clear hn hc hg HC0
  unfold rd at *
  go_wp2_with fail
  have hs1 : (w1.alloc (.cells #[.int .i64 n, .bool g] 25)).heap.size = w1.heap.size + 1 := by simp
  generalize w1.alloc (.cells #[.int .i64 n, .bool g] 25) = W1 at *
  generalize w1.heap.size = K at *
  have HE := Lib.hid (made_at W1 (K + 1) (K + 1) hs1 (Nat.le_refl _))
  have HDE := Lib.hid (HD.out.alloc (.cells #[] 3))
  have hs2 : (W1.alloc (.cells #[] 3)).heap.size = K + 2 := by simp [hs1]
  generalize W1.alloc (.cells #[] 3) = W2 at *
  have hbg := HDE.out.big
  have hlo2 := HDE.out.lo
  have hlit := (MapKept.heap_alloc W2 (.cells #[.int .i64 2, .int .i64 3, .int .i64 1, .int .i64 0, .int .i64 5] 3)).1
  rw [hs2] at hlit
  refine (among_blk _ _ _ 5 (K + 2) [2, 3, 1, 0, 5] _ _ ?hcs rfl hlit ?hkb (HDE.out.alloc (.cells #[.int .i64 2, .int .i64 3, .int .i64 1, .int .i64 0, .int .i64 5] 3)).cur (by omega) (by omega) (by omega)).mono ?_
  clear hlit
  case hcs => rfl
  case hkb => omega
  rintro e w3 ⟨m, rfl, hm, hc, hg⟩
  have HD2 := Lib.hid ((HDE.out.alloc (.cells #[.int .i64 2, .int .i64 3, .int .i64 1, .int .i64 0, .int .i64 5] 3)).grown hc hg)
  have HO2 := Lib.hid (owns_cur (HE.out.alloc (.cells #[.int .i64 2, .int .i64 3, .int .i64 1, .int .i64 0, .int .i64 5] 3)) hg (by omega))
  have hm0 : 0 ≤ m ∧ m ≤ 5 := by simp at hm; omega
  clear hc hg hm
  go_wp2_with fail
  go_loopw [7, 8] (fun v i wr => ∃ (xs : List Int) (k : Nat), i = .int .i64 k ∧ xs.length + k ≤ 5 ∧ DSt w n g K (10 + 4 * xs.length) wr ∧ wr.ownsRow (K + 1) 3 1 v xs.length (xs.map iv)) (fun _ i _ => (intOf i).toNat)
  case atStart => exact ⟨[], m.toNat, by congr 1; omega, by simp; omega, HD2.out.more (by simp), HO2.out⟩
  case round =>
    obtain ⟨xs, k, rfl, hk, hd, ho⟩ := hrel
    clear HD2 HO2
    have HD2 := Lib.hid hd
    have HO2 := Lib.hid ho
    clear hd ho
    by_cases hlt : k = 0
    · subst hlt
      go_wp2_with fail
      refine wp_region_noPanic ?_
      refine wp_region_held_drew (S := fun w' => w'.cell? ⟨K, 0, none⟩ = some (.int .i64 n) ∧ w'.cell? ⟨K, 1, none⟩ = some (.bool g)) (by kernel_rfl) HD2.out.drew.keep (fun hHeld => ?_)
      refine wpAnyH_take (i := 0) (oi := _) (v := ?_) rfl (by kernel_rfl) (by kernel_rfl) (by kernel_rfl) (fun _ _ _ h => h) (Or.inl ⟨by rfl, ?_⟩) (by assumption) ?_
      rotate_left
      · (intro w hSw; (try dsimp only at hSw); (first | (go_simp; done) | (go_simp; with_reducible rfl)))
      simp only [Act.put, List.getElem_toArray, List.getElem_cons_succ, List.getElem_cons_zero, List.setIfInBounds_toArray, List.set_cons_zero, List.set_cons_succ]
      refine wpAnyH_take (i := 1) (oi := _) (v := ?_) rfl (by kernel_rfl) (by kernel_rfl) (by kernel_rfl) (fun _ _ _ h => h) (Or.inl ⟨by rfl, ?_⟩) (by assumption) ?_
      rotate_left
      · (intro w hSw; (try dsimp only at hSw); (first | (go_simp; done) | (go_simp; with_reducible rfl)))
      simp only [Act.put, List.getElem_toArray, List.getElem_cons_succ, List.getElem_cons_zero, List.setIfInBounds_toArray, List.set_cons_zero, List.set_cons_succ]
      refine wpAnyH_take (i := 2) (oi := _) (v := ?_) rfl (by kernel_rfl) (by kernel_rfl) (by kernel_rfl) (fun _ _ _ h => h) (Or.inl ⟨by rfl, ?_⟩) (by assumption) ?_
      rotate_left
      · (intro w hSw; (try dsimp only at hSw); (first | (go_simp; done) | (go_simp; with_reducible rfl)))
      simp only [Act.put, List.getElem_toArray, List.getElem_cons_succ, List.getElem_cons_zero, List.setIfInBounds_toArray, List.set_cons_zero, List.set_cons_succ]
      refine wpAnyH_take (i := 4) (oi := _) (v := ?_) rfl (by kernel_rfl) (by kernel_rfl) (by kernel_rfl) (fun _ _ _ h => h) (Or.inl ⟨by rfl, ?_⟩) (by assumption) ?_
      rotate_left
      · (intro w hSw; (try dsimp only at hSw); (first | (go_simp; done) | (go_simp; with_reducible rfl)))
      simp only [Act.put, List.getElem_toArray, List.getElem_cons_succ, List.getElem_cons_zero, List.setIfInBounds_toArray, List.set_cons_zero, List.set_cons_succ]
      have HD3 := Lib.hid HD2.out.drew
      refine wpAnyH_ready (rs := [3]) (by kernel_rfl) (by simp) ?_
      refine AllReadyH.cons rfl (fun K hK => ?_) AllReadyH.nil
      go_simp
      refine (HPO.out _ _ HD3.out.cur (by omega)).mono ?_
      rintro e w6 ⟨a, rfl, _, hc, hg⟩
      have HD4 := Lib.hid (HD3.out.grown hc hg)
      have HO4 := Lib.hid (owns_cur (w := wr.drew) HO2.out hg (by omega))
      clear hc hg
      go_wp2_with fail
      refine hK.out _ _ (HD4.out.keep) (fun hHeld => ?_)
      clear hK K
      refine wpAnyH_ready (rs := [5]) (by kernel_rfl) (by simp) ?_
      refine AllReadyH.cons rfl (fun K hK => ?_) AllReadyH.nil
      have r0 : w6.cell? ⟨w.heap.size, 0, none⟩ = some (.int .i64 0) := cell_of_block HD4.out.res 0
      have r1 : w6.cell? ⟨w.heap.size, 1, none⟩ = some (.bool false) := cell_of_block HD4.out.res 1
      have f0 := frozen_of_block HD4.out.res 0
      have f1 := frozen_of_block HD4.out.res 1
      have hS9 := HD4.out.stored
      have hL9 := (owns_road (w := w) (x := .int .i64 n) (y := .bool g) HO4.out (by omega))
      go_simp
      refine hK.out _ _ (hS9.keep) (fun hHeld => ?_)
      clear hK K
      refine wpAnyH_take (i := 6) (oi := _) (v := ?_) rfl (by kernel_rfl) (by kernel_rfl) (by kernel_rfl) (fun _ _ _ h => h) (Or.inl ⟨by rfl, ?_⟩) (by assumption) ?_
      rotate_left
      · (intro w hSw; (try dsimp only at hSw); (first | (go_simp; done) | (go_simp; with_reducible rfl)))
      simp only [Act.put, List.getElem_toArray, List.getElem_cons_succ, List.getElem_cons_zero, List.setIfInBounds_toArray, List.set_cons_zero, List.set_cons_succ]
      refine wpAnyH_take (i := 7) (oi := _) (v := ?_) rfl (by kernel_rfl) (by kernel_rfl) (by kernel_rfl) (fun _ _ _ h => h) (Or.inl ⟨by rfl, ?_⟩) (by assumption) ?_
      rotate_left
      · (intro w hSw; (try dsimp only at hSw); (first | (go_simp; done) | (go_simp; with_reducible rfl)))
      simp only [Act.put, List.getElem_toArray, List.getElem_cons_succ, List.getElem_cons_zero, List.setIfInBounds_toArray, List.set_cons_zero, List.set_cons_succ]
      refine wpAnyH_done (by kernel_rfl) ?_ _
      refine NoPanic.normal ?_
      clear hHeld
      have hcell0 := cell_of_block hS9.res 0
      have hcell1 := cell_of_block hS9.res 1
      go_wp2_with fail
      exact bodyPost_ret (v := .tuple #[.agg #[.int .i64 n, .bool g], .int .i64 a, _]) (by simp [results, Try.results29, go_sem, r0, r1]) rfl ⟨n, g, a, _, xs, rfl, HN.out, owns_lower hL9 (by omega), by omega, hS9.below⟩
    · have hkp : ¬ ((k : Int) ≤ 0) := by omega
      have hk1 : 0 < (k : Int) := by omega
      have hw1 : IntKind.i64.wrap ((k : Int) - 1) = ((k - 1 : Nat) : Int) := by rw [show (k : Int) - 1 = ((k - 1 : Nat) : Int) by omega]; exact IntWalk.i64_in _ (by omega)
      have k0 := HD2.out.keep.1
      have k1 := HD2.out.keep.2
      go_wp2_with fail
      refine (HPO.out _ _ HD2.out.cur (by omega)).mono ?_
      rintro e w5 ⟨a, rfl, _, hc, hg⟩
      have HD3 := Lib.hid (HD2.out.grown hc hg)
      have HO3 := Lib.hid (owns_cur HO2.out hg (by omega))
      clear hc hg k0 k1
      have hb3 := (Array.getElem?_eq_some_iff.1 HD3.out.box).1
      go_wp2_with (at_builtin; refine wpList_append_own _ rfl _ _ 26 rfl (K + 1) 3 i0 (.int .i64 0) 1 8 Try.underlying26 hi hz0 hz1 hz2 rfl (by decide) _ _ _ rfl (HO3.out.alloc _) ⟨w5.heap.size, 0, none⟩ 1 1 [.int .i64 a] rfl rfl (cell_one_new _ _ _) ?c2 ?c3 ?c4 ?c5 ?_)
      case c2 => intro u hu; simp at hu; subst hu; rfl
      case c3 => unfold maxLen; omega
      case c4 => omega
      case c5 => simp; omega
      intro v' w9 hown' hgrow _
      have HD4 := Lib.hid (((HD3.out.alloc _).low (below_grown hgrow (fun q e => (HO3.out.lt q e).1) (by simp; omega))).more (show 10 + 4 * xs.length + 4 ≤ 10 + 4 * (xs ++ [a]).length by simp; omega))
      have HO4 := Lib.hid hown'
      clear hgrow hown'
      go_wp2_with fail
      go_roundw
      case rel => exact ⟨xs ++ [a], k - 1, by first | rfl | (congr 1; omega), by simp; omega, HD4.out, by simpa using HO4.out⟩
      case measure => simp [intOf]; omega
end Go.Proofs.Ytiokgnabiidlbaa
