/-
  What is proved: the contract of the draw of a walk. Conditions: those of the contract.
-/
import Derived.Test.YtiokgnabiidlbaaWkf
namespace Go.Proofs.Ytiokgnabiidlbaa
open Go.RowKit
set_option linter.unusedVariables false
set_option linter.unusedSimpArgs false

def lens : List Int := [6, 10, 4, 16, 1, 2, 30, 61, 62, 25]
theorem lens_ok (x : Int) (h : x ∈ lens) : x ≤ 62 := by
  simp [lens] at h
  omega
set_option maxHeartbeats 3200000 in
set_option maxRecDepth 20000 in
theorem walk_any (base b t : Nat) (n : Int) (g : Bool) (w : World) (h : CurOK base b t w) (ht : t ≤ 700) (hn : SizeOk n) :
    Calls Try.prog 58 #[.pointer (some ⟨b, 0, none⟩), rd n g] w (DrewL base b (t + 210) w) := by
  have HPO := Lib.hid (fun w h => placeOn_any base b t n g w h (by omega) hn)
  have HWF := Lib.hid (fun a m w h hm => walkFrom_any base b (t + 6) n g a m w h (by omega) hm)
  have hbR := h.lt
  have HC := Lib.hid (h.alloc (.cells #[.int .i64 n, .bool g] 25) h.base)
  have HG := Lib.hid (grown_alloc w (.cells #[.int .i64 n, .bool g] 25) (some b))
  have HR := Lib.hid (MapKept.heap_alloc w (.cells #[.int .i64 n, .bool g] 25)).1
  have hsz : w.heap.size + 1 ≤ (w.alloc (.cells #[.int .i64 n, .bool g] 25)).heap.size := by simp
  have HSZ := Lib.hid hsz
  clear h hsz
  unfold rd at *
  go_enter Try.func58, Try.ntmps58
  go_wp2_with fail
  generalize w.alloc (.cells #[.int .i64 n, .bool g] 25) = w1 at *
  have hsz := HSZ.out
  refine wp_region_noPanic ?_
  refine wp_region_held_drew (S := fun w' => w'.cell? ⟨w.heap.size, 0, none⟩ = some (.int .i64 n) ∧ w'.cell? ⟨w.heap.size, 1, none⟩ = some (.bool g)) (by kernel_rfl) ⟨cell_of_block HR.out 0, cell_of_block HR.out 1⟩ (fun hHeld => ?_)
  refine wpAnyH_take (i := 0) (oi := _) (v := ?_) rfl (by kernel_rfl) (by kernel_rfl) (by kernel_rfl) (fun _ _ _ h => h) (Or.inl ⟨by rfl, ?_⟩) (by assumption) ?_
  rotate_left
  · (intro w hSw; (try dsimp only at hSw); (first | (go_simp; done) | (go_simp; with_reducible rfl)))
  simp only [Act.put, List.getElem_toArray, List.getElem_cons_succ, List.getElem_cons_zero, List.setIfInBounds_toArray, List.set_cons_zero, List.set_cons_succ]
  refine wpAnyH_take (i := 1) (oi := _) (v := ?_) rfl (by kernel_rfl) (by kernel_rfl) (by kernel_rfl) (fun _ _ _ h => h) (Or.inl ⟨by rfl, ?_⟩) (by assumption) ?_
  rotate_left
  · (intro w hSw; (try dsimp only at hSw); (first | (go_simp; done) | (go_simp; with_reducible rfl)))
  simp only [Act.put, List.getElem_toArray, List.getElem_cons_succ, List.getElem_cons_zero, List.setIfInBounds_toArray, List.set_cons_zero, List.set_cons_succ]
  refine wpAnyH_take (i := 2) (oi := _) (v := ?_) rfl (by kernel_rfl) (by kernel_rfl) (by kernel_rfl) (fun _ _ _ h => h) (Or.inl ⟨by rfl, ?_⟩) (by assumption) ?_
  rotate_left
  · (intro w hSw; (try dsimp only at hSw); (first | (go_simp; done) | (go_simp; with_reducible rfl)))
  simp only [Act.put, List.getElem_toArray, List.getElem_cons_succ, List.getElem_cons_zero, List.setIfInBounds_toArray, List.set_cons_zero, List.set_cons_succ]
  refine wpAnyH_take (i := 3) (oi := _) (v := ?_) rfl (by kernel_rfl) (by kernel_rfl) (by kernel_rfl) (fun _ _ _ h => h) (Or.inl ⟨by rfl, ?_⟩) (by assumption) ?_
  rotate_left
  · (intro w hSw; (try dsimp only at hSw); (first | (go_simp; done) | (go_simp; with_reducible rfl)))
  simp only [Act.put, List.getElem_toArray, List.getElem_cons_succ, List.getElem_cons_zero, List.setIfInBounds_toArray, List.set_cons_zero, List.set_cons_succ]
  refine wpAnyH_take (i := 5) (oi := _) (v := ?_) rfl (by kernel_rfl) (by kernel_rfl) (by kernel_rfl) (fun _ _ _ h => h) (Or.inl ⟨by rfl, ?_⟩) (by assumption) ?_
  rotate_left
  · (intro w hSw; (try dsimp only at hSw); (first | (go_simp; done) | (go_simp; with_reducible rfl)))
  simp only [Act.put, List.getElem_toArray, List.getElem_cons_succ, List.getElem_cons_zero, List.setIfInBounds_toArray, List.set_cons_zero, List.set_cons_succ]
  refine wpAnyH_ready (rs := [4, 6]) (by kernel_rfl) (by simp) ?_
  refine AllReadyH.cons rfl (fun K hK => ?_) (AllReadyH.cons rfl (fun K hK => ?_) AllReadyH.nil)
  · go_simp
    refine (HPO.out _ (HC.out.below (below_drewN _ 1) HC.out.base)).mono ?_
    rintro e w2 ⟨r, rfl, _, hc, hg⟩
    have HC2 := Lib.hid hc
    have HR2 := Lib.hid ((hg.block w.heap.size (Array.getElem?_eq_some_iff.1 (HR.out)).1 (by intro e; cases e; omega)).trans (HR.out))
    have HG2 := Lib.hid (grown_trans (grown_low HG.out ((below_drewN _ 1).mono HG.out.size)) hg)
    clear hc hg hHeld
    go_wp2_with fail
    refine hK.out _ _ (⟨cell_of_block HR2.out 0, cell_of_block HR2.out 1⟩) (fun hHeld => ?_)
    clear hK K
    refine wpAnyH_ready (rs := [6]) (by kernel_rfl) (by simp) ?_
    refine AllReadyH.cons rfl (fun K hK => ?_) AllReadyH.nil
    go_simp
    refine hK.out _ _ (⟨((below_new w2 _).cell (p := ⟨w.heap.size, 0, none⟩) (Array.getElem?_eq_some_iff.1 HR2.out).1).trans (cell_of_block HR2.out 0), ((below_new w2 _).cell (p := ⟨w.heap.size, 1, none⟩) (Array.getElem?_eq_some_iff.1 HR2.out).1).trans (cell_of_block HR2.out 1)⟩) (fun hHeld => ?_)
    clear hK K
    have HC3 := Lib.hid (HC2.out.alloc (.cells #[.int .i64 6, .int .i64 10, .int .i64 4, .int .i64 16, .int .i64 1, .int .i64 2, .int .i64 30, .int .i64 61, .int .i64 62, .int .i64 25] 3) HC2.out.base)
    have HR3 := Lib.hid (((below_new w2 (.cells #[.int .i64 6, .int .i64 10, .int .i64 4, .int .i64 16, .int .i64 1, .int .i64 2, .int .i64 30, .int .i64 61, .int .i64 62, .int .i64 25] 3)).block w.heap.size (Array.getElem?_eq_some_iff.1 HR2.out).1).trans HR2.out)
    have HG3 := Lib.hid (grown_trans HG2.out (grown_alloc w2 (.cells #[.int .i64 6, .int .i64 10, .int .i64 4, .int .i64 16, .int .i64 1, .int .i64 2, .int .i64 30, .int .i64 61, .int .i64 62, .int .i64 25] 3) (some b)))
    have hb9 := HC2.out.lt
    refine wpAnyH_ready (rs := [7]) (by kernel_rfl) (by simp) ?_
    refine AllReadyH.cons rfl (fun K hK => ?_) AllReadyH.nil
    go_simp
    refine (among_blk base b (t + 4) 10 _ lens _ _ ?hcs rfl ((MapKept.heap_alloc w2 _).1) ?hkb HC3.out (by omega) (by omega) (by omega)).mono ?_
    case hcs => rfl
    case hkb => omega
    rintro e w4 ⟨x, rfl, hx, hc, hg⟩
    have HC4 := Lib.hid hc
    have HR4 := Lib.hid ((hg.block w.heap.size (Array.getElem?_eq_some_iff.1 HR3.out).1 (by intro e; cases e; omega)).trans HR3.out)
    have HG4 := Lib.hid (grown_trans HG3.out hg)
    have hx62 := lens_ok x hx
    clear hc hg hx hHeld
    go_wp2_with fail
    refine hK.out _ _ (⟨cell_of_block HR4.out 0, cell_of_block HR4.out 1⟩) (fun hHeld => ?_)
    clear hK K
    refine wpAnyH_ready (rs := [8]) (by kernel_rfl) (by simp) ?_
    refine AllReadyH.cons rfl (fun K hK => ?_) AllReadyH.nil
    go_simp
    refine (HWF.out r x _ HC4.out hx62).mono ?_
    rintro e w5 ⟨v5, xs, rfl, hl1, hl62, ho, hc, hg⟩
    have HC5 := Lib.hid hc
    have HO5 := Lib.hid (owns_lower ho HG4.out.size)
    have HR5 := Lib.hid ((hg.block w.heap.size (Array.getElem?_eq_some_iff.1 HR4.out).1 (by intro e; cases e; omega)).trans HR4.out)
    have HG5 := Lib.hid (grown_trans HG4.out hg)
    clear hc hg ho hHeld
    go_wp2_with fail
    refine hK.out _ _ (⟨cell_of_block HR5.out 0, cell_of_block HR5.out 1⟩) (fun hHeld => ?_)
    clear hK K
    refine wpAnyH_take (i := 9) (oi := _) (v := ?_) rfl (by kernel_rfl) (by kernel_rfl) (by kernel_rfl) (fun _ _ _ h => h) (Or.inl ⟨by rfl, ?_⟩) (by assumption) ?_
    rotate_left
    · (intro w hSw; (try dsimp only at hSw); (first | (go_simp; done) | (go_simp; with_reducible rfl)))
    simp only [Act.put, List.getElem_toArray, List.getElem_cons_succ, List.getElem_cons_zero, List.setIfInBounds_toArray, List.set_cons_zero, List.set_cons_succ]
    refine wpAnyH_done (by kernel_rfl) ?_ _
    refine NoPanic.normal ?_
    clear hHeld
    go_wp2_with fail
    go_ret
    exact ⟨_, xs, rfl, hl1, hl62, HO5.out, HC5.out.more (by omega), HG5.out⟩
  · go_simp
    refine hK.out _ _ (⟨((below_new w1.drew _).cell (p := ⟨w.heap.size, 0, none⟩) (Array.getElem?_eq_some_iff.1 HR.out).1).trans (cell_of_block HR.out 0), ((below_new w1.drew _).cell (p := ⟨w.heap.size, 1, none⟩) (Array.getElem?_eq_some_iff.1 HR.out).1).trans (cell_of_block HR.out 1)⟩) (fun hHeld => ?_)
    clear hK K
    have HD2 := Lib.hid ((below_new w1 (.cells #[.int .i64 6, .int .i64 10, .int .i64 4, .int .i64 16, .int .i64 1, .int .i64 2, .int .i64 30, .int .i64 61, .int .i64 62, .int .i64 25] 3)).trans ((below_drewN _ 1).mono (by simp)))
    have HRD := Lib.hid ((HD2.out.block w.heap.size (Array.getElem?_eq_some_iff.1 HR.out).1).trans HR.out)
    have hb9 := HC.out.lt
    refine wpAnyH_ready (rs := [4]) (by kernel_rfl) (by simp) ?_
    refine AllReadyH.cons rfl (fun K hK => ?_) AllReadyH.nil
    go_simp
    refine (HPO.out _ (HC.out.below HD2.out HC.out.base)).mono ?_
    rintro e w2 ⟨r, rfl, _, hc, hg⟩
    have HC2 := Lib.hid hc
    have HR2 := Lib.hid ((hg.block w.heap.size (Array.getElem?_eq_some_iff.1 (HRD.out)).1 (by intro e; cases e; omega)).trans (HRD.out))
    have HG2 := Lib.hid (grown_trans (grown_low HG.out (HD2.out.mono HG.out.size)) hg)
    have HLB := Lib.hid ((hg.block w1.heap.size (by simp) (by intro e; cases e; omega)).trans (show ((w1.alloc (.cells #[.int .i64 6, .int .i64 10, .int .i64 4, .int .i64 16, .int .i64 1, .int .i64 2, .int .i64 30, .int .i64 61, .int .i64 62, .int .i64 25] 3)).drew).heap[w1.heap.size]? = some (.cells #[.int .i64 6, .int .i64 10, .int .i64 4, .int .i64 16, .int .i64 1, .int .i64 2, .int .i64 30, .int .i64 61, .int .i64 62, .int .i64 25] 3) from (MapKept.heap_alloc w1 _).1))
    clear hc hg hHeld
    go_wp2_with fail
    refine hK.out _ _ (⟨cell_of_block HR2.out 0, cell_of_block HR2.out 1⟩) (fun hHeld => ?_)
    clear hK K
    have HC3 := HC2
    have HR3 := HR2
    have HG3 := HG2
    refine wpAnyH_ready (rs := [7]) (by kernel_rfl) (by simp) ?_
    refine AllReadyH.cons rfl (fun K hK => ?_) AllReadyH.nil
    go_simp
    refine (among_blk base b (t + 4) 10 _ lens _ _ ?hcs rfl (HLB.out) ?hkb HC3.out (by omega) (by omega) (by omega)).mono ?_
    case hcs => rfl
    case hkb => omega
    rintro e w4 ⟨x, rfl, hx, hc, hg⟩
    have HC4 := Lib.hid hc
    have HR4 := Lib.hid ((hg.block w.heap.size (Array.getElem?_eq_some_iff.1 HR3.out).1 (by intro e; cases e; omega)).trans HR3.out)
    have HG4 := Lib.hid (grown_trans HG3.out hg)
    have hx62 := lens_ok x hx
    clear hc hg hx hHeld
    go_wp2_with fail
    refine hK.out _ _ (⟨cell_of_block HR4.out 0, cell_of_block HR4.out 1⟩) (fun hHeld => ?_)
    clear hK K
    refine wpAnyH_ready (rs := [8]) (by kernel_rfl) (by simp) ?_
    refine AllReadyH.cons rfl (fun K hK => ?_) AllReadyH.nil
    go_simp
    refine (HWF.out r x _ HC4.out hx62).mono ?_
    rintro e w5 ⟨v5, xs, rfl, hl1, hl62, ho, hc, hg⟩
    have HC5 := Lib.hid hc
    have HO5 := Lib.hid (owns_lower ho HG4.out.size)
    have HR5 := Lib.hid ((hg.block w.heap.size (Array.getElem?_eq_some_iff.1 HR4.out).1 (by intro e; cases e; omega)).trans HR4.out)
    have HG5 := Lib.hid (grown_trans HG4.out hg)
    clear hc hg ho hHeld
    go_wp2_with fail
    refine hK.out _ _ (⟨cell_of_block HR5.out 0, cell_of_block HR5.out 1⟩) (fun hHeld => ?_)
    clear hK K
    refine wpAnyH_take (i := 9) (oi := _) (v := ?_) rfl (by kernel_rfl) (by kernel_rfl) (by kernel_rfl) (fun _ _ _ h => h) (Or.inl ⟨by rfl, ?_⟩) (by assumption) ?_
    rotate_left
    · (intro w hSw; (try dsimp only at hSw); (first | (go_simp; done) | (go_simp; with_reducible rfl)))
    simp only [Act.put, List.getElem_toArray, List.getElem_cons_succ, List.getElem_cons_zero, List.setIfInBounds_toArray, List.set_cons_zero, List.set_cons_succ]
    refine wpAnyH_done (by kernel_rfl) ?_ _
    refine NoPanic.normal ?_
    clear hHeld
    go_wp2_with fail
    go_ret
    exact ⟨_, xs, rfl, hl1, hl62, HO5.out, HC5.out.more (by omega), HG5.out⟩
end Go.Proofs.Ytiokgnabiidlbaa
