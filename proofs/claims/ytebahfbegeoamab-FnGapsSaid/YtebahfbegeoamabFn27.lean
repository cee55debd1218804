/-
  What is proved: spec.l1Put puts a number to its place. Conditions: a slice that reads as a list of numbers.
-/
import Derived.Test.YtebahfbegeoamabFn19
namespace Go.Proofs.Ytebahfbegeoamab
open Go.RowKit
set_option linter.unusedVariables false
set_option linter.unusedSimpArgs false


theorem takeWhile_take {p : Int → Bool} : ∀ (xs : List Int) (k : Nat), (∀ (j : Nat) y, j < k → xs[j]? = some y → p y = true) → (∀ y, xs[k]? = some y → p y = false) → xs.takeWhile p = xs.take k
  | [], k, _, _ => by simp
  | x :: xs, 0, _, h => by
    have := h x rfl
    simp [List.takeWhile_cons, this]
  | x :: xs, k + 1, hlo, hhi => by
    have h0 := hlo 0 x (Nat.succ_pos _) rfl
    rw [List.takeWhile_cons, if_pos h0, List.take_succ_cons, takeWhile_take xs k (fun j y hj hy => hlo (j + 1) y (Nat.succ_lt_succ hj) hy) (fun y hy => hhi y hy)]
/-- how many of the first numbers are less than x -/
def lessN (xs : List Int) (x : Int) : Nat := (xs.takeWhile fun y => decide (y < x)).length
/-- xs with x at its place, once -/
def putI (xs : List Int) (x : Int) : List Int := if xs[lessN xs x]? = some x then xs else xs.take (lessN xs x) ++ x :: xs.drop (lessN xs x)
theorem lessN_at {xs : List Int} {x : Int} {k : Nat} (hk : k ≤ xs.length) (hlo : ∀ (j : Nat) y, j < k → xs[j]? = some y → y < x) (hhi : ∀ y, xs[k]? = some y → ¬ y < x) : lessN xs x = k := by
  unfold lessN
  rw [takeWhile_take xs k (fun j y hj hy => by simpa using hlo j y hj hy) (fun y hy => by simpa using hhi y hy), List.length_take]
  omega
theorem putI_same {xs : List Int} {x : Int} {k : Nat} (hlo : ∀ (j : Nat) y, j < k → xs[j]? = some y → y < x) (h : xs[k]? = some x) : putI xs x = xs := by
  obtain ⟨hk, _⟩ := List.getElem?_eq_some_iff.1 h
  unfold putI
  rw [lessN_at (k := k) (by omega) hlo (fun y hy => by rw [h] at hy; cases hy; omega), if_pos h]
theorem putI_new {xs : List Int} {x : Int} {k : Nat} (hk : k ≤ xs.length) (hlo : ∀ (j : Nat) y, j < k → xs[j]? = some y → y < x) (hhi : ∀ y, xs[k]? = some y → x < y) : putI xs x = xs.take k ++ x :: xs.drop k := by
  unfold putI
  rw [lessN_at hk hlo (fun y hy => by have := hhi y hy; omega), if_neg (fun h => by have := hhi x h; omega)]
theorem putI_len (xs : List Int) (x : Int) : (putI xs x).length ≤ xs.length + 1 := by
  unfold putI
  split
  · omega
  · simp
    omega
theorem cell_one_new' (w : World) (u : Value) (t : TypeId) : (w.alloc (.cells #[u] t)).cell? ⟨w.heap.size, 0, none⟩ = some u := by
  rw [cell_new]
  rfl
theorem heap_two (w : World) (o1 o2 : Obj) : ((w.alloc o1).alloc o2).heap[w.heap.size + 1]? = some o2 := by
  have h := (MapKept.heap_alloc (w.alloc o1) o2).1
  rw [show (w.alloc o1).heap.size = w.heap.size + 1 by simp] at h
  exact h
/-- the answer is a list of the caller's memory from base on, or a new one -/
def PutAns (base : Nat) (xs : List Int) (w : World) (e : Ending) (w' : World) : Prop :=
  ∃ v, e = .returned v ∧ w'.ownsRow base 3 1 v xs.length (xs.map iv) ∧ Below w.heap.size w w'
set_option maxHeartbeats 3200000 in
set_option maxRecDepth 20000 in
theorem put_any (base : Nat) (v : Value) (xs : List Int) (x : Int) (w : World) (hv : w.ownsRow base 3 1 v xs.length (xs.map iv)) (hv1 : ∃ a c, v = .slice (some a) xs.length c) (hbase : base ≤ w.heap.size) (hl2 : xs.length ≤ 1048576) :
    Calls Try.prog 95 #[v, .int .i64 x] w (PutAns base (putI xs x) w) := by
  obtain ⟨i0, hi, hz0, hz1, hz2⟩ := info_parts infoInt
  have HV := Lib.hid hv
  have hr := owns_reads hv (by unfold maxLen; omega)
  obtain ⟨y, c, rfl, hc, hm, hx⟩ := hr
  obtain ⟨ad0, c0, hv2⟩ := hv1
  cases hv2
  unfold maxLen at hm
  have hsp : ∃ b o, ad0 = ⟨b, o, none⟩ := by
    rcases hv.2 with ⟨h, _⟩ | ⟨g, cap, cur, h, _⟩
    · cases h
    · cases h; exact ⟨_, _, rfl⟩
  obtain ⟨b, o, rfl⟩ := hsp
  have HX := Lib.hid hx
  clear hx hv
  go_enter Try.func95, Try.ntmps95
  go_wp2_with fail
  go_loop [5] (fun i => ∃ k : Nat, k ≤ xs.length ∧ i = .int .i64 k ∧ ∀ (j : Nat) y, j < k → xs[j]? = some y → y < x) (fun i => xs.length - (intOf i).toNat)
  case atStart => exact ⟨0, Nat.zero_le _, rfl, fun j y h => absurd h (Nat.not_lt_zero _)⟩
  case round =>
    obtain ⟨k, hk, rfl, hlo⟩ := hrel
    have HLO := Lib.hid hlo
    clear hlo
    have HTL := Lib.hid (show (xs.take k ++ [x]).length = k + 1 from by simp; omega)
    have HTK := Lib.hid (fun (w3 : World) (hb : Below w.heap.size w w3) (i : Nat) z (hz : (xs.take k)[i]? = some z) => show w3.cell? ⟨b, o + i, none⟩ = some (.int .i64 z) from by
      rw [List.getElem?_take] at hz
      split at hz
      · obtain ⟨b9, o9, e9, hl9, hc9⟩ := HX.out _ z hz
        cases e9
        exact (hb.cell (p := ⟨b, o + i, none⟩) hl9).trans hc9
      · cases hz)
    by_cases hlt : k < xs.length
    · obtain ⟨z, hzk⟩ := get_some hlt
      obtain ⟨b', o', e9, hbl, hcell⟩ := HX.out k z hzk
      cases e9
      have HZK := Lib.hid hzk
      clear hzk
      have hi0 : 0 ≤ (k : Int) := by omega
      have hi1 : (k : Int) < xs.length := by omega
      have hi2 : (k : Int) ≤ xs.length := by omega
      have hi3 : k ≤ c := by omega
      have hi4 : (k : Int) ≤ c := by omega
      by_cases hzx : z < x
      · go_wp2_with fail
        go_round
        case rel => exact ⟨k + 1, hlt, by go_num, fun j y hj hy => by
          by_cases hjk : j = k
          · subst hjk; rw [HZK.out] at hy; cases hy; exact hzx
          · exact HLO.out j y (by omega) hy⟩
        case measure => simp [intOf]; omega
      · by_cases hze : z = x
        · have hzb : (z == x) = true := by simp [hze]
          have HPI := Lib.hid (putI_same HLO.out (by rw [HZK.out, hze]) : putI xs x = xs)
          go_wp2_with fail
          go_ret
          exact ⟨_, rfl, by rw [HPI.out]; exact HV.out, Below.refl _ _⟩
        · have hzb : (z == x) = false := by simp [hze]
          have HPI := Lib.hid (putI_new hk HLO.out (fun y hy => by rw [HZK.out] at hy; cases hy; omega) : putI xs x = xs.take k ++ x :: xs.drop k)
          have HDK := Lib.hid (fun (w3 : World) (hb : Below w.heap.size w w3) (i : Nat) z (hz : (xs.drop k)[i]? = some z) => show w3.cell? ⟨b, o + k + i, none⟩ = some (.int .i64 z) from by
            rw [List.getElem?_drop] at hz
            obtain ⟨b9, o9, e9, hl9, hc9⟩ := HX.out _ z hz
            cases e9
            rw [show o + k + i = o + (k + i) by omega]
            exact (hb.cell (p := ⟨b, o + (k + i), none⟩) hl9).trans hc9)
          have HPL := Lib.hid (show (putI xs x).length = k + 1 + (xs.length - k) from by rw [HPI.out]; simp; omega)
          have HPM := Lib.hid (show (putI xs x).map iv = (xs.take k ++ [x]).map iv ++ (xs.drop k).map iv from by rw [HPI.out]; simp)
          have hkc : ¬ c = k := by omega
          go_wp2_with fail
          refine wp_region_noPanic ?_
          refine wp_region_held_drew (S := fun _ => True) (by kernel_rfl) trivial (fun hHeld => ?_)
          refine wpAnyH_take (i := 1) (oi := _) (v := ?_) rfl (by kernel_rfl) (by kernel_rfl) (by kernel_rfl) (fun _ _ _ h => h) (Or.inl ⟨by rfl, ?_⟩) (by assumption) ?_
          rotate_left
          · (intro w hSw; (try dsimp only at hSw); (first | (go_simp; done) | (go_simp; with_reducible rfl)))
          simp only [Act.put, List.getElem_toArray, List.getElem_cons_succ, List.getElem_cons_zero, List.setIfInBounds_toArray, List.set_cons_zero, List.set_cons_succ]
          refine wpAnyH_take (i := 2) (oi := _) (v := ?_) rfl (by kernel_rfl) (by kernel_rfl) (by kernel_rfl) (fun _ _ _ h => h) (Or.inl ⟨by rfl, ?_⟩) (by assumption) ?_
          rotate_left
          · (intro w hSw; (try dsimp only at hSw); (first | (go_simp; done) | (go_simp; with_reducible rfl)))
          simp only [Act.put, List.getElem_toArray, List.getElem_cons_succ, List.getElem_cons_zero, List.setIfInBounds_toArray, List.set_cons_zero, List.set_cons_succ]
          refine wpAnyH_take (i := 3) (oi := _) (v := ?_) rfl (by kernel_rfl) (by kernel_rfl) (by kernel_rfl) (fun _ _ _ h => h) (Or.inl ⟨by rfl, ?_⟩) (by assumption) ?_
          rotate_left
          · (intro w hSw; (try dsimp only at hSw); (first | (go_simp; done) | (go_simp; with_reducible rfl)))
          simp only [Act.put, List.getElem_toArray, List.getElem_cons_succ, List.getElem_cons_zero, List.setIfInBounds_toArray, List.set_cons_zero, List.set_cons_succ]
          refine wpAnyH_take (i := 5) (oi := _) (v := ?_) rfl (by kernel_rfl) (by kernel_rfl) (by kernel_rfl) (fun _ _ _ h => h) (Or.inl ⟨by rfl, ?_⟩) (by assumption) ?_
          rotate_left
          · (intro w hSw; (try dsimp only at hSw); (first | (go_simp; done) | (go_simp; with_reducible rfl)))
          simp only [Act.put, List.getElem_toArray, List.getElem_cons_succ, List.getElem_cons_zero, List.setIfInBounds_toArray, List.set_cons_zero, List.set_cons_succ]
          refine wpAnyH_take (i := 8) (oi := _) (v := ?_) rfl (by kernel_rfl) (by kernel_rfl) (by kernel_rfl) (fun _ _ _ h => h) (Or.inl ⟨by rfl, ?_⟩) (by assumption) ?_
          rotate_left
          · (intro w hSw; (try dsimp only at hSw); (first | (go_simp; done) | (go_simp; with_reducible rfl)))
          simp only [Act.put, List.getElem_toArray, List.getElem_cons_succ, List.getElem_cons_zero, List.setIfInBounds_toArray, List.set_cons_zero, List.set_cons_succ]
          refine wpAnyH_take (i := 9) (oi := _) (v := ?_) rfl (by kernel_rfl) (by kernel_rfl) (by kernel_rfl) (fun _ _ _ h => h) (Or.inl ⟨by rfl, ?_⟩) (by assumption) ?_
          rotate_left
          · (intro w hSw; (try dsimp only at hSw); (first | (go_simp; done) | (go_simp; with_reducible rfl)))
          simp only [Act.put, List.getElem_toArray, List.getElem_cons_succ, List.getElem_cons_zero, List.setIfInBounds_toArray, List.set_cons_zero, List.set_cons_succ]
          refine wpAnyH_take (i := 10) (oi := _) (v := ?_) rfl (by kernel_rfl) (by kernel_rfl) (by kernel_rfl) (fun _ _ _ h => h) (Or.inl ⟨by rfl, ?_⟩) (by assumption) ?_
          rotate_left
          · (intro w hSw; (try dsimp only at hSw); (first | (go_simp; done) | (go_simp; with_reducible rfl)))
          simp only [Act.put, List.getElem_toArray, List.getElem_cons_succ, List.getElem_cons_zero, List.setIfInBounds_toArray, List.set_cons_zero, List.set_cons_succ]
          refine wpAnyH_ready (rs := [0, 6]) (by kernel_rfl) (by simp) ?_
          refine AllReadyH.cons rfl (fun K hK => ?_) (AllReadyH.cons rfl (fun K hK => ?_) AllReadyH.nil)
          · go_simp
            refine hK.out _ _ trivial (fun hHeld => ?_)
            clear hK K hHeld
            have HB1 := Lib.hid (show Below w.heap.size w ((w.alloc (.cells #[] 3)).drew) from (below_new w _).trans ((below_drewN _ 1).mono (by simp)))
            have HO1 := Lib.hid (show ((w.alloc (.cells #[] 3)).drew).ownsRow w.heap.size 3 1 (.slice (some ⟨w.heap.size, 0, none⟩) 0 0) 0 [] from owns_below (made_at w w.heap.size w.heap.size rfl (Nat.le_refl _)) (below_drewN _ 1))
            refine wpAnyH_ready (rs := [4, 6]) (by kernel_rfl) (by simp) ?_
            refine AllReadyH.cons rfl (fun K hK => ?_) (AllReadyH.cons rfl (fun K hK => ?_) AllReadyH.nil)
            · refine step_append_any (by rfl) _ _ _ (by rfl) w.heap.size 3 i0 (.int .i64 0) 1 8 Try.underlying24 hi hz0 hz1 hz2 rfl (by decide) _ _ _ (by rfl) HO1.out ⟨b, o, none⟩ k c ((xs.take k).map iv) ?e2 ?c1 (cells_list (fun i z hz => HTK.out _ HB1.out i z hz)) ?c2 ?c3 ?c4 ?c5 ?_
              case e2 => rfl
              case c1 => first | rfl | (simp; done) | (simp; omega)
              case c2 => intro u hu; first | (simp only [List.mem_map] at hu; obtain ⟨z, _, rfl⟩ := hu; rfl) | (simp at hu; subst hu; rfl)
              case c3 => unfold maxLen; omega
              case c4 => omega
              case c5 => exact HB1.out.size
              intro v2 w2 hown' hgrow
              have HO2 := Lib.hid (show w2.ownsRow w.heap.size 3 1 v2 k ((xs.take k).map iv) from by have h := hown'; simpa using h)
              have HB2 := Lib.hid (HB1.out.trans (below_grown hgrow (fun b hb => (owns_block HO1.out b hb).1) HB1.out.size))
              clear hown' hgrow
              refine hK.out _ _ trivial (fun hHeld => ?_)
              clear hK K hHeld
              refine wpAnyH_ready (rs := [6]) (by kernel_rfl) (by simp) ?_
              refine AllReadyH.cons rfl (fun K hK => ?_) AllReadyH.nil
              go_simp
              refine hK.out _ _ trivial (fun hHeld => ?_)
              clear hK K hHeld
              have HB2L := Lib.hid (HB2.out.trans ((below_new w2 (.cells #[.int .i64 x] 3)).mono HB2.out.size))
              have HO2L := Lib.hid (owns_below HO2.out (below_new w2 (.cells #[.int .i64 x] 3)))
              refine wpAnyH_ready (rs := [7]) (by kernel_rfl) (by simp) ?_
              refine AllReadyH.cons rfl (fun K hK => ?_) AllReadyH.nil
              refine step_append_any (by rfl) _ _ _ (by rfl) w.heap.size 3 i0 (.int .i64 0) 1 8 Try.underlying24 hi hz0 hz1 hz2 rfl (by decide) _ _ _ (by rfl) HO2L.out ⟨w2.heap.size, 0, none⟩ 1 1 ([.int .i64 x]) ?e2 ?c1 (fun j u hj => by match j, hj with | 0, hj => cases hj; exact (cell_one_new' w2 _ _) | j + 1, hj => simp at hj) ?c2 ?c3 ?c4 ?c5 ?_
              case e2 => rfl
              case c1 => first | rfl | (simp; done) | (simp; omega)
              case c2 => intro u hu; first | (simp only [List.mem_map] at hu; obtain ⟨z, _, rfl⟩ := hu; rfl) | (simp at hu; subst hu; rfl)
              case c3 => unfold maxLen; omega
              case c4 => omega
              case c5 => exact HB2L.out.size
              intro v3 w3 hown' hgrow
              have HO3 := Lib.hid (show w3.ownsRow w.heap.size 3 1 v3 (k + 1) ((xs.take k ++ [x]).map iv) from by have h := hown'; rw [List.map_append]; exact h)
              have HB3 := Lib.hid (HB2L.out.trans (below_grown hgrow (fun b hb => (owns_block HO2L.out b hb).1) HB2L.out.size))
              clear hown' hgrow
              refine hK.out _ _ trivial (fun hHeld => ?_)
              clear hK K hHeld
              refine wpAnyH_ready (rs := [11]) (by kernel_rfl) (by simp) ?_
              refine AllReadyH.cons rfl (fun K hK => ?_) AllReadyH.nil
              refine step_append_any (by rfl) _ _ _ (by rfl) w.heap.size 3 i0 (.int .i64 0) 1 8 Try.underlying24 hi hz0 hz1 hz2 rfl (by decide) _ _ _ (by rfl) HO3.out ⟨b, o + k, none⟩ (xs.length - k) (c - k) ((xs.drop k).map iv) ?e2 ?c1 (cells_list (fun i z hz => HDK.out _ HB3.out i z hz)) ?c2 ?c3 ?c4 ?c5 ?_
              case e2 => rfl
              case c1 => first | rfl | (simp; done) | (simp; omega)
              case c2 => intro u hu; first | (simp only [List.mem_map] at hu; obtain ⟨z, _, rfl⟩ := hu; rfl) | (simp at hu; subst hu; rfl)
              case c3 => unfold maxLen; omega
              case c4 => omega
              case c5 => exact HB3.out.size
              intro v4 w4 hown' hgrow
              have HO4 := Lib.hid (show w4.ownsRow w.heap.size 3 1 v4 (putI xs x).length ((putI xs x).map iv) from by rw [HPL.out, HPM.out]; exact hown')
              have HB4 := Lib.hid (HB3.out.trans (below_grown hgrow (fun b hb => (owns_block HO3.out b hb).1) HB3.out.size))
              clear hown' hgrow
              refine hK.out _ _ trivial (fun hHeld => ?_)
              clear hK K hHeld
              refine wpAnyH_take (i := 12) (oi := _) (v := ?_) rfl (by kernel_rfl) (by kernel_rfl) (by kernel_rfl) (fun _ _ _ h => h) (Or.inl ⟨by rfl, ?_⟩) (by assumption) ?_
              rotate_left
              · (intro w hSw; (try dsimp only at hSw); (first | (go_simp; done) | (go_simp; with_reducible rfl)))
              simp only [Act.put, List.getElem_toArray, List.getElem_cons_succ, List.getElem_cons_zero, List.setIfInBounds_toArray, List.set_cons_zero, List.set_cons_succ]
              refine wpAnyH_done (by kernel_rfl) ?_ _
              refine NoPanic.normal ?_
              go_wp2_with fail
              go_ret
              exact ⟨_, rfl, owns_lower HO4.out hbase, HB4.out⟩
            · go_simp
              refine hK.out _ _ trivial (fun hHeld => ?_)
              clear hK K hHeld
              have HB1L := Lib.hid (show Below w.heap.size w (((w.alloc (.cells #[] 3)).alloc (.cells #[.int .i64 x] 3)).drew) from (below_new w (.cells #[] 3)).trans (((below_new _ (.cells #[.int .i64 x] 3)).trans ((below_drewN _ 1).mono (by simp))).mono (by simp)))
              have HO1L := Lib.hid (show (((w.alloc (.cells #[] 3)).alloc (.cells #[.int .i64 x] 3)).drew).ownsRow w.heap.size 3 1 (.slice (some ⟨w.heap.size, 0, none⟩) 0 0) 0 [] from owns_below (owns_below (made_at w w.heap.size w.heap.size rfl (Nat.le_refl _)) (below_new _ (.cells #[.int .i64 x] 3))) (below_drewN _ 1))
              have HLIT := Lib.hid (show (((w.alloc (.cells #[] 3)).alloc (.cells #[.int .i64 x] 3)).drew).heap[w.heap.size + 1]? = some (.cells #[.int .i64 x] 3) from heap_two w (.cells #[] 3) (.cells #[.int .i64 x] 3))
              refine wpAnyH_ready (rs := [4]) (by kernel_rfl) (by simp) ?_
              refine AllReadyH.cons rfl (fun K hK => ?_) AllReadyH.nil
              refine step_append_any (by rfl) _ _ _ (by rfl) w.heap.size 3 i0 (.int .i64 0) 1 8 Try.underlying24 hi hz0 hz1 hz2 rfl (by decide) _ _ _ (by rfl) HO1L.out ⟨b, o, none⟩ k c ((xs.take k).map iv) ?e2 ?c1 (cells_list (fun i z hz => HTK.out _ HB1L.out i z hz)) ?c2 ?c3 ?c4 ?c5 ?_
              case e2 => rfl
              case c1 => first | rfl | (simp; done) | (simp; omega)
              case c2 => intro u hu; first | (simp only [List.mem_map] at hu; obtain ⟨z, _, rfl⟩ := hu; rfl) | (simp at hu; subst hu; rfl)
              case c3 => unfold maxLen; omega
              case c4 => omega
              case c5 => exact HB1L.out.size
              intro v2 w2 hown' hgrow
              have HO2 := Lib.hid (show w2.ownsRow w.heap.size 3 1 v2 k ((xs.take k).map iv) from by have h := hown'; simpa using h)
              have HB2 := Lib.hid (HB1L.out.trans (below_grown hgrow (fun b hb => (owns_block HO1L.out b hb).1) HB1L.out.size))
              have HLIT2 := Lib.hid ((hgrow.block (w.heap.size + 1) (Array.getElem?_eq_some_iff.1 HLIT.out).1 (by intro e; have e2 : w.heap.size + 1 = w.heap.size := Option.some.inj e; omega)).trans HLIT.out)
              clear hown' hgrow
              refine hK.out _ _ trivial (fun hHeld => ?_)
              clear hK K hHeld
              refine wpAnyH_ready (rs := [7]) (by kernel_rfl) (by simp) ?_
              refine AllReadyH.cons rfl (fun K hK => ?_) AllReadyH.nil
              refine step_append_any (by rfl) _ _ _ (by rfl) w.heap.size 3 i0 (.int .i64 0) 1 8 Try.underlying24 hi hz0 hz1 hz2 rfl (by decide) _ _ _ (by rfl) HO2.out ⟨w.heap.size + 1, 0, none⟩ 1 1 ([.int .i64 x]) ?e2 ?c1 (fun j u hj => by match j, hj with | 0, hj => cases hj; exact (by have h := HLIT2.out; simp [World.cell?, Addr.add, h]) | j + 1, hj => simp at hj) ?c2 ?c3 ?c4 ?c5 ?_
              case e2 => rfl
              case c1 => first | rfl | (simp; done) | (simp; omega)
              case c2 => intro u hu; first | (simp only [List.mem_map] at hu; obtain ⟨z, _, rfl⟩ := hu; rfl) | (simp at hu; subst hu; rfl)
              case c3 => unfold maxLen; omega
              case c4 => omega
              case c5 => exact HB2.out.size
              intro v3 w3 hown' hgrow
              have HO3 := Lib.hid (show w3.ownsRow w.heap.size 3 1 v3 (k + 1) ((xs.take k ++ [x]).map iv) from by have h := hown'; rw [List.map_append]; exact h)
              have HB3 := Lib.hid (HB2.out.trans (below_grown hgrow (fun b hb => (owns_block HO2.out b hb).1) HB2.out.size))
              clear hown' hgrow
              refine hK.out _ _ trivial (fun hHeld => ?_)
              clear hK K hHeld
              refine wpAnyH_ready (rs := [11]) (by kernel_rfl) (by simp) ?_
              refine AllReadyH.cons rfl (fun K hK => ?_) AllReadyH.nil
              refine step_append_any (by rfl) _ _ _ (by rfl) w.heap.size 3 i0 (.int .i64 0) 1 8 Try.underlying24 hi hz0 hz1 hz2 rfl (by decide) _ _ _ (by rfl) HO3.out ⟨b, o + k, none⟩ (xs.length - k) (c - k) ((xs.drop k).map iv) ?e2 ?c1 (cells_list (fun i z hz => HDK.out _ HB3.out i z hz)) ?c2 ?c3 ?c4 ?c5 ?_
              case e2 => rfl
              case c1 => first | rfl | (simp; done) | (simp; omega)
              case c2 => intro u hu; first | (simp only [List.mem_map] at hu; obtain ⟨z, _, rfl⟩ := hu; rfl) | (simp at hu; subst hu; rfl)
              case c3 => unfold maxLen; omega
              case c4 => omega
              case c5 => exact HB3.out.size
              intro v4 w4 hown' hgrow
              have HO4 := Lib.hid (show w4.ownsRow w.heap.size 3 1 v4 (putI xs x).length ((putI xs x).map iv) from by rw [HPL.out, HPM.out]; exact hown')
              have HB4 := Lib.hid (HB3.out.trans (below_grown hgrow (fun b hb => (owns_block HO3.out b hb).1) HB3.out.size))
              clear hown' hgrow
              refine hK.out _ _ trivial (fun hHeld => ?_)
              clear hK K hHeld
              refine wpAnyH_take (i := 12) (oi := _) (v := ?_) rfl (by kernel_rfl) (by kernel_rfl) (by kernel_rfl) (fun _ _ _ h => h) (Or.inl ⟨by rfl, ?_⟩) (by assumption) ?_
              rotate_left
              · (intro w hSw; (try dsimp only at hSw); (first | (go_simp; done) | (go_simp; with_reducible rfl)))
              simp only [Act.put, List.getElem_toArray, List.getElem_cons_succ, List.getElem_cons_zero, List.setIfInBounds_toArray, List.set_cons_zero, List.set_cons_succ]
              refine wpAnyH_done (by kernel_rfl) ?_ _
              refine NoPanic.normal ?_
              go_wp2_with fail
              go_ret
              exact ⟨_, rfl, owns_lower HO4.out hbase, HB4.out⟩
          · go_simp
            refine hK.out _ _ trivial (fun hHeld => ?_)
            clear hK K hHeld
            refine wpAnyH_ready (rs := [0]) (by kernel_rfl) (by simp) ?_
            refine AllReadyH.cons rfl (fun K hK => ?_) AllReadyH.nil
            go_simp
            refine hK.out _ _ trivial (fun hHeld => ?_)
            clear hK K hHeld
            have HB1L := Lib.hid (show Below w.heap.size w (((w.alloc (.cells #[.int .i64 x] 3)).alloc (.cells #[] 3)).drew) from (below_new w (.cells #[.int .i64 x] 3)).trans (((below_new _ (.cells #[] 3)).trans ((below_drewN _ 1).mono (by simp))).mono (by simp)))
            have HO1L := Lib.hid (show (((w.alloc (.cells #[.int .i64 x] 3)).alloc (.cells #[] 3)).drew).ownsRow w.heap.size 3 1 (.slice (some ⟨w.heap.size + 1, 0, none⟩) 0 0) 0 [] from owns_below (made_at (w.alloc (.cells #[.int .i64 x] 3)) w.heap.size (w.heap.size + 1) (by simp) (Nat.le_succ _)) (below_drewN _ 1))
            have HLIT := Lib.hid (show (((w.alloc (.cells #[.int .i64 x] 3)).alloc (.cells #[] 3)).drew).heap[w.heap.size]? = some (.cells #[.int .i64 x] 3) from ((below_new (w.alloc (.cells #[.int .i64 x] 3)) (.cells #[] 3)).block w.heap.size (by simp)).trans (MapKept.heap_alloc w (.cells #[.int .i64 x] 3)).1)
            refine wpAnyH_ready (rs := [4]) (by kernel_rfl) (by simp) ?_
            refine AllReadyH.cons rfl (fun K hK => ?_) AllReadyH.nil
            refine step_append_any (by rfl) _ _ _ (by rfl) w.heap.size 3 i0 (.int .i64 0) 1 8 Try.underlying24 hi hz0 hz1 hz2 rfl (by decide) _ _ _ (by rfl) HO1L.out ⟨b, o, none⟩ k c ((xs.take k).map iv) ?e2 ?c1 (cells_list (fun i z hz => HTK.out _ HB1L.out i z hz)) ?c2 ?c3 ?c4 ?c5 ?_
            case e2 => rfl
            case c1 => first | rfl | (simp; done) | (simp; omega)
            case c2 => intro u hu; first | (simp only [List.mem_map] at hu; obtain ⟨z, _, rfl⟩ := hu; rfl) | (simp at hu; subst hu; rfl)
            case c3 => unfold maxLen; omega
            case c4 => omega
            case c5 => exact HB1L.out.size
            intro v2 w2 hown' hgrow
            have HO2 := Lib.hid (show w2.ownsRow w.heap.size 3 1 v2 k ((xs.take k).map iv) from by have h := hown'; simpa using h)
            have HB2 := Lib.hid (HB1L.out.trans (below_grown hgrow (fun b hb => (owns_block HO1L.out b hb).1) HB1L.out.size))
            have HLIT2 := Lib.hid ((hgrow.block w.heap.size (Array.getElem?_eq_some_iff.1 HLIT.out).1 (by intro e; have e2 : w.heap.size = w.heap.size + 1 := Option.some.inj e; omega)).trans HLIT.out)
            clear hown' hgrow
            refine hK.out _ _ trivial (fun hHeld => ?_)
            clear hK K hHeld
            refine wpAnyH_ready (rs := [7]) (by kernel_rfl) (by simp) ?_
            refine AllReadyH.cons rfl (fun K hK => ?_) AllReadyH.nil
            refine step_append_any (by rfl) _ _ _ (by rfl) w.heap.size 3 i0 (.int .i64 0) 1 8 Try.underlying24 hi hz0 hz1 hz2 rfl (by decide) _ _ _ (by rfl) HO2.out ⟨w.heap.size, 0, none⟩ 1 1 ([.int .i64 x]) ?e2 ?c1 (fun j u hj => by match j, hj with | 0, hj => cases hj; exact (by have h := HLIT2.out; simp [World.cell?, Addr.add, h]) | j + 1, hj => simp at hj) ?c2 ?c3 ?c4 ?c5 ?_
            case e2 => rfl
            case c1 => first | rfl | (simp; done) | (simp; omega)
            case c2 => intro u hu; first | (simp only [List.mem_map] at hu; obtain ⟨z, _, rfl⟩ := hu; rfl) | (simp at hu; subst hu; rfl)
            case c3 => unfold maxLen; omega
            case c4 => omega
            case c5 => exact HB2.out.size
            intro v3 w3 hown' hgrow
            have HO3 := Lib.hid (show w3.ownsRow w.heap.size 3 1 v3 (k + 1) ((xs.take k ++ [x]).map iv) from by have h := hown'; rw [List.map_append]; exact h)
            have HB3 := Lib.hid (HB2.out.trans (below_grown hgrow (fun b hb => (owns_block HO2.out b hb).1) HB2.out.size))
            clear hown' hgrow
            refine hK.out _ _ trivial (fun hHeld => ?_)
            clear hK K hHeld
            refine wpAnyH_ready (rs := [11]) (by kernel_rfl) (by simp) ?_
            refine AllReadyH.cons rfl (fun K hK => ?_) AllReadyH.nil
            refine step_append_any (by rfl) _ _ _ (by rfl) w.heap.size 3 i0 (.int .i64 0) 1 8 Try.underlying24 hi hz0 hz1 hz2 rfl (by decide) _ _ _ (by rfl) HO3.out ⟨b, o + k, none⟩ (xs.length - k) (c - k) ((xs.drop k).map iv) ?e2 ?c1 (cells_list (fun i z hz => HDK.out _ HB3.out i z hz)) ?c2 ?c3 ?c4 ?c5 ?_
            case e2 => rfl
            case c1 => first | rfl | (simp; done) | (simp; omega)
            case c2 => intro u hu; first | (simp only [List.mem_map] at hu; obtain ⟨z, _, rfl⟩ := hu; rfl) | (simp at hu; subst hu; rfl)
            case c3 => unfold maxLen; omega
            case c4 => omega
            case c5 => exact HB3.out.size
            intro v4 w4 hown' hgrow
            have HO4 := Lib.hid (show w4.ownsRow w.heap.size 3 1 v4 (putI xs x).length ((putI xs x).map iv) from by rw [HPL.out, HPM.out]; exact hown')
            have HB4 := Lib.hid (HB3.out.trans (below_grown hgrow (fun b hb => (owns_block HO3.out b hb).1) HB3.out.size))
            clear hown' hgrow
            refine hK.out _ _ trivial (fun hHeld => ?_)
            clear hK K hHeld
            refine wpAnyH_take (i := 12) (oi := _) (v := ?_) rfl (by kernel_rfl) (by kernel_rfl) (by kernel_rfl) (fun _ _ _ h => h) (Or.inl ⟨by rfl, ?_⟩) (by assumption) ?_
            rotate_left
            · (intro w hSw; (try dsimp only at hSw); (first | (go_simp; done) | (go_simp; with_reducible rfl)))
            simp only [Act.put, List.getElem_toArray, List.getElem_cons_succ, List.getElem_cons_zero, List.setIfInBounds_toArray, List.set_cons_zero, List.set_cons_succ]
            refine wpAnyH_done (by kernel_rfl) ?_ _
            refine NoPanic.normal ?_
            go_wp2_with fail
            go_ret
            exact ⟨_, rfl, owns_lower HO4.out hbase, HB4.out⟩
    · have hE : k = xs.length := by omega
      have HPI := Lib.hid (putI_new hk HLO.out (fun y hy => by rw [List.getElem?_eq_none (by omega)] at hy; cases hy) : putI xs x = xs.take k ++ x :: xs.drop k)
      have HE := Lib.hid hE
      have hi0 : 0 ≤ (k : Int) := by omega
      have hi1 : ¬ (k : Int) < xs.length := by omega
      have hi2 : (k : Int) ≤ xs.length := by omega
      have hi3 : k ≤ c := by omega
      have hi4 : (k : Int) ≤ c := by omega
      clear hE
      have HDK := Lib.hid (fun (w3 : World) (hb : Below w.heap.size w w3) (i : Nat) z (hz : (xs.drop k)[i]? = some z) => show w3.cell? ⟨b, o + k + i, none⟩ = some (.int .i64 z) from by
        rw [List.drop_eq_nil_of_le (by have := HE.out; omega)] at hz
        simp at hz)
      have HPL := Lib.hid (show (putI xs x).length = k + 1 + (xs.length - k) from by rw [HPI.out]; simp; omega)
      have HPM := Lib.hid (show (putI xs x).map iv = (xs.take k ++ [x]).map iv ++ (xs.drop k).map iv from by rw [HPI.out]; simp)
      by_cases hkc : c = k
      · have HDK0 := Lib.hid (fun (w3 : World) (hb : Below w.heap.size w w3) (i : Nat) z (hz : (xs.drop k)[i]? = some z) => show w3.cell? ⟨b, o + i, none⟩ = some (.int .i64 z) from by
          rw [List.drop_eq_nil_of_le (by have := HE.out; omega)] at hz
          simp at hz)
        go_wp2_with fail
        refine wp_region_noPanic ?_
        refine wp_region_held_drew (S := fun _ => True) (by kernel_rfl) trivial (fun hHeld => ?_)
        refine wpAnyH_take (i := 1) (oi := _) (v := ?_) rfl (by kernel_rfl) (by kernel_rfl) (by kernel_rfl) (fun _ _ _ h => h) (Or.inl ⟨by rfl, ?_⟩) (by assumption) ?_
        rotate_left
        · (intro w hSw; (try dsimp only at hSw); (first | (go_simp; done) | (go_simp; with_reducible rfl)))
        simp only [Act.put, List.getElem_toArray, List.getElem_cons_succ, List.getElem_cons_zero, List.setIfInBounds_toArray, List.set_cons_zero, List.set_cons_succ]
        refine wpAnyH_take (i := 2) (oi := _) (v := ?_) rfl (by kernel_rfl) (by kernel_rfl) (by kernel_rfl) (fun _ _ _ h => h) (Or.inl ⟨by rfl, ?_⟩) (by assumption) ?_
        rotate_left
        · (intro w hSw; (try dsimp only at hSw); (first | (go_simp; done) | (go_simp; with_reducible rfl)))
        simp only [Act.put, List.getElem_toArray, List.getElem_cons_succ, List.getElem_cons_zero, List.setIfInBounds_toArray, List.set_cons_zero, List.set_cons_succ]
        refine wpAnyH_take (i := 3) (oi := _) (v := ?_) rfl (by kernel_rfl) (by kernel_rfl) (by kernel_rfl) (fun _ _ _ h => h) (Or.inl ⟨by rfl, ?_⟩) (by assumption) ?_
        rotate_left
        · (intro w hSw; (try dsimp only at hSw); (first | (go_simp; done) | (go_simp; with_reducible rfl)))
        simp only [Act.put, List.getElem_toArray, List.getElem_cons_succ, List.getElem_cons_zero, List.setIfInBounds_toArray, List.set_cons_zero, List.set_cons_succ]
        refine wpAnyH_take (i := 5) (oi := _) (v := ?_) rfl (by kernel_rfl) (by kernel_rfl) (by kernel_rfl) (fun _ _ _ h => h) (Or.inl ⟨by rfl, ?_⟩) (by assumption) ?_
        rotate_left
        · (intro w hSw; (try dsimp only at hSw); (first | (go_simp; done) | (go_simp; with_reducible rfl)))
        simp only [Act.put, List.getElem_toArray, List.getElem_cons_succ, List.getElem_cons_zero, List.setIfInBounds_toArray, List.set_cons_zero, List.set_cons_succ]
        refine wpAnyH_take (i := 8) (oi := _) (v := ?_) rfl (by kernel_rfl) (by kernel_rfl) (by kernel_rfl) (fun _ _ _ h => h) (Or.inl ⟨by rfl, ?_⟩) (by assumption) ?_
        rotate_left
        · (intro w hSw; (try dsimp only at hSw); (first | (go_simp; done) | (go_simp; with_reducible rfl)))
        simp only [Act.put, List.getElem_toArray, List.getElem_cons_succ, List.getElem_cons_zero, List.setIfInBounds_toArray, List.set_cons_zero, List.set_cons_succ]
        refine wpAnyH_take (i := 9) (oi := _) (v := ?_) rfl (by kernel_rfl) (by kernel_rfl) (by kernel_rfl) (fun _ _ _ h => h) (Or.inl ⟨by rfl, ?_⟩) (by assumption) ?_
        rotate_left
        · (intro w hSw; (try dsimp only at hSw); (first | (go_simp; done) | (go_simp; with_reducible rfl)))
        simp only [Act.put, List.getElem_toArray, List.getElem_cons_succ, List.getElem_cons_zero, List.setIfInBounds_toArray, List.set_cons_zero, List.set_cons_succ]
        refine wpAnyH_take (i := 10) (oi := _) (v := ?_) rfl (by kernel_rfl) (by kernel_rfl) (by kernel_rfl) (fun _ _ _ h => h) (Or.inl ⟨by rfl, ?_⟩) (by assumption) ?_
        rotate_left
        · (intro w hSw; (try dsimp only at hSw); (first | (go_simp; done) | (go_simp; with_reducible rfl)))
        simp only [Act.put, List.getElem_toArray, List.getElem_cons_succ, List.getElem_cons_zero, List.setIfInBounds_toArray, List.set_cons_zero, List.set_cons_succ]
        refine wpAnyH_ready (rs := [0, 6]) (by kernel_rfl) (by simp) ?_
        refine AllReadyH.cons rfl (fun K hK => ?_) (AllReadyH.cons rfl (fun K hK => ?_) AllReadyH.nil)
        · go_simp
          refine hK.out _ _ trivial (fun hHeld => ?_)
          clear hK K hHeld
          have HB1 := Lib.hid (show Below w.heap.size w ((w.alloc (.cells #[] 3)).drew) from (below_new w _).trans ((below_drewN _ 1).mono (by simp)))
          have HO1 := Lib.hid (show ((w.alloc (.cells #[] 3)).drew).ownsRow w.heap.size 3 1 (.slice (some ⟨w.heap.size, 0, none⟩) 0 0) 0 [] from owns_below (made_at w w.heap.size w.heap.size rfl (Nat.le_refl _)) (below_drewN _ 1))
          refine wpAnyH_ready (rs := [4, 6]) (by kernel_rfl) (by simp) ?_
          refine AllReadyH.cons rfl (fun K hK => ?_) (AllReadyH.cons rfl (fun K hK => ?_) AllReadyH.nil)
          · refine step_append_any (by rfl) _ _ _ (by rfl) w.heap.size 3 i0 (.int .i64 0) 1 8 Try.underlying24 hi hz0 hz1 hz2 rfl (by decide) _ _ _ (by rfl) HO1.out ⟨b, o, none⟩ k k ((xs.take k).map iv) ?e2 ?c1 (cells_list (fun i z hz => HTK.out _ HB1.out i z hz)) ?c2 ?c3 ?c4 ?c5 ?_
            case e2 => rfl
            case c1 => first | rfl | (simp; done) | (simp; omega)
            case c2 => intro u hu; first | (simp only [List.mem_map] at hu; obtain ⟨z, _, rfl⟩ := hu; rfl) | (simp at hu; subst hu; rfl)
            case c3 => unfold maxLen; omega
            case c4 => omega
            case c5 => exact HB1.out.size
            intro v2 w2 hown' hgrow
            have HO2 := Lib.hid (show w2.ownsRow w.heap.size 3 1 v2 k ((xs.take k).map iv) from by have h := hown'; simpa using h)
            have HB2 := Lib.hid (HB1.out.trans (below_grown hgrow (fun b hb => (owns_block HO1.out b hb).1) HB1.out.size))
            clear hown' hgrow
            refine hK.out _ _ trivial (fun hHeld => ?_)
            clear hK K hHeld
            refine wpAnyH_ready (rs := [6]) (by kernel_rfl) (by simp) ?_
            refine AllReadyH.cons rfl (fun K hK => ?_) AllReadyH.nil
            go_simp
            refine hK.out _ _ trivial (fun hHeld => ?_)
            clear hK K hHeld
            have HB2L := Lib.hid (HB2.out.trans ((below_new w2 (.cells #[.int .i64 x] 3)).mono HB2.out.size))
            have HO2L := Lib.hid (owns_below HO2.out (below_new w2 (.cells #[.int .i64 x] 3)))
            refine wpAnyH_ready (rs := [7]) (by kernel_rfl) (by simp) ?_
            refine AllReadyH.cons rfl (fun K hK => ?_) AllReadyH.nil
            refine step_append_any (by rfl) _ _ _ (by rfl) w.heap.size 3 i0 (.int .i64 0) 1 8 Try.underlying24 hi hz0 hz1 hz2 rfl (by decide) _ _ _ (by rfl) HO2L.out ⟨w2.heap.size, 0, none⟩ 1 1 ([.int .i64 x]) ?e2 ?c1 (fun j u hj => by match j, hj with | 0, hj => cases hj; exact (cell_one_new' w2 _ _) | j + 1, hj => simp at hj) ?c2 ?c3 ?c4 ?c5 ?_
            case e2 => rfl
            case c1 => first | rfl | (simp; done) | (simp; omega)
            case c2 => intro u hu; first | (simp only [List.mem_map] at hu; obtain ⟨z, _, rfl⟩ := hu; rfl) | (simp at hu; subst hu; rfl)
            case c3 => unfold maxLen; omega
            case c4 => omega
            case c5 => exact HB2L.out.size
            intro v3 w3 hown' hgrow
            have HO3 := Lib.hid (show w3.ownsRow w.heap.size 3 1 v3 (k + 1) ((xs.take k ++ [x]).map iv) from by have h := hown'; rw [List.map_append]; exact h)
            have HB3 := Lib.hid (HB2L.out.trans (below_grown hgrow (fun b hb => (owns_block HO2L.out b hb).1) HB2L.out.size))
            clear hown' hgrow
            refine hK.out _ _ trivial (fun hHeld => ?_)
            clear hK K hHeld
            refine wpAnyH_ready (rs := [11]) (by kernel_rfl) (by simp) ?_
            refine AllReadyH.cons rfl (fun K hK => ?_) AllReadyH.nil
            refine step_append_any (by rfl) _ _ _ (by rfl) w.heap.size 3 i0 (.int .i64 0) 1 8 Try.underlying24 hi hz0 hz1 hz2 rfl (by decide) _ _ _ (by rfl) HO3.out ⟨b, o, none⟩ (xs.length - k) 0 ((xs.drop k).map iv) ?e2 ?c1 (cells_list (fun i z hz => HDK0.out _ HB3.out i z hz)) ?c2 ?c3 ?c4 ?c5 ?_
            case e2 => rfl
            case c1 => first | rfl | (simp; done) | (simp; omega)
            case c2 => intro u hu; first | (simp only [List.mem_map] at hu; obtain ⟨z, _, rfl⟩ := hu; rfl) | (simp at hu; subst hu; rfl)
            case c3 => unfold maxLen; omega
            case c4 => omega
            case c5 => exact HB3.out.size
            intro v4 w4 hown' hgrow
            have HO4 := Lib.hid (show w4.ownsRow w.heap.size 3 1 v4 (putI xs x).length ((putI xs x).map iv) from by rw [HPL.out, HPM.out]; exact hown')
            have HB4 := Lib.hid (HB3.out.trans (below_grown hgrow (fun b hb => (owns_block HO3.out b hb).1) HB3.out.size))
            clear hown' hgrow
            refine hK.out _ _ trivial (fun hHeld => ?_)
            clear hK K hHeld
            refine wpAnyH_take (i := 12) (oi := _) (v := ?_) rfl (by kernel_rfl) (by kernel_rfl) (by kernel_rfl) (fun _ _ _ h => h) (Or.inl ⟨by rfl, ?_⟩) (by assumption) ?_
            rotate_left
            · (intro w hSw; (try dsimp only at hSw); (first | (go_simp; done) | (go_simp; with_reducible rfl)))
            simp only [Act.put, List.getElem_toArray, List.getElem_cons_succ, List.getElem_cons_zero, List.setIfInBounds_toArray, List.set_cons_zero, List.set_cons_succ]
            refine wpAnyH_done (by kernel_rfl) ?_ _
            refine NoPanic.normal ?_
            go_wp2_with fail
            go_ret
            exact ⟨_, rfl, owns_lower HO4.out hbase, HB4.out⟩
          · go_simp
            refine hK.out _ _ trivial (fun hHeld => ?_)
            clear hK K hHeld
            have HB1L := Lib.hid (show Below w.heap.size w (((w.alloc (.cells #[] 3)).alloc (.cells #[.int .i64 x] 3)).drew) from (below_new w (.cells #[] 3)).trans (((below_new _ (.cells #[.int .i64 x] 3)).trans ((below_drewN _ 1).mono (by simp))).mono (by simp)))
            have HO1L := Lib.hid (show (((w.alloc (.cells #[] 3)).alloc (.cells #[.int .i64 x] 3)).drew).ownsRow w.heap.size 3 1 (.slice (some ⟨w.heap.size, 0, none⟩) 0 0) 0 [] from owns_below (owns_below (made_at w w.heap.size w.heap.size rfl (Nat.le_refl _)) (below_new _ (.cells #[.int .i64 x] 3))) (below_drewN _ 1))
            have HLIT := Lib.hid (show (((w.alloc (.cells #[] 3)).alloc (.cells #[.int .i64 x] 3)).drew).heap[w.heap.size + 1]? = some (.cells #[.int .i64 x] 3) from heap_two w (.cells #[] 3) (.cells #[.int .i64 x] 3))
            refine wpAnyH_ready (rs := [4]) (by kernel_rfl) (by simp) ?_
            refine AllReadyH.cons rfl (fun K hK => ?_) AllReadyH.nil
            refine step_append_any (by rfl) _ _ _ (by rfl) w.heap.size 3 i0 (.int .i64 0) 1 8 Try.underlying24 hi hz0 hz1 hz2 rfl (by decide) _ _ _ (by rfl) HO1L.out ⟨b, o, none⟩ k k ((xs.take k).map iv) ?e2 ?c1 (cells_list (fun i z hz => HTK.out _ HB1L.out i z hz)) ?c2 ?c3 ?c4 ?c5 ?_
            case e2 => rfl
            case c1 => first | rfl | (simp; done) | (simp; omega)
            case c2 => intro u hu; first | (simp only [List.mem_map] at hu; obtain ⟨z, _, rfl⟩ := hu; rfl) | (simp at hu; subst hu; rfl)
            case c3 => unfold maxLen; omega
            case c4 => omega
            case c5 => exact HB1L.out.size
            intro v2 w2 hown' hgrow
            have HO2 := Lib.hid (show w2.ownsRow w.heap.size 3 1 v2 k ((xs.take k).map iv) from by have h := hown'; simpa using h)
            have HB2 := Lib.hid (HB1L.out.trans (below_grown hgrow (fun b hb => (owns_block HO1L.out b hb).1) HB1L.out.size))
            have HLIT2 := Lib.hid ((hgrow.block (w.heap.size + 1) (Array.getElem?_eq_some_iff.1 HLIT.out).1 (by intro e; have e2 : w.heap.size + 1 = w.heap.size := Option.some.inj e; omega)).trans HLIT.out)
            clear hown' hgrow
            refine hK.out _ _ trivial (fun hHeld => ?_)
            clear hK K hHeld
            refine wpAnyH_ready (rs := [7]) (by kernel_rfl) (by simp) ?_
            refine AllReadyH.cons rfl (fun K hK => ?_) AllReadyH.nil
            refine step_append_any (by rfl) _ _ _ (by rfl) w.heap.size 3 i0 (.int .i64 0) 1 8 Try.underlying24 hi hz0 hz1 hz2 rfl (by decide) _ _ _ (by rfl) HO2.out ⟨w.heap.size + 1, 0, none⟩ 1 1 ([.int .i64 x]) ?e2 ?c1 (fun j u hj => by match j, hj with | 0, hj => cases hj; exact (by have h := HLIT2.out; simp [World.cell?, Addr.add, h]) | j + 1, hj => simp at hj) ?c2 ?c3 ?c4 ?c5 ?_
            case e2 => rfl
            case c1 => first | rfl | (simp; done) | (simp; omega)
            case c2 => intro u hu; first | (simp only [List.mem_map] at hu; obtain ⟨z, _, rfl⟩ := hu; rfl) | (simp at hu; subst hu; rfl)
            case c3 => unfold maxLen; omega
            case c4 => omega
            case c5 => exact HB2.out.size
            intro v3 w3 hown' hgrow
            have HO3 := Lib.hid (show w3.ownsRow w.heap.size 3 1 v3 (k + 1) ((xs.take k ++ [x]).map iv) from by have h := hown'; rw [List.map_append]; exact h)
            have HB3 := Lib.hid (HB2.out.trans (below_grown hgrow (fun b hb => (owns_block HO2.out b hb).1) HB2.out.size))
            clear hown' hgrow
            refine hK.out _ _ trivial (fun hHeld => ?_)
            clear hK K hHeld
            refine wpAnyH_ready (rs := [11]) (by kernel_rfl) (by simp) ?_
            refine AllReadyH.cons rfl (fun K hK => ?_) AllReadyH.nil
            refine step_append_any (by rfl) _ _ _ (by rfl) w.heap.size 3 i0 (.int .i64 0) 1 8 Try.underlying24 hi hz0 hz1 hz2 rfl (by decide) _ _ _ (by rfl) HO3.out ⟨b, o, none⟩ (xs.length - k) 0 ((xs.drop k).map iv) ?e2 ?c1 (cells_list (fun i z hz => HDK0.out _ HB3.out i z hz)) ?c2 ?c3 ?c4 ?c5 ?_
            case e2 => rfl
            case c1 => first | rfl | (simp; done) | (simp; omega)
            case c2 => intro u hu; first | (simp only [List.mem_map] at hu; obtain ⟨z, _, rfl⟩ := hu; rfl) | (simp at hu; subst hu; rfl)
            case c3 => unfold maxLen; omega
            case c4 => omega
            case c5 => exact HB3.out.size
            intro v4 w4 hown' hgrow
            have HO4 := Lib.hid (show w4.ownsRow w.heap.size 3 1 v4 (putI xs x).length ((putI xs x).map iv) from by rw [HPL.out, HPM.out]; exact hown')
            have HB4 := Lib.hid (HB3.out.trans (below_grown hgrow (fun b hb => (owns_block HO3.out b hb).1) HB3.out.size))
            clear hown' hgrow
            refine hK.out _ _ trivial (fun hHeld => ?_)
            clear hK K hHeld
            refine wpAnyH_take (i := 12) (oi := _) (v := ?_) rfl (by kernel_rfl) (by kernel_rfl) (by kernel_rfl) (fun _ _ _ h => h) (Or.inl ⟨by rfl, ?_⟩) (by assumption) ?_
            rotate_left
            · (intro w hSw; (try dsimp only at hSw); (first | (go_simp; done) | (go_simp; with_reducible rfl)))
            simp only [Act.put, List.getElem_toArray, List.getElem_cons_succ, List.getElem_cons_zero, List.setIfInBounds_toArray, List.set_cons_zero, List.set_cons_succ]
            refine wpAnyH_done (by kernel_rfl) ?_ _
            refine NoPanic.normal ?_
            go_wp2_with fail
            go_ret
            exact ⟨_, rfl, owns_lower HO4.out hbase, HB4.out⟩
        · go_simp
          refine hK.out _ _ trivial (fun hHeld => ?_)
          clear hK K hHeld
          refine wpAnyH_ready (rs := [0]) (by kernel_rfl) (by simp) ?_
          refine AllReadyH.cons rfl (fun K hK => ?_) AllReadyH.nil
          go_simp
          refine hK.out _ _ trivial (fun hHeld => ?_)
          clear hK K hHeld
          have HB1L := Lib.hid (show Below w.heap.size w (((w.alloc (.cells #[.int .i64 x] 3)).alloc (.cells #[] 3)).drew) from (below_new w (.cells #[.int .i64 x] 3)).trans (((below_new _ (.cells #[] 3)).trans ((below_drewN _ 1).mono (by simp))).mono (by simp)))
          have HO1L := Lib.hid (show (((w.alloc (.cells #[.int .i64 x] 3)).alloc (.cells #[] 3)).drew).ownsRow w.heap.size 3 1 (.slice (some ⟨w.heap.size + 1, 0, none⟩) 0 0) 0 [] from owns_below (made_at (w.alloc (.cells #[.int .i64 x] 3)) w.heap.size (w.heap.size + 1) (by simp) (Nat.le_succ _)) (below_drewN _ 1))
          have HLIT := Lib.hid (show (((w.alloc (.cells #[.int .i64 x] 3)).alloc (.cells #[] 3)).drew).heap[w.heap.size]? = some (.cells #[.int .i64 x] 3) from ((below_new (w.alloc (.cells #[.int .i64 x] 3)) (.cells #[] 3)).block w.heap.size (by simp)).trans (MapKept.heap_alloc w (.cells #[.int .i64 x] 3)).1)
          refine wpAnyH_ready (rs := [4]) (by kernel_rfl) (by simp) ?_
          refine AllReadyH.cons rfl (fun K hK => ?_) AllReadyH.nil
          refine step_append_any (by rfl) _ _ _ (by rfl) w.heap.size 3 i0 (.int .i64 0) 1 8 Try.underlying24 hi hz0 hz1 hz2 rfl (by decide) _ _ _ (by rfl) HO1L.out ⟨b, o, none⟩ k k ((xs.take k).map iv) ?e2 ?c1 (cells_list (fun i z hz => HTK.out _ HB1L.out i z hz)) ?c2 ?c3 ?c4 ?c5 ?_
          case e2 => rfl
          case c1 => first | rfl | (simp; done) | (simp; omega)
          case c2 => intro u hu; first | (simp only [List.mem_map] at hu; obtain ⟨z, _, rfl⟩ := hu; rfl) | (simp at hu; subst hu; rfl)
          case c3 => unfold maxLen; omega
          case c4 => omega
          case c5 => exact HB1L.out.size
          intro v2 w2 hown' hgrow
          have HO2 := Lib.hid (show w2.ownsRow w.heap.size 3 1 v2 k ((xs.take k).map iv) from by have h := hown'; simpa using h)
          have HB2 := Lib.hid (HB1L.out.trans (below_grown hgrow (fun b hb => (owns_block HO1L.out b hb).1) HB1L.out.size))
          have HLIT2 := Lib.hid ((hgrow.block w.heap.size (Array.getElem?_eq_some_iff.1 HLIT.out).1 (by intro e; have e2 : w.heap.size = w.heap.size + 1 := Option.some.inj e; omega)).trans HLIT.out)
          clear hown' hgrow
          refine hK.out _ _ trivial (fun hHeld => ?_)
          clear hK K hHeld
          refine wpAnyH_ready (rs := [7]) (by kernel_rfl) (by simp) ?_
          refine AllReadyH.cons rfl (fun K hK => ?_) AllReadyH.nil
          refine step_append_any (by rfl) _ _ _ (by rfl) w.heap.size 3 i0 (.int .i64 0) 1 8 Try.underlying24 hi hz0 hz1 hz2 rfl (by decide) _ _ _ (by rfl) HO2.out ⟨w.heap.size, 0, none⟩ 1 1 ([.int .i64 x]) ?e2 ?c1 (fun j u hj => by match j, hj with | 0, hj => cases hj; exact (by have h := HLIT2.out; simp [World.cell?, Addr.add, h]) | j + 1, hj => simp at hj) ?c2 ?c3 ?c4 ?c5 ?_
          case e2 => rfl
          case c1 => first | rfl | (simp; done) | (simp; omega)
          case c2 => intro u hu; first | (simp only [List.mem_map] at hu; obtain ⟨z, _, rfl⟩ := hu; rfl) | (simp at hu; subst hu; rfl)
          case c3 => unfold maxLen; omega
          case c4 => omega
          case c5 => exact HB2.out.size
          intro v3 w3 hown' hgrow
          have HO3 := Lib.hid (show w3.ownsRow w.heap.size 3 1 v3 (k + 1) ((xs.take k ++ [x]).map iv) from by have h := hown'; rw [List.map_append]; exact h)
          have HB3 := Lib.hid (HB2.out.trans (below_grown hgrow (fun b hb => (owns_block HO2.out b hb).1) HB2.out.size))
          clear hown' hgrow
          refine hK.out _ _ trivial (fun hHeld => ?_)
          clear hK K hHeld
          refine wpAnyH_ready (rs := [11]) (by kernel_rfl) (by simp) ?_
          refine AllReadyH.cons rfl (fun K hK => ?_) AllReadyH.nil
          refine step_append_any (by rfl) _ _ _ (by rfl) w.heap.size 3 i0 (.int .i64 0) 1 8 Try.underlying24 hi hz0 hz1 hz2 rfl (by decide) _ _ _ (by rfl) HO3.out ⟨b, o, none⟩ (xs.length - k) 0 ((xs.drop k).map iv) ?e2 ?c1 (cells_list (fun i z hz => HDK0.out _ HB3.out i z hz)) ?c2 ?c3 ?c4 ?c5 ?_
          case e2 => rfl
          case c1 => first | rfl | (simp; done) | (simp; omega)
          case c2 => intro u hu; first | (simp only [List.mem_map] at hu; obtain ⟨z, _, rfl⟩ := hu; rfl) | (simp at hu; subst hu; rfl)
          case c3 => unfold maxLen; omega
          case c4 => omega
          case c5 => exact HB3.out.size
          intro v4 w4 hown' hgrow
          have HO4 := Lib.hid (show w4.ownsRow w.heap.size 3 1 v4 (putI xs x).length ((putI xs x).map iv) from by rw [HPL.out, HPM.out]; exact hown')
          have HB4 := Lib.hid (HB3.out.trans (below_grown hgrow (fun b hb => (owns_block HO3.out b hb).1) HB3.out.size))
          clear hown' hgrow
          refine hK.out _ _ trivial (fun hHeld => ?_)
          clear hK K hHeld
          refine wpAnyH_take (i := 12) (oi := _) (v := ?_) rfl (by kernel_rfl) (by kernel_rfl) (by kernel_rfl) (fun _ _ _ h => h) (Or.inl ⟨by rfl, ?_⟩) (by assumption) ?_
          rotate_left
          · (intro w hSw; (try dsimp only at hSw); (first | (go_simp; done) | (go_simp; with_reducible rfl)))
          simp only [Act.put, List.getElem_toArray, List.getElem_cons_succ, List.getElem_cons_zero, List.setIfInBounds_toArray, List.set_cons_zero, List.set_cons_succ]
          refine wpAnyH_done (by kernel_rfl) ?_ _
          refine NoPanic.normal ?_
          go_wp2_with fail
          go_ret
          exact ⟨_, rfl, owns_lower HO4.out hbase, HB4.out⟩
      · go_wp2_with fail
        refine wp_region_noPanic ?_
        refine wp_region_held_drew (S := fun _ => True) (by kernel_rfl) trivial (fun hHeld => ?_)
        refine wpAnyH_take (i := 1) (oi := _) (v := ?_) rfl (by kernel_rfl) (by kernel_rfl) (by kernel_rfl) (fun _ _ _ h => h) (Or.inl ⟨by rfl, ?_⟩) (by assumption) ?_
        rotate_left
        · (intro w hSw; (try dsimp only at hSw); (first | (go_simp; done) | (go_simp; with_reducible rfl)))
        simp only [Act.put, List.getElem_toArray, List.getElem_cons_succ, List.getElem_cons_zero, List.setIfInBounds_toArray, List.set_cons_zero, List.set_cons_succ]
        refine wpAnyH_take (i := 2) (oi := _) (v := ?_) rfl (by kernel_rfl) (by kernel_rfl) (by kernel_rfl) (fun _ _ _ h => h) (Or.inl ⟨by rfl, ?_⟩) (by assumption) ?_
        rotate_left
        · (intro w hSw; (try dsimp only at hSw); (first | (go_simp; done) | (go_simp; with_reducible rfl)))
        simp only [Act.put, List.getElem_toArray, List.getElem_cons_succ, List.getElem_cons_zero, List.setIfInBounds_toArray, List.set_cons_zero, List.set_cons_succ]
        refine wpAnyH_take (i := 3) (oi := _) (v := ?_) rfl (by kernel_rfl) (by kernel_rfl) (by kernel_rfl) (fun _ _ _ h => h) (Or.inl ⟨by rfl, ?_⟩) (by assumption) ?_
        rotate_left
        · (intro w hSw; (try dsimp only at hSw); (first | (go_simp; done) | (go_simp; with_reducible rfl)))
        simp only [Act.put, List.getElem_toArray, List.getElem_cons_succ, List.getElem_cons_zero, List.setIfInBounds_toArray, List.set_cons_zero, List.set_cons_succ]
        refine wpAnyH_take (i := 5) (oi := _) (v := ?_) rfl (by kernel_rfl) (by kernel_rfl) (by kernel_rfl) (fun _ _ _ h => h) (Or.inl ⟨by rfl, ?_⟩) (by assumption) ?_
        rotate_left
        · (intro w hSw; (try dsimp only at hSw); (first | (go_simp; done) | (go_simp; with_reducible rfl)))
        simp only [Act.put, List.getElem_toArray, List.getElem_cons_succ, List.getElem_cons_zero, List.setIfInBounds_toArray, List.set_cons_zero, List.set_cons_succ]
        refine wpAnyH_take (i := 8) (oi := _) (v := ?_) rfl (by kernel_rfl) (by kernel_rfl) (by kernel_rfl) (fun _ _ _ h => h) (Or.inl ⟨by rfl, ?_⟩) (by assumption) ?_
        rotate_left
        · (intro w hSw; (try dsimp only at hSw); (first | (go_simp; done) | (go_simp; with_reducible rfl)))
        simp only [Act.put, List.getElem_toArray, List.getElem_cons_succ, List.getElem_cons_zero, List.setIfInBounds_toArray, List.set_cons_zero, List.set_cons_succ]
        refine wpAnyH_take (i := 9) (oi := _) (v := ?_) rfl (by kernel_rfl) (by kernel_rfl) (by kernel_rfl) (fun _ _ _ h => h) (Or.inl ⟨by rfl, ?_⟩) (by assumption) ?_
        rotate_left
        · (intro w hSw; (try dsimp only at hSw); (first | (go_simp; done) | (go_simp; with_reducible rfl)))
        simp only [Act.put, List.getElem_toArray, List.getElem_cons_succ, List.getElem_cons_zero, List.setIfInBounds_toArray, List.set_cons_zero, List.set_cons_succ]
        refine wpAnyH_take (i := 10) (oi := _) (v := ?_) rfl (by kernel_rfl) (by kernel_rfl) (by kernel_rfl) (fun _ _ _ h => h) (Or.inl ⟨by rfl, ?_⟩) (by assumption) ?_
        rotate_left
        · (intro w hSw; (try dsimp only at hSw); (first | (go_simp; done) | (go_simp; with_reducible rfl)))
        simp only [Act.put, List.getElem_toArray, List.getElem_cons_succ, List.getElem_cons_zero, List.setIfInBounds_toArray, List.set_cons_zero, List.set_cons_succ]
        refine wpAnyH_ready (rs := [0, 6]) (by kernel_rfl) (by simp) ?_
        refine AllReadyH.cons rfl (fun K hK => ?_) (AllReadyH.cons rfl (fun K hK => ?_) AllReadyH.nil)
        · go_simp
          refine hK.out _ _ trivial (fun hHeld => ?_)
          clear hK K hHeld
          have HB1 := Lib.hid (show Below w.heap.size w ((w.alloc (.cells #[] 3)).drew) from (below_new w _).trans ((below_drewN _ 1).mono (by simp)))
          have HO1 := Lib.hid (show ((w.alloc (.cells #[] 3)).drew).ownsRow w.heap.size 3 1 (.slice (some ⟨w.heap.size, 0, none⟩) 0 0) 0 [] from owns_below (made_at w w.heap.size w.heap.size rfl (Nat.le_refl _)) (below_drewN _ 1))
          refine wpAnyH_ready (rs := [4, 6]) (by kernel_rfl) (by simp) ?_
          refine AllReadyH.cons rfl (fun K hK => ?_) (AllReadyH.cons rfl (fun K hK => ?_) AllReadyH.nil)
          · refine step_append_any (by rfl) _ _ _ (by rfl) w.heap.size 3 i0 (.int .i64 0) 1 8 Try.underlying24 hi hz0 hz1 hz2 rfl (by decide) _ _ _ (by rfl) HO1.out ⟨b, o, none⟩ k c ((xs.take k).map iv) ?e2 ?c1 (cells_list (fun i z hz => HTK.out _ HB1.out i z hz)) ?c2 ?c3 ?c4 ?c5 ?_
            case e2 => rfl
            case c1 => first | rfl | (simp; done) | (simp; omega)
            case c2 => intro u hu; first | (simp only [List.mem_map] at hu; obtain ⟨z, _, rfl⟩ := hu; rfl) | (simp at hu; subst hu; rfl)
            case c3 => unfold maxLen; omega
            case c4 => omega
            case c5 => exact HB1.out.size
            intro v2 w2 hown' hgrow
            have HO2 := Lib.hid (show w2.ownsRow w.heap.size 3 1 v2 k ((xs.take k).map iv) from by have h := hown'; simpa using h)
            have HB2 := Lib.hid (HB1.out.trans (below_grown hgrow (fun b hb => (owns_block HO1.out b hb).1) HB1.out.size))
            clear hown' hgrow
            refine hK.out _ _ trivial (fun hHeld => ?_)
            clear hK K hHeld
            refine wpAnyH_ready (rs := [6]) (by kernel_rfl) (by simp) ?_
            refine AllReadyH.cons rfl (fun K hK => ?_) AllReadyH.nil
            go_simp
            refine hK.out _ _ trivial (fun hHeld => ?_)
            clear hK K hHeld
            have HB2L := Lib.hid (HB2.out.trans ((below_new w2 (.cells #[.int .i64 x] 3)).mono HB2.out.size))
            have HO2L := Lib.hid (owns_below HO2.out (below_new w2 (.cells #[.int .i64 x] 3)))
            refine wpAnyH_ready (rs := [7]) (by kernel_rfl) (by simp) ?_
            refine AllReadyH.cons rfl (fun K hK => ?_) AllReadyH.nil
            refine step_append_any (by rfl) _ _ _ (by rfl) w.heap.size 3 i0 (.int .i64 0) 1 8 Try.underlying24 hi hz0 hz1 hz2 rfl (by decide) _ _ _ (by rfl) HO2L.out ⟨w2.heap.size, 0, none⟩ 1 1 ([.int .i64 x]) ?e2 ?c1 (fun j u hj => by match j, hj with | 0, hj => cases hj; exact (cell_one_new' w2 _ _) | j + 1, hj => simp at hj) ?c2 ?c3 ?c4 ?c5 ?_
            case e2 => rfl
            case c1 => first | rfl | (simp; done) | (simp; omega)
            case c2 => intro u hu; first | (simp only [List.mem_map] at hu; obtain ⟨z, _, rfl⟩ := hu; rfl) | (simp at hu; subst hu; rfl)
            case c3 => unfold maxLen; omega
            case c4 => omega
            case c5 => exact HB2L.out.size
            intro v3 w3 hown' hgrow
            have HO3 := Lib.hid (show w3.ownsRow w.heap.size 3 1 v3 (k + 1) ((xs.take k ++ [x]).map iv) from by have h := hown'; rw [List.map_append]; exact h)
            have HB3 := Lib.hid (HB2L.out.trans (below_grown hgrow (fun b hb => (owns_block HO2L.out b hb).1) HB2L.out.size))
            clear hown' hgrow
            refine hK.out _ _ trivial (fun hHeld => ?_)
            clear hK K hHeld
            refine wpAnyH_ready (rs := [11]) (by kernel_rfl) (by simp) ?_
            refine AllReadyH.cons rfl (fun K hK => ?_) AllReadyH.nil
            refine step_append_any (by rfl) _ _ _ (by rfl) w.heap.size 3 i0 (.int .i64 0) 1 8 Try.underlying24 hi hz0 hz1 hz2 rfl (by decide) _ _ _ (by rfl) HO3.out ⟨b, o + k, none⟩ (xs.length - k) (c - k) ((xs.drop k).map iv) ?e2 ?c1 (cells_list (fun i z hz => HDK.out _ HB3.out i z hz)) ?c2 ?c3 ?c4 ?c5 ?_
            case e2 => rfl
            case c1 => first | rfl | (simp; done) | (simp; omega)
            case c2 => intro u hu; first | (simp only [List.mem_map] at hu; obtain ⟨z, _, rfl⟩ := hu; rfl) | (simp at hu; subst hu; rfl)
            case c3 => unfold maxLen; omega
            case c4 => omega
            case c5 => exact HB3.out.size
            intro v4 w4 hown' hgrow
            have HO4 := Lib.hid (show w4.ownsRow w.heap.size 3 1 v4 (putI xs x).length ((putI xs x).map iv) from by rw [HPL.out, HPM.out]; exact hown')
            have HB4 := Lib.hid (HB3.out.trans (below_grown hgrow (fun b hb => (owns_block HO3.out b hb).1) HB3.out.size))
            clear hown' hgrow
            refine hK.out _ _ trivial (fun hHeld => ?_)
            clear hK K hHeld
            refine wpAnyH_take (i := 12) (oi := _) (v := ?_) rfl (by kernel_rfl) (by kernel_rfl) (by kernel_rfl) (fun _ _ _ h => h) (Or.inl ⟨by rfl, ?_⟩) (by assumption) ?_
            rotate_left
            · (intro w hSw; (try dsimp only at hSw); (first | (go_simp; done) | (go_simp; with_reducible rfl)))
            simp only [Act.put, List.getElem_toArray, List.getElem_cons_succ, List.getElem_cons_zero, List.setIfInBounds_toArray, List.set_cons_zero, List.set_cons_succ]
            refine wpAnyH_done (by kernel_rfl) ?_ _
            refine NoPanic.normal ?_
            go_wp2_with fail
            go_ret
            exact ⟨_, rfl, owns_lower HO4.out hbase, HB4.out⟩
          · go_simp
            refine hK.out _ _ trivial (fun hHeld => ?_)
            clear hK K hHeld
            have HB1L := Lib.hid (show Below w.heap.size w (((w.alloc (.cells #[] 3)).alloc (.cells #[.int .i64 x] 3)).drew) from (below_new w (.cells #[] 3)).trans (((below_new _ (.cells #[.int .i64 x] 3)).trans ((below_drewN _ 1).mono (by simp))).mono (by simp)))
            have HO1L := Lib.hid (show (((w.alloc (.cells #[] 3)).alloc (.cells #[.int .i64 x] 3)).drew).ownsRow w.heap.size 3 1 (.slice (some ⟨w.heap.size, 0, none⟩) 0 0) 0 [] from owns_below (owns_below (made_at w w.heap.size w.heap.size rfl (Nat.le_refl _)) (below_new _ (.cells #[.int .i64 x] 3))) (below_drewN _ 1))
            have HLIT := Lib.hid (show (((w.alloc (.cells #[] 3)).alloc (.cells #[.int .i64 x] 3)).drew).heap[w.heap.size + 1]? = some (.cells #[.int .i64 x] 3) from heap_two w (.cells #[] 3) (.cells #[.int .i64 x] 3))
            refine wpAnyH_ready (rs := [4]) (by kernel_rfl) (by simp) ?_
            refine AllReadyH.cons rfl (fun K hK => ?_) AllReadyH.nil
            refine step_append_any (by rfl) _ _ _ (by rfl) w.heap.size 3 i0 (.int .i64 0) 1 8 Try.underlying24 hi hz0 hz1 hz2 rfl (by decide) _ _ _ (by rfl) HO1L.out ⟨b, o, none⟩ k c ((xs.take k).map iv) ?e2 ?c1 (cells_list (fun i z hz => HTK.out _ HB1L.out i z hz)) ?c2 ?c3 ?c4 ?c5 ?_
            case e2 => rfl
            case c1 => first | rfl | (simp; done) | (simp; omega)
            case c2 => intro u hu; first | (simp only [List.mem_map] at hu; obtain ⟨z, _, rfl⟩ := hu; rfl) | (simp at hu; subst hu; rfl)
            case c3 => unfold maxLen; omega
            case c4 => omega
            case c5 => exact HB1L.out.size
            intro v2 w2 hown' hgrow
            have HO2 := Lib.hid (show w2.ownsRow w.heap.size 3 1 v2 k ((xs.take k).map iv) from by have h := hown'; simpa using h)
            have HB2 := Lib.hid (HB1L.out.trans (below_grown hgrow (fun b hb => (owns_block HO1L.out b hb).1) HB1L.out.size))
            have HLIT2 := Lib.hid ((hgrow.block (w.heap.size + 1) (Array.getElem?_eq_some_iff.1 HLIT.out).1 (by intro e; have e2 : w.heap.size + 1 = w.heap.size := Option.some.inj e; omega)).trans HLIT.out)
            clear hown' hgrow
            refine hK.out _ _ trivial (fun hHeld => ?_)
            clear hK K hHeld
            refine wpAnyH_ready (rs := [7]) (by kernel_rfl) (by simp) ?_
            refine AllReadyH.cons rfl (fun K hK => ?_) AllReadyH.nil
            refine step_append_any (by rfl) _ _ _ (by rfl) w.heap.size 3 i0 (.int .i64 0) 1 8 Try.underlying24 hi hz0 hz1 hz2 rfl (by decide) _ _ _ (by rfl) HO2.out ⟨w.heap.size + 1, 0, none⟩ 1 1 ([.int .i64 x]) ?e2 ?c1 (fun j u hj => by match j, hj with | 0, hj => cases hj; exact (by have h := HLIT2.out; simp [World.cell?, Addr.add, h]) | j + 1, hj => simp at hj) ?c2 ?c3 ?c4 ?c5 ?_
            case e2 => rfl
            case c1 => first | rfl | (simp; done) | (simp; omega)
            case c2 => intro u hu; first | (simp only [List.mem_map] at hu; obtain ⟨z, _, rfl⟩ := hu; rfl) | (simp at hu; subst hu; rfl)
            case c3 => unfold maxLen; omega
            case c4 => omega
            case c5 => exact HB2.out.size
            intro v3 w3 hown' hgrow
            have HO3 := Lib.hid (show w3.ownsRow w.heap.size 3 1 v3 (k + 1) ((xs.take k ++ [x]).map iv) from by have h := hown'; rw [List.map_append]; exact h)
            have HB3 := Lib.hid (HB2.out.trans (below_grown hgrow (fun b hb => (owns_block HO2.out b hb).1) HB2.out.size))
            clear hown' hgrow
            refine hK.out _ _ trivial (fun hHeld => ?_)
            clear hK K hHeld
            refine wpAnyH_ready (rs := [11]) (by kernel_rfl) (by simp) ?_
            refine AllReadyH.cons rfl (fun K hK => ?_) AllReadyH.nil
            refine step_append_any (by rfl) _ _ _ (by rfl) w.heap.size 3 i0 (.int .i64 0) 1 8 Try.underlying24 hi hz0 hz1 hz2 rfl (by decide) _ _ _ (by rfl) HO3.out ⟨b, o + k, none⟩ (xs.length - k) (c - k) ((xs.drop k).map iv) ?e2 ?c1 (cells_list (fun i z hz => HDK.out _ HB3.out i z hz)) ?c2 ?c3 ?c4 ?c5 ?_
            case e2 => rfl
            case c1 => first | rfl | (simp; done) | (simp; omega)
            case c2 => intro u hu; first | (simp only [List.mem_map] at hu; obtain ⟨z, _, rfl⟩ := hu; rfl) | (simp at hu; subst hu; rfl)
            case c3 => unfold maxLen; omega
            case c4 => omega
            case c5 => exact HB3.out.size
            intro v4 w4 hown' hgrow
            have HO4 := Lib.hid (show w4.ownsRow w.heap.size 3 1 v4 (putI xs x).length ((putI xs x).map iv) from by rw [HPL.out, HPM.out]; exact hown')
            have HB4 := Lib.hid (HB3.out.trans (below_grown hgrow (fun b hb => (owns_block HO3.out b hb).1) HB3.out.size))
            clear hown' hgrow
            refine hK.out _ _ trivial (fun hHeld => ?_)
            clear hK K hHeld
            refine wpAnyH_take (i := 12) (oi := _) (v := ?_) rfl (by kernel_rfl) (by kernel_rfl) (by kernel_rfl) (fun _ _ _ h => h) (Or.inl ⟨by rfl, ?_⟩) (by assumption) ?_
            rotate_left
            · (intro w hSw; (try dsimp only at hSw); (first | (go_simp; done) | (go_simp; with_reducible rfl)))
            simp only [Act.put, List.getElem_toArray, List.getElem_cons_succ, List.getElem_cons_zero, List.setIfInBounds_toArray, List.set_cons_zero, List.set_cons_succ]
            refine wpAnyH_done (by kernel_rfl) ?_ _
            refine NoPanic.normal ?_
            go_wp2_with fail
            go_ret
            exact ⟨_, rfl, owns_lower HO4.out hbase, HB4.out⟩
        · go_simp
          refine hK.out _ _ trivial (fun hHeld => ?_)
          clear hK K hHeld
          refine wpAnyH_ready (rs := [0]) (by kernel_rfl) (by simp) ?_
          refine AllReadyH.cons rfl (fun K hK => ?_) AllReadyH.nil
          go_simp
          refine hK.out _ _ trivial (fun hHeld => ?_)
          clear hK K hHeld
          have HB1L := Lib.hid (show Below w.heap.size w (((w.alloc (.cells #[.int .i64 x] 3)).alloc (.cells #[] 3)).drew) from (below_new w (.cells #[.int .i64 x] 3)).trans (((below_new _ (.cells #[] 3)).trans ((below_drewN _ 1).mono (by simp))).mono (by simp)))
          have HO1L := Lib.hid (show (((w.alloc (.cells #[.int .i64 x] 3)).alloc (.cells #[] 3)).drew).ownsRow w.heap.size 3 1 (.slice (some ⟨w.heap.size + 1, 0, none⟩) 0 0) 0 [] from owns_below (made_at (w.alloc (.cells #[.int .i64 x] 3)) w.heap.size (w.heap.size + 1) (by simp) (Nat.le_succ _)) (below_drewN _ 1))
          have HLIT := Lib.hid (show (((w.alloc (.cells #[.int .i64 x] 3)).alloc (.cells #[] 3)).drew).heap[w.heap.size]? = some (.cells #[.int .i64 x] 3) from ((below_new (w.alloc (.cells #[.int .i64 x] 3)) (.cells #[] 3)).block w.heap.size (by simp)).trans (MapKept.heap_alloc w (.cells #[.int .i64 x] 3)).1)
          refine wpAnyH_ready (rs := [4]) (by kernel_rfl) (by simp) ?_
          refine AllReadyH.cons rfl (fun K hK => ?_) AllReadyH.nil
          refine step_append_any (by rfl) _ _ _ (by rfl) w.heap.size 3 i0 (.int .i64 0) 1 8 Try.underlying24 hi hz0 hz1 hz2 rfl (by decide) _ _ _ (by rfl) HO1L.out ⟨b, o, none⟩ k c ((xs.take k).map iv) ?e2 ?c1 (cells_list (fun i z hz => HTK.out _ HB1L.out i z hz)) ?c2 ?c3 ?c4 ?c5 ?_
          case e2 => rfl
          case c1 => first | rfl | (simp; done) | (simp; omega)
          case c2 => intro u hu; first | (simp only [List.mem_map] at hu; obtain ⟨z, _, rfl⟩ := hu; rfl) | (simp at hu; subst hu; rfl)
          case c3 => unfold maxLen; omega
          case c4 => omega
          case c5 => exact HB1L.out.size
          intro v2 w2 hown' hgrow
          have HO2 := Lib.hid (show w2.ownsRow w.heap.size 3 1 v2 k ((xs.take k).map iv) from by have h := hown'; simpa using h)
          have HB2 := Lib.hid (HB1L.out.trans (below_grown hgrow (fun b hb => (owns_block HO1L.out b hb).1) HB1L.out.size))
          have HLIT2 := Lib.hid ((hgrow.block w.heap.size (Array.getElem?_eq_some_iff.1 HLIT.out).1 (by intro e; have e2 : w.heap.size = w.heap.size + 1 := Option.some.inj e; omega)).trans HLIT.out)
          clear hown' hgrow
          refine hK.out _ _ trivial (fun hHeld => ?_)
          clear hK K hHeld
          refine wpAnyH_ready (rs := [7]) (by kernel_rfl) (by simp) ?_
          refine AllReadyH.cons rfl (fun K hK => ?_) AllReadyH.nil
          refine step_append_any (by rfl) _ _ _ (by rfl) w.heap.size 3 i0 (.int .i64 0) 1 8 Try.underlying24 hi hz0 hz1 hz2 rfl (by decide) _ _ _ (by rfl) HO2.out ⟨w.heap.size, 0, none⟩ 1 1 ([.int .i64 x]) ?e2 ?c1 (fun j u hj => by match j, hj with | 0, hj => cases hj; exact (by have h := HLIT2.out; simp [World.cell?, Addr.add, h]) | j + 1, hj => simp at hj) ?c2 ?c3 ?c4 ?c5 ?_
          case e2 => rfl
          case c1 => first | rfl | (simp; done) | (simp; omega)
          case c2 => intro u hu; first | (simp only [List.mem_map] at hu; obtain ⟨z, _, rfl⟩ := hu; rfl) | (simp at hu; subst hu; rfl)
          case c3 => unfold maxLen; omega
          case c4 => omega
          case c5 => exact HB2.out.size
          intro v3 w3 hown' hgrow
          have HO3 := Lib.hid (show w3.ownsRow w.heap.size 3 1 v3 (k + 1) ((xs.take k ++ [x]).map iv) from by have h := hown'; rw [List.map_append]; exact h)
          have HB3 := Lib.hid (HB2.out.trans (below_grown hgrow (fun b hb => (owns_block HO2.out b hb).1) HB2.out.size))
          clear hown' hgrow
          refine hK.out _ _ trivial (fun hHeld => ?_)
          clear hK K hHeld
          refine wpAnyH_ready (rs := [11]) (by kernel_rfl) (by simp) ?_
          refine AllReadyH.cons rfl (fun K hK => ?_) AllReadyH.nil
          refine step_append_any (by rfl) _ _ _ (by rfl) w.heap.size 3 i0 (.int .i64 0) 1 8 Try.underlying24 hi hz0 hz1 hz2 rfl (by decide) _ _ _ (by rfl) HO3.out ⟨b, o + k, none⟩ (xs.length - k) (c - k) ((xs.drop k).map iv) ?e2 ?c1 (cells_list (fun i z hz => HDK.out _ HB3.out i z hz)) ?c2 ?c3 ?c4 ?c5 ?_
          case e2 => rfl
          case c1 => first | rfl | (simp; done) | (simp; omega)
          case c2 => intro u hu; first | (simp only [List.mem_map] at hu; obtain ⟨z, _, rfl⟩ := hu; rfl) | (simp at hu; subst hu; rfl)
          case c3 => unfold maxLen; omega
          case c4 => omega
          case c5 => exact HB3.out.size
          intro v4 w4 hown' hgrow
          have HO4 := Lib.hid (show w4.ownsRow w.heap.size 3 1 v4 (putI xs x).length ((putI xs x).map iv) from by rw [HPL.out, HPM.out]; exact hown')
          have HB4 := Lib.hid (HB3.out.trans (below_grown hgrow (fun b hb => (owns_block HO3.out b hb).1) HB3.out.size))
          clear hown' hgrow
          refine hK.out _ _ trivial (fun hHeld => ?_)
          clear hK K hHeld
          refine wpAnyH_take (i := 12) (oi := _) (v := ?_) rfl (by kernel_rfl) (by kernel_rfl) (by kernel_rfl) (fun _ _ _ h => h) (Or.inl ⟨by rfl, ?_⟩) (by assumption) ?_
          rotate_left
          · (intro w hSw; (try dsimp only at hSw); (first | (go_simp; done) | (go_simp; with_reducible rfl)))
          simp only [Act.put, List.getElem_toArray, List.getElem_cons_succ, List.getElem_cons_zero, List.setIfInBounds_toArray, List.set_cons_zero, List.set_cons_succ]
          refine wpAnyH_done (by kernel_rfl) ?_ _
          refine NoPanic.normal ?_
          go_wp2_with fail
          go_ret
          exact ⟨_, rfl, owns_lower HO4.out hbase, HB4.out⟩
end Go.Proofs.Ytebahfbegeoamab
