/-
  What is proved: the contract of the model's table of meetings. Conditions: valid walkers.
-/
import Derived.Test.YtiokgnabiidlbaaDoorNeh
import Derived.Test.YtiokgnabiidlbaaDoorNec
import Derived.Deep.AppendLies
namespace Go.Proofs.YtiokgnabiidlbaaDoor
open Go.RowKit
set_option linter.unusedVariables false
set_option linter.unusedSimpArgs false

/-- two values do not lie in one block -/
def Sep (v u : Value) : Prop := ∀ b, v.ownBlock = some b → u.ownBlock = some b → False
theorem Sep.swap {v u : Value} (h : Sep v u) : Sep u v := fun b h1 h2 => h b h2 h1
/-- a change of the block of another list leaves a list of lists alone -/
theorem ownL_sep {base base2 : Nat} {u v : Value} {xss yss : List (List Int)} {w w' : World} (h : OwnL base u xss w) (hv : OwnL base2 v yss w) (hg : w.grownBy w' v.ownBlock) (hs : Sep v u) : OwnL base u xss w' := by
  obtain ⟨us, ⟨hl, h1⟩, h2⟩ := h
  refine ⟨us, ⟨hl, ?_⟩, fun j x xs hu hx => (h2 j x xs hu hx).grown hg (fun b hb => .inr (by obtain ⟨_, _, h3⟩ := ownL_block hv b hb; exact h3))⟩
  obtain h1 | ⟨g, cap, cur, hv', hb, hh, h1⟩ := h1
  · exact .inl h1
  · refine .inr ⟨g, cap, cur, hv', hb, (hg.block g (Array.getElem?_eq_some_iff.1 hh).1 ?_).trans hh, h1⟩
    intro e
    exact hs g e.symm (by rw [hv']; rfl)
theorem sep_next {v u : Value} {g H n c : Nat} (hs : Sep v u) (hu : ∀ b, u.ownBlock = some b → b < H) (hg : v.ownBlock = some g ∨ g = H) : Sep (.slice (some ⟨g, 0, none⟩) n c) u := by
  intro b hb hb2
  have e : g = b := by simpa [Value.ownBlock] using hb
  subst e
  rcases hg with hg | hg
  · exact hs _ hg hb2
  · have := hu _ hb2
    omega
theorem l4At_any (k : Wk) (m : Value) (p : Int) (w : World) (hm : ∃ a l c, m = .slice a l c) :
    Calls Tryd.prog 22 #[wkv k m, .int .i64 p] w fun e w' => e = .returned (.agg #[.int .i64 p, .int .i64 k.f, .int .i64 k.d, m]) ∧ Below w.heap.size w w' := by
  obtain ⟨a, l, c, rfl⟩ := hm
  have HB := Lib.hid ((below_new w (.cells #[.int .i64 k.s, .int .i64 k.f, .int .i64 k.d, .slice a l c] 32)).trans ((below_new _ (.cells #[.int .i64 0, .int .i64 0, .int .i64 0, .slice none 0 0] 32)).mono (by simp)))
  unfold wkv
  go_enter Tryd.func22, Tryd.ntmps22
  go_wp2_with fail
  refine bodyPost_ret (v := .agg #[.int .i64 p, .int .i64 k.f, .int .i64 k.d, .slice a l c]) (by simp [results, Tryd.results22, go_sem]) rfl ⟨rfl, ?_⟩
  first
    | exact (below_new w (.cells #[.int .i64 k.s, .int .i64 k.f, .int .i64 k.d, .slice a l c] 32)).trans ((below_new _ (.cells #[.int .i64 p, .int .i64 k.f, .int .i64 k.d, .slice a l c] 32)).mono (by simp))
    | (repeat refine Below.setCell ?_ (by show w.heap.size ≤ _; simp; try omega) _
       exact HB.out)
def T2Rel (n : Int) (g : Bool) (k : Wk) (m : Value) (k2 : Wk) (m2 : Value) (N base : Nat) (v7 v8 : Value) (w : World) (v9 i : Value) (wr : World) : Prop :=
  Box3 base n g k m k2 m2 w wr ∧ ∃ p : Nat, p ≤ N ∧ i = .int .i64 p ∧ OwnL (base + 3) v9 (tabL (fromL n g k N) (fromL n g k2 N) p) wr ∧ OwnL (base + 3) v7 (fromL n g k N) wr ∧ OwnL (base + 3) v8 (fromL n g k2 N) wr ∧ Sep v9 v7 ∧ Sep v9 v8
def T1Rel (n : Int) (g : Bool) (k : Wk) (m : Value) (k2 : Wk) (m2 : Value) (N base : Nat) (v9 : Value) (w : World) (v7 v8 i : Value) (wr : World) : Prop :=
  Box3 base n g k m k2 m2 w wr ∧ ∃ p : Nat, p ≤ N ∧ i = .int .i64 p ∧ OwnL (base + 3) v7 (fromL n g k p) wr ∧ OwnL (base + 3) v8 (fromL n g k2 p) wr ∧ OwnL (base + 3) v9 [] wr ∧ Sep v7 v8 ∧ Sep v7 v9 ∧ Sep v8 v9
set_option maxHeartbeats 3200000 in
set_option maxRecDepth 20000 in
theorem l4Table_any (N : Nat) (g : Bool) (k : Wk) (m : Value) (k2 : Wk) (m2 : Value) (w : World) (hv : ReadsI w m k.ms) (hv2 : ReadsI w m2 k2.ms) (hk : WkOK N g k) (hk2 : WkOK N g k2) :
    Calls Tryd.prog 13 #[rd N g, wkv k m, wkv k2 m2] w fun e w' => ∃ z, e = .returned z ∧ OwnL w.heap.size z (tabL (fromL N g k N) (fromL N g k2 N) N) w' ∧ Below w.heap.size w w' := by
  obtain ⟨i0, ji, jz0, jz1, jz2⟩ := info_parts infoInt
  obtain ⟨i1, hi, hz0, hz1, hz2⟩ := info_parts infoInts
  have hn24 : N ≤ 24 := by have := hk.n24; omega
  have HAT := Lib.hid (fun k m p w hm => l4At_any k m p w hm)
  have HWL := Lib.hid (fun k m w hv hk => l4Walk_nat N g k m 60 w hv hk (by omega))
  have HME := Lib.hid (fun v xs ys w hv hw => l4Meet_any v [xs, ys] w hv (by simp) hw)
  have HK := Lib.hid hk
  have HK2 := Lib.hid hk2
  have HX := Lib.hid (Box3.first w N g k m k2 m2)
  have HV := Lib.hid hv
  have HV2 := Lib.hid hv2
  obtain ⟨ma, mc, rfl, _⟩ := hv
  obtain ⟨ma2, mc2, rfl, _⟩ := hv2
  generalize hml : k.ms.length = ml at *
  generalize hml2 : k2.ms.length = ml2 at *
  clear hml hml2
  clear hk hk2
  unfold wkv rd at *
  have HSZ := Lib.hid (show (((w.alloc (.cells #[.int .i64 N, .bool g] 30)).alloc (.cells #[.int .i64 k.s, .int .i64 k.f, .int .i64 k.d, .slice ma ml mc] 32)).alloc (.cells #[.int .i64 k2.s, .int .i64 k2.f, .int .i64 k2.d, .slice ma2 ml2 mc2] 32)).heap.size = w.heap.size + 1 + 1 + 1 by simp)
  go_enter Tryd.func13, Tryd.ntmps13
  go_wp2_with fail
  generalize (((w.alloc (.cells #[.int .i64 N, .bool g] 30)).alloc (.cells #[.int .i64 k.s, .int .i64 k.f, .int .i64 k.d, .slice ma ml mc] 32)).alloc (.cells #[.int .i64 k2.s, .int .i64 k2.f, .int .i64 k2.d, .slice ma2 ml2 mc2] 32)) = w1 at *
  have hs1 : w1.heap.size = w.heap.size + 1 + 1 + 1 := HSZ.out
  have O7 := Lib.hid (ownL_below (ownL_below (ownL_new w1 (w.heap.size + 3) (w.heap.size + 1 + 1 + 1) hs1 (by omega)) (below_new _ (.cells #[] 24))) (below_new _ (.cells #[] 24)))
  have O8 := Lib.hid (ownL_below (ownL_new (w1.alloc (.cells #[] 24)) (w.heap.size + 3) (w.heap.size + 1 + 1 + 1 + 1) (by simp; omega) (by omega)) (below_new _ (.cells #[] 24)))
  have O9 := Lib.hid (ownL_new ((w1.alloc (.cells #[] 24)).alloc (.cells #[] 24)) (w.heap.size + 3) (w.heap.size + 1 + 1 + 1 + 1 + 1) (by simp; omega) (by omega))
  have HX := Lib.hid (((HX.out.next (below_new w1 (.cells #[] 24))).next (below_new _ (.cells #[] 24))).next (below_new _ (.cells #[] 24)))
  have S78 := Lib.hid (show Sep (.slice (some ⟨w.heap.size + 1 + 1 + 1, 0, none⟩) 0 0) (.slice (some ⟨w.heap.size + 1 + 1 + 1 + 1, 0, none⟩) 0 0) from fun b h h2 => by simp [Value.ownBlock] at h h2; omega)
  have S79 := Lib.hid (show Sep (.slice (some ⟨w.heap.size + 1 + 1 + 1, 0, none⟩) 0 0) (.slice (some ⟨w.heap.size + 1 + 1 + 1 + 1 + 1, 0, none⟩) 0 0) from fun b h h2 => by simp [Value.ownBlock] at h h2; omega)
  have S89 := Lib.hid (show Sep (.slice (some ⟨w.heap.size + 1 + 1 + 1 + 1, 0, none⟩) 0 0) (.slice (some ⟨w.heap.size + 1 + 1 + 1 + 1 + 1, 0, none⟩) 0 0) from fun b h h2 => by simp [Value.ownBlock] at h h2; omega)
  clear hs1
  generalize ((w1.alloc (.cells #[] 24)).alloc (.cells #[] 24)).alloc (.cells #[] 24) = w2 at *
  go_wp2_with fail
  go_loopw [7, 8, 10] (fun v7 v8 i wr => T1Rel N g k (.slice ma ml mc) k2 (.slice ma2 ml2 mc2) N w.heap.size (.slice (some ⟨w.heap.size + 1 + 1 + 1 + 1 + 1, 0, none⟩) 0 0) w v7 v8 i wr) (fun _ _ i _ => N - (intOf i).toNat)
  case atStart => exact ⟨HX.out, 0, Nat.zero_le _, rfl, O7.out, O8.out, O9.out, S78.out, S79.out, S89.out⟩
  case round =>
    obtain ⟨hx, p, hp, rfl, h7, h8, h9, hs78, hs79, hs89⟩ := hrel
    clear HX O7 O8 O9 S78 S79 S89
    have HX := Lib.hid hx
    have O7 := Lib.hid h7
    have O8 := Lib.hid h8
    have O9 := Lib.hid h9
    have S78 := Lib.hid hs78
    have S79 := Lib.hid hs79
    have S89 := Lib.hid hs89
    clear hx h7 h8 h9 hs78 hs79 hs89
    have hb0 := HX.out.road.c0
    by_cases hlt : p < N
    · have hp0 : 0 ≤ (p : Int) := by omega
      go_wp2_with fail
      clear hb0
      have HX := Lib.hid (HX.out.next (below_drewN _ 1))
      have O7 := Lib.hid (ownL_below O7.out (below_drewN _ 1))
      have O8 := Lib.hid (ownL_below O8.out (below_drewN _ 1))
      have O9 := Lib.hid (ownL_below O9.out (below_drewN _ 1))
      refine wp_region_noPanic ?_
      refine wp_region_held_drew (S := fun w' => w'.cell? ⟨w.heap.size, 0, none⟩ = some (.int .i64 N) ∧ w'.cell? ⟨w.heap.size, 1, none⟩ = some (.bool g) ∧ w'.cell? ⟨w.heap.size + 1, 0, none⟩ = some (.int .i64 k.s) ∧ w'.cell? ⟨w.heap.size + 1, 1, none⟩ = some (.int .i64 k.f) ∧ w'.cell? ⟨w.heap.size + 1, 2, none⟩ = some (.int .i64 k.d) ∧ w'.cell? ⟨w.heap.size + 1, 3, none⟩ = some (.slice ma ml mc) ∧ w'.cell? ⟨w.heap.size + 1 + 1, 0, none⟩ = some (.int .i64 k2.s) ∧ w'.cell? ⟨w.heap.size + 1 + 1, 1, none⟩ = some (.int .i64 k2.f) ∧ w'.cell? ⟨w.heap.size + 1 + 1, 2, none⟩ = some (.int .i64 k2.d) ∧ w'.cell? ⟨w.heap.size + 1 + 1, 3, none⟩ = some (.slice ma2 ml2 mc2)) (by kernel_rfl) (⟨HX.out.road.c0, HX.out.road.c1, HX.out.one.cell 0, HX.out.one.cell 1, HX.out.one.cell 2, HX.out.one.cell 3, HX.out.two.cell 0, HX.out.two.cell 1, HX.out.two.cell 2, HX.out.two.cell 3⟩) (fun hHeld => ?_)
      refine wpAnyH_take (i := 0) (oi := _) (v := ?_) rfl (by kernel_rfl) (by kernel_rfl) (by kernel_rfl) (fun _ _ _ h => h) (Or.inl ⟨by rfl, ?_⟩) (by assumption) ?_
      rotate_left
      · (intro w hSw; (try dsimp only at hSw); (first | (go_simp; done) | (go_simp; with_reducible rfl)))
      simp only [Act.put, List.getElem_toArray, List.getElem_cons_succ, List.getElem_cons_zero, List.setIfInBounds_toArray, List.set_cons_zero, List.set_cons_succ]
      refine wpAnyH_take (i := 1) (oi := _) (v := ?_) rfl (by kernel_rfl) (by kernel_rfl) (by kernel_rfl) (fun _ _ _ h => h) (Or.inl ⟨by rfl, ?_⟩) (by assumption) ?_
      rotate_left
      · (intro w hSw; (try dsimp only at hSw); (first | (go_simp; done) | (go_simp; with_reducible rfl)))
      simp only [Act.put, List.getElem_toArray, List.getElem_cons_succ, List.getElem_cons_zero, List.setIfInBounds_toArray, List.set_cons_zero, List.set_cons_succ]
      refine wpAnyH_take (i := 2) (oi := _) (v := ?_) rfl (by kernel_rfl) (by kernel_rfl) (by kernel_rfl) (fun _ _ _ h => h) (Or.inl ⟨by rfl, ?_⟩) (by assumption) ?_
      rotate_left
      · (intro w hSw; (try dsimp only at hSw); (first | (go_simp; done) | (go_simp; with_reducible rfl)))
      simp only [Act.put, List.getElem_toArray, List.getElem_cons_succ, List.getElem_cons_zero, List.setIfInBounds_toArray, List.set_cons_zero, List.set_cons_succ]
      refine wpAnyH_take (i := 3) (oi := _) (v := ?_) rfl (by kernel_rfl) (by kernel_rfl) (by kernel_rfl) (fun _ _ _ h => h) (Or.inl ⟨by rfl, ?_⟩) (by assumption) ?_
      rotate_left
      · (intro w hSw; (try dsimp only at hSw); (first | (go_simp; done) | (go_simp; with_reducible rfl)))
      simp only [Act.put, List.getElem_toArray, List.getElem_cons_succ, List.getElem_cons_zero, List.setIfInBounds_toArray, List.set_cons_zero, List.set_cons_succ]
      refine wpAnyH_ready (rs := [4]) (by kernel_rfl) (by simp) ?_
      refine AllReadyH.cons rfl (fun K hK => ?_) AllReadyH.nil
      go_simp
      refine (HAT.out k (.slice ma ml mc) (p : Nat) _ ⟨_, _, _, rfl⟩).mono ?_
      rintro e w4 ⟨rfl, hb⟩
      have HX := Lib.hid (HX.out.next hb)
      have O7 := Lib.hid (ownL_below O7.out hb)
      have O8 := Lib.hid (ownL_below O8.out hb)
      have O9 := Lib.hid (ownL_below O9.out hb)
      clear hb hHeld
      go_wp2_with fail
      refine hK.out _ _ (⟨HX.out.road.c0, HX.out.road.c1, HX.out.one.cell 0, HX.out.one.cell 1, HX.out.one.cell 2, HX.out.one.cell 3, HX.out.two.cell 0, HX.out.two.cell 1, HX.out.two.cell 2, HX.out.two.cell 3⟩) (fun hHeld => ?_)
      clear hK K
      refine wpAnyH_ready (rs := [5]) (by kernel_rfl) (by simp) ?_
      refine AllReadyH.cons rfl (fun K hK => ?_) AllReadyH.nil
      go_simp
      refine (HWL.out (atW k (p : Nat)) (.slice ma ml mc) _ (HV.out.below HX.out.road.below) (atW_ok HK.out (by omega) (by omega))).mono ?_
      rintro e w5 ⟨u, rfl, ho, hb⟩
      have HU := Lib.hid ((rdT_of ho (by rw [walkW_len]; unfold maxLen; omega)).lower HX.out.lt)
      obtain ⟨ua, uc, huu, _⟩ := owns_shape ho
      rw [walkW_len] at huu
      subst huu
      have HX := Lib.hid (HX.out.next hb)
      have O7 := Lib.hid (ownL_below O7.out hb)
      have O8 := Lib.hid (ownL_below O8.out hb)
      have O9 := Lib.hid (ownL_below O9.out hb)
      clear hb ho hHeld
      go_wp2_with fail
      refine hK.out _ _ (⟨HX.out.road.c0, HX.out.road.c1, HX.out.one.cell 0, HX.out.one.cell 1, HX.out.one.cell 2, HX.out.one.cell 3, HX.out.two.cell 0, HX.out.two.cell 1, HX.out.two.cell 2, HX.out.two.cell 3⟩) (fun hHeld => ?_)
      clear hK K
      obtain ⟨us, how, hus⟩ := O7.out
      have HUS := Lib.hid hus
      have HOW := Lib.hid how
      have hll := fromL_len N g k p
      have hul : us.length = (fromL N g k p).length := by have := how.1; omega
      have HUL := Lib.hid hul
      rw [hll] at HOW
      clear how hus hul
      have HP := Lib.hid O7.out
      have HA0 := Lib.hid O8.out
      have HB0 := Lib.hid O9.out
      refine wpAnyH_ready (rs := [6]) (by kernel_rfl) (by simp) ?_
      refine AllReadyH.cons rfl (fun K hK => ?_) AllReadyH.nil
      go_simp
      have HX := Lib.hid (HX.out.next (below_new w5 (.cells #[.slice ua (60 + 1) uc] 24)))
      have O7 := Lib.hid (ownL_below O7.out (below_new w5 (.cells #[.slice ua (60 + 1) uc] 24)))
      have O8 := Lib.hid (ownL_below O8.out (below_new w5 (.cells #[.slice ua (60 + 1) uc] 24)))
      have O9 := Lib.hid (ownL_below O9.out (below_new w5 (.cells #[.slice ua (60 + 1) uc] 24)))
      clear hHeld
      refine hK.out _ _ (⟨HX.out.road.c0, HX.out.road.c1, HX.out.one.cell 0, HX.out.one.cell 1, HX.out.one.cell 2, HX.out.one.cell 3, HX.out.two.cell 0, HX.out.two.cell 1, HX.out.two.cell 2, HX.out.two.cell 3⟩) (fun hHeld => ?_)
      clear hK K
      refine wpAnyH_ready (rs := [7]) (by kernel_rfl) (by simp) ?_
      refine AllReadyH.cons rfl (fun K hK => ?_) AllReadyH.nil
      have hbn := HX.out.lt
      refine step_append_lies _ (by rfl) _ _ _ (by rfl) (w.heap.size + 3) 24 i1 (.slice none 0 0) 1 24 Tryd.underlying39 hi hz0 hz1 hz2 rfl (by decide) _ p _ (by rfl) (HOW.out.alloc _) ⟨w5.heap.size, 0, none⟩ 1 1 [.slice ua (60 + 1) uc] (by rfl) (by rfl) (cell_one_new _ _ _) ?c1 (by decide) ?c2 ?c3 ?c4 (w5.heap.size + 1) ?c5 ?_
      case c1 => intro u hu; simp at hu; subst hu; rfl
      case c2 => unfold maxLen; omega
      case c3 => omega
      case c4 => exact hbn
      case c5 => simp
      intro gg cap w9 hown' hgrow hlie hlt9
      have HB9 := Lib.hid (below_grown (m := w.heap.size + 3) hgrow (fun b hb => (ownL_block O7.out b hb).1) hbn)
      have HX := Lib.hid (⟨HX.out.road.nextAt (by omega) HB9.out, HX.out.one.belowAt (by omega) HB9.out, HX.out.two.belowAt (by omega) HB9.out⟩ : Box3 w.heap.size N g k (.slice ma ml mc) k2 (.slice ma2 ml2 mc2) w w9)
      have hA := fun b hb => (ownL_block O8.out b hb).2.1
      have hB := fun b hb => (ownL_block O9.out b hb).2.1
      have hA0 := fun b hb => (ownL_block (w := w5) (base := w.heap.size + 3) HA0.out b hb).2.1
      have hB0 := fun b hb => (ownL_block (w := w5) (base := w.heap.size + 3) HB0.out b hb).2.1
      have NA := Lib.hid (sep_next (n := p + 1) (c := cap) S78.out (H := w5.heap.size + 1) (fun b hb => Nat.lt_succ_of_lt (hA0 b hb)) hlie)
      have NB := Lib.hid (sep_next (n := p + 1) (c := cap) S79.out (H := w5.heap.size + 1) (fun b hb => Nat.lt_succ_of_lt (hB0 b hb)) hlie)
      have O8x := Lib.hid (ownL_sep O8.out O7.out hgrow S78.out)
      have O9x := Lib.hid (ownL_sep O9.out O7.out hgrow S79.out)
      have O7x := Lib.hid (ownL_append HP.out HUS.out HUL.out HU.out (by rw [hll]; exact hown') hgrow)
      clear hHeld hgrow hown' hA hB hA0 hB0 hlie hlt9 hbn
      refine hK.out _ _ (⟨HX.out.road.c0, HX.out.road.c1, HX.out.one.cell 0, HX.out.one.cell 1, HX.out.one.cell 2, HX.out.one.cell 3, HX.out.two.cell 0, HX.out.two.cell 1, HX.out.two.cell 2, HX.out.two.cell 3⟩) (fun hHeld => ?_)
      clear hK K
      refine wpAnyH_take (i := 8) (oi := _) (v := ?_) rfl (by kernel_rfl) (by kernel_rfl) (by kernel_rfl) (fun _ _ _ h => h) (Or.inl ⟨by rfl, ?_⟩) (by assumption) ?_
      rotate_left
      · (intro w hSw; (try dsimp only at hSw); (first | (go_simp; done) | (go_simp; with_reducible rfl)))
      simp only [Act.put, List.getElem_toArray, List.getElem_cons_succ, List.getElem_cons_zero, List.setIfInBounds_toArray, List.set_cons_zero, List.set_cons_succ]
      refine wpAnyH_done (by kernel_rfl) ?_ _
      refine NoPanic.normal ?_
      clear hHeld HOW HUS HUL HU hll HP HA0 HB0
      have O7 := Lib.hid O7x.out
      have O8 := Lib.hid O8x.out
      have O9 := Lib.hid O9x.out
      have S78 := Lib.hid NA.out
      have S79 := Lib.hid NB.out
      clear O7x O8x O9x NA NB HB9
      go_wp2_with fail
      have HX := Lib.hid (HX.out.next (below_drewN _ 1))
      have O7 := Lib.hid (ownL_below O7.out (below_drewN _ 1))
      have O8 := Lib.hid (ownL_below O8.out (below_drewN _ 1))
      have O9 := Lib.hid (ownL_below O9.out (below_drewN _ 1))
      refine wp_region_noPanic ?_
      refine wp_region_held_drew (S := fun w' => w'.cell? ⟨w.heap.size, 0, none⟩ = some (.int .i64 N) ∧ w'.cell? ⟨w.heap.size, 1, none⟩ = some (.bool g) ∧ w'.cell? ⟨w.heap.size + 1, 0, none⟩ = some (.int .i64 k.s) ∧ w'.cell? ⟨w.heap.size + 1, 1, none⟩ = some (.int .i64 k.f) ∧ w'.cell? ⟨w.heap.size + 1, 2, none⟩ = some (.int .i64 k.d) ∧ w'.cell? ⟨w.heap.size + 1, 3, none⟩ = some (.slice ma ml mc) ∧ w'.cell? ⟨w.heap.size + 1 + 1, 0, none⟩ = some (.int .i64 k2.s) ∧ w'.cell? ⟨w.heap.size + 1 + 1, 1, none⟩ = some (.int .i64 k2.f) ∧ w'.cell? ⟨w.heap.size + 1 + 1, 2, none⟩ = some (.int .i64 k2.d) ∧ w'.cell? ⟨w.heap.size + 1 + 1, 3, none⟩ = some (.slice ma2 ml2 mc2)) (by kernel_rfl) (⟨HX.out.road.c0, HX.out.road.c1, HX.out.one.cell 0, HX.out.one.cell 1, HX.out.one.cell 2, HX.out.one.cell 3, HX.out.two.cell 0, HX.out.two.cell 1, HX.out.two.cell 2, HX.out.two.cell 3⟩) (fun hHeld => ?_)
      refine wpAnyH_take (i := 0) (oi := _) (v := ?_) rfl (by kernel_rfl) (by kernel_rfl) (by kernel_rfl) (fun _ _ _ h => h) (Or.inl ⟨by rfl, ?_⟩) (by assumption) ?_
      rotate_left
      · (intro w hSw; (try dsimp only at hSw); (first | (go_simp; done) | (go_simp; with_reducible rfl)))
      simp only [Act.put, List.getElem_toArray, List.getElem_cons_succ, List.getElem_cons_zero, List.setIfInBounds_toArray, List.set_cons_zero, List.set_cons_succ]
      refine wpAnyH_take (i := 1) (oi := _) (v := ?_) rfl (by kernel_rfl) (by kernel_rfl) (by kernel_rfl) (fun _ _ _ h => h) (Or.inl ⟨by rfl, ?_⟩) (by assumption) ?_
      rotate_left
      · (intro w hSw; (try dsimp only at hSw); (first | (go_simp; done) | (go_simp; with_reducible rfl)))
      simp only [Act.put, List.getElem_toArray, List.getElem_cons_succ, List.getElem_cons_zero, List.setIfInBounds_toArray, List.set_cons_zero, List.set_cons_succ]
      refine wpAnyH_take (i := 2) (oi := _) (v := ?_) rfl (by kernel_rfl) (by kernel_rfl) (by kernel_rfl) (fun _ _ _ h => h) (Or.inl ⟨by rfl, ?_⟩) (by assumption) ?_
      rotate_left
      · (intro w hSw; (try dsimp only at hSw); (first | (go_simp; done) | (go_simp; with_reducible rfl)))
      simp only [Act.put, List.getElem_toArray, List.getElem_cons_succ, List.getElem_cons_zero, List.setIfInBounds_toArray, List.set_cons_zero, List.set_cons_succ]
      refine wpAnyH_take (i := 3) (oi := _) (v := ?_) rfl (by kernel_rfl) (by kernel_rfl) (by kernel_rfl) (fun _ _ _ h => h) (Or.inl ⟨by rfl, ?_⟩) (by assumption) ?_
      rotate_left
      · (intro w hSw; (try dsimp only at hSw); (first | (go_simp; done) | (go_simp; with_reducible rfl)))
      simp only [Act.put, List.getElem_toArray, List.getElem_cons_succ, List.getElem_cons_zero, List.setIfInBounds_toArray, List.set_cons_zero, List.set_cons_succ]
      refine wpAnyH_ready (rs := [4]) (by kernel_rfl) (by simp) ?_
      refine AllReadyH.cons rfl (fun K hK => ?_) AllReadyH.nil
      go_simp
      refine (HAT.out k2 (.slice ma2 ml2 mc2) (p : Nat) _ ⟨_, _, _, rfl⟩).mono ?_
      rintro e w4 ⟨rfl, hb⟩
      have HX := Lib.hid (HX.out.next hb)
      have O7 := Lib.hid (ownL_below O7.out hb)
      have O8 := Lib.hid (ownL_below O8.out hb)
      have O9 := Lib.hid (ownL_below O9.out hb)
      clear hb hHeld
      go_wp2_with fail
      refine hK.out _ _ (⟨HX.out.road.c0, HX.out.road.c1, HX.out.one.cell 0, HX.out.one.cell 1, HX.out.one.cell 2, HX.out.one.cell 3, HX.out.two.cell 0, HX.out.two.cell 1, HX.out.two.cell 2, HX.out.two.cell 3⟩) (fun hHeld => ?_)
      clear hK K
      refine wpAnyH_ready (rs := [5]) (by kernel_rfl) (by simp) ?_
      refine AllReadyH.cons rfl (fun K hK => ?_) AllReadyH.nil
      go_simp
      refine (HWL.out (atW k2 (p : Nat)) (.slice ma2 ml2 mc2) _ (HV2.out.below HX.out.road.below) (atW_ok HK2.out (by omega) (by omega))).mono ?_
      rintro e w5 ⟨u, rfl, ho, hb⟩
      have HU := Lib.hid ((rdT_of ho (by rw [walkW_len]; unfold maxLen; omega)).lower HX.out.lt)
      obtain ⟨ua, uc, huu, _⟩ := owns_shape ho
      rw [walkW_len] at huu
      subst huu
      have HX := Lib.hid (HX.out.next hb)
      have O7 := Lib.hid (ownL_below O7.out hb)
      have O8 := Lib.hid (ownL_below O8.out hb)
      have O9 := Lib.hid (ownL_below O9.out hb)
      clear hb ho hHeld
      go_wp2_with fail
      refine hK.out _ _ (⟨HX.out.road.c0, HX.out.road.c1, HX.out.one.cell 0, HX.out.one.cell 1, HX.out.one.cell 2, HX.out.one.cell 3, HX.out.two.cell 0, HX.out.two.cell 1, HX.out.two.cell 2, HX.out.two.cell 3⟩) (fun hHeld => ?_)
      clear hK K
      obtain ⟨us, how, hus⟩ := O8.out
      have HUS := Lib.hid hus
      have HOW := Lib.hid how
      have hll := fromL_len N g k2 p
      have hul : us.length = (fromL N g k2 p).length := by have := how.1; omega
      have HUL := Lib.hid hul
      rw [hll] at HOW
      clear how hus hul
      have HP := Lib.hid O8.out
      have HA0 := Lib.hid O7.out
      have HB0 := Lib.hid O9.out
      refine wpAnyH_ready (rs := [6]) (by kernel_rfl) (by simp) ?_
      refine AllReadyH.cons rfl (fun K hK => ?_) AllReadyH.nil
      go_simp
      have HX := Lib.hid (HX.out.next (below_new w5 (.cells #[.slice ua (60 + 1) uc] 24)))
      have O7 := Lib.hid (ownL_below O7.out (below_new w5 (.cells #[.slice ua (60 + 1) uc] 24)))
      have O8 := Lib.hid (ownL_below O8.out (below_new w5 (.cells #[.slice ua (60 + 1) uc] 24)))
      have O9 := Lib.hid (ownL_below O9.out (below_new w5 (.cells #[.slice ua (60 + 1) uc] 24)))
      clear hHeld
      refine hK.out _ _ (⟨HX.out.road.c0, HX.out.road.c1, HX.out.one.cell 0, HX.out.one.cell 1, HX.out.one.cell 2, HX.out.one.cell 3, HX.out.two.cell 0, HX.out.two.cell 1, HX.out.two.cell 2, HX.out.two.cell 3⟩) (fun hHeld => ?_)
      clear hK K
      refine wpAnyH_ready (rs := [7]) (by kernel_rfl) (by simp) ?_
      refine AllReadyH.cons rfl (fun K hK => ?_) AllReadyH.nil
      have hbn := HX.out.lt
      refine step_append_lies _ (by rfl) _ _ _ (by rfl) (w.heap.size + 3) 24 i1 (.slice none 0 0) 1 24 Tryd.underlying39 hi hz0 hz1 hz2 rfl (by decide) _ p _ (by rfl) (HOW.out.alloc _) ⟨w5.heap.size, 0, none⟩ 1 1 [.slice ua (60 + 1) uc] (by rfl) (by rfl) (cell_one_new _ _ _) ?c1 (by decide) ?c2 ?c3 ?c4 (w5.heap.size + 1) ?c5 ?_
      case c1 => intro u hu; simp at hu; subst hu; rfl
      case c2 => unfold maxLen; omega
      case c3 => omega
      case c4 => exact hbn
      case c5 => simp
      intro gg cap w9 hown' hgrow hlie hlt9
      have HB9 := Lib.hid (below_grown (m := w.heap.size + 3) hgrow (fun b hb => (ownL_block O8.out b hb).1) hbn)
      have HX := Lib.hid (⟨HX.out.road.nextAt (by omega) HB9.out, HX.out.one.belowAt (by omega) HB9.out, HX.out.two.belowAt (by omega) HB9.out⟩ : Box3 w.heap.size N g k (.slice ma ml mc) k2 (.slice ma2 ml2 mc2) w w9)
      have hA := fun b hb => (ownL_block O7.out b hb).2.1
      have hB := fun b hb => (ownL_block O9.out b hb).2.1
      have hA0 := fun b hb => (ownL_block (w := w5) (base := w.heap.size + 3) HA0.out b hb).2.1
      have hB0 := fun b hb => (ownL_block (w := w5) (base := w.heap.size + 3) HB0.out b hb).2.1
      have NA := Lib.hid (sep_next (n := p + 1) (c := cap) (Sep.swap S78.out) (H := w5.heap.size + 1) (fun b hb => Nat.lt_succ_of_lt (hA0 b hb)) hlie)
      have NB := Lib.hid (sep_next (n := p + 1) (c := cap) S89.out (H := w5.heap.size + 1) (fun b hb => Nat.lt_succ_of_lt (hB0 b hb)) hlie)
      have O7x := Lib.hid (ownL_sep O7.out O8.out hgrow (Sep.swap S78.out))
      have O9x := Lib.hid (ownL_sep O9.out O8.out hgrow S89.out)
      have O8x := Lib.hid (ownL_append HP.out HUS.out HUL.out HU.out (by rw [hll]; exact hown') hgrow)
      clear hHeld hgrow hown' hA hB hA0 hB0 hlie hlt9 hbn
      refine hK.out _ _ (⟨HX.out.road.c0, HX.out.road.c1, HX.out.one.cell 0, HX.out.one.cell 1, HX.out.one.cell 2, HX.out.one.cell 3, HX.out.two.cell 0, HX.out.two.cell 1, HX.out.two.cell 2, HX.out.two.cell 3⟩) (fun hHeld => ?_)
      clear hK K
      refine wpAnyH_take (i := 8) (oi := _) (v := ?_) rfl (by kernel_rfl) (by kernel_rfl) (by kernel_rfl) (fun _ _ _ h => h) (Or.inl ⟨by rfl, ?_⟩) (by assumption) ?_
      rotate_left
      · (intro w hSw; (try dsimp only at hSw); (first | (go_simp; done) | (go_simp; with_reducible rfl)))
      simp only [Act.put, List.getElem_toArray, List.getElem_cons_succ, List.getElem_cons_zero, List.setIfInBounds_toArray, List.set_cons_zero, List.set_cons_succ]
      refine wpAnyH_done (by kernel_rfl) ?_ _
      refine NoPanic.normal ?_
      clear hHeld HOW HUS HUL HU hll HP HA0 HB0
      go_wp2_with fail
      go_roundw
      case rel => exact ⟨HX.out, p + 1, by omega, by go_num, by rw [fromL_next]; exact O7x.out, by rw [fromL_next]; exact O8x.out, O9x.out, Sep.swap NA.out, S79.out, NB.out⟩
      case measure => simp [intOf]; omega
    · have hpe : p = N := by omega
      subst hpe
      obtain ⟨la7, lc7, hsh7⟩ := ownL_shape O7.out
      obtain ⟨la8, lc8, hsh8⟩ := ownL_shape O8.out
      rw [fromL_len] at hsh7 hsh8
      subst hsh7 hsh8
      have S97 := Lib.hid (Sep.swap S79.out)
      have S98 := Lib.hid (Sep.swap S89.out)
      clear S78 S79 S89
      go_wp2_with fail
      clear hb0
      go_loopw [9, 11] (fun v9 i wr => T2Rel p g k (.slice ma ml mc) k2 (.slice ma2 ml2 mc2) p w.heap.size (.slice la7 p lc7) (.slice la8 p lc8) w v9 i wr) (fun _ i _ => p - (intOf i).toNat)
      case atStart => exact ⟨HX.out, 0, Nat.zero_le _, rfl, O9.out, O7.out, O8.out, S97.out, S98.out⟩
      case round =>
        obtain ⟨hx, i, hi9, rfl, h9, h7, h8, hs97, hs98⟩ := hrel
        clear HX O7 O8 O9 S97 S98
        have HX := Lib.hid hx
        have O7 := Lib.hid h7
        have O8 := Lib.hid h8
        have O9 := Lib.hid h9
        have S97 := Lib.hid hs97
        have S98 := Lib.hid hs98
        clear hx h7 h8 h9 hs97 hs98
        have hb0 := HX.out.road.c0
        by_cases hlti : i < p
        · have hbn := HX.out.lt
          have HB0 := Lib.hid (below_new wr (.cells #[] 3))
          have HO0 := Lib.hid (made_0 wr)
          have hsz := HX.out.road.size
          have hbA := (HX.out.next (below_new wr (.cells #[] 3))).road.c0
          obtain ⟨g7, u7, hg7, hg7l, hg7c, hr7⟩ := ownL_at O7.out (fromL_at p g k p i hlti)
          subst hg7
          obtain ⟨ug7, uc7, hu7⟩ := rdT_shape hr7 (by intro e; have := walkW_len p g (atW k (i : Nat)) 60; rw [e] at this; cases this)
          rw [walkW_len] at hu7
          subst hu7
          have HG7 := Lib.hid hg7c
          have HG7L := Lib.hid hg7l
          have HR7 := Lib.hid hr7.reads
          clear hg7c hg7l hr7
          go_wp2_with fail
          clear hb0 hbA
          generalize hw0 : wr = w0 at *
          go_loopw [12, 13] (fun z j wr => ToRelI (walkW p g (atW k (i : Nat)) 60) (fromL p g k2 p) w0.heap.size w0 z j wr) (fun _ j _ => p - (intOf j).toNat)
          case atStart => exact ⟨HB0.out, by simp, 0, Nat.zero_le _, rfl, HO0.out⟩
          case round =>
            obtain ⟨hb, hbs, j, hj, rfl, hown⟩ := hrel
            rw [fromL_len] at hj
            clear HB0 HO0
            have HBI := Lib.hid hb
            have HBSI := Lib.hid hbs
            have HOI := Lib.hid hown
            clear hb hbs hown
            have HXI := Lib.hid (HX.out.next HBI.out)
            have hb0 := HXI.out.road.c0
            by_cases hltj : j < p
            · have hfa := fromL_at p g k2 p j hltj
              obtain ⟨g8, u8, hg8, hg8l, hg8c, hr8⟩ := ownL_at O8.out hfa
              subst hg8
              obtain ⟨ug8, uc8, hu8⟩ := rdT_shape hr8 (by intro e; have := walkW_len p g (atW k2 (j : Nat)) 60; rw [e] at this; cases this)
              rw [walkW_len] at hu8
              subst hu8
              have hc7 : wr.cell? ⟨g7, i, none⟩ = some (.slice (some ⟨ug7, 0, none⟩) (60 + 1) uc7) := (HBI.out.cell (p := ⟨g7, i, none⟩) HG7L.out).trans HG7.out
              have hc8 : wr.cell? ⟨g8, j, none⟩ = some (.slice (some ⟨ug8, 0, none⟩) (60 + 1) uc8) := (HBI.out.cell (p := ⟨g8, j, none⟩) hg8l).trans hg8c
              have HSN := Lib.hid (rowL_snoc (xs := walkW p g (atW k (i : Nat)) 60) hfa)
              have HL2 := Lib.hid (two_list_at (t := 24) ((HR7.out.below HBI.out).below (below_drewN wr 1)) ((hr8.reads.below HBI.out).below (below_drewN wr 1)) wr.heap.size rfl)
              have H61 := Lib.hid (two_61 (walkW_len p g (atW k (i : Nat)) 60) (walkW_len p g (atW k2 (j : Nat)) 60))
              have hi1 : (i : Int) < p := by omega
              have hi2 : 0 ≤ (i : Int) := by omega
              have hj1 : (j : Int) < p := by omega
              have hj2 : 0 ≤ (j : Int) := by omega
              have HG8 := Lib.hid hg8c
              have HG8L := Lib.hid hg8l
              clear hfa hg8l hg8c hr8
              go_wp2_with fail
              refine wp_region_noPanic ?_
              refine wp_region_held_drew (S := fun w' => w'.cell? ⟨g7, i, none⟩ = some (.slice (some ⟨ug7, 0, none⟩) (60 + 1) uc7) ∧ w'.cell? ⟨g8, j, none⟩ = some (.slice (some ⟨ug8, 0, none⟩) (60 + 1) uc8)) (by kernel_rfl) (⟨hc7, hc8⟩) (fun hHeld => ?_)
              refine wpAnyH_take (i := 0) (oi := _) (v := ?_) rfl (by kernel_rfl) (by kernel_rfl) (by kernel_rfl) (fun _ _ _ h => h) (Or.inl ⟨by rfl, ?_⟩) (by assumption) ?_
              rotate_left
              · (intro w hSw; (try dsimp only at hSw); (first | (go_simp; done) | (go_simp; with_reducible rfl)))
              simp only [Act.put, List.getElem_toArray, List.getElem_cons_succ, List.getElem_cons_zero, List.setIfInBounds_toArray, List.set_cons_zero, List.set_cons_succ]
              refine wpAnyH_take (i := 1) (oi := _) (v := ?_) rfl (by kernel_rfl) (by kernel_rfl) (by kernel_rfl) (fun _ _ _ h => h) (Or.inl ⟨by rfl, ?_⟩) (by assumption) ?_
              rotate_left
              · (intro w hSw; (try dsimp only at hSw); (first | (go_simp; done) | (go_simp; with_reducible rfl)))
              simp only [Act.put, List.getElem_toArray, List.getElem_cons_succ, List.getElem_cons_zero, List.setIfInBounds_toArray, List.set_cons_zero, List.set_cons_succ]
              refine wpAnyH_take (i := 2) (oi := _) (v := ?_) rfl (by kernel_rfl) (by kernel_rfl) (by kernel_rfl) (fun _ _ _ h => h) (Or.inl ⟨by rfl, ?_⟩) (by assumption) ?_
              rotate_left
              · (intro w hSw; (try dsimp only at hSw); (first | (go_simp; done) | (go_simp; with_reducible rfl)))
              simp only [Act.put, List.getElem_toArray, List.getElem_cons_succ, List.getElem_cons_zero, List.setIfInBounds_toArray, List.set_cons_zero, List.set_cons_succ]
              refine wpAnyH_take (i := 3) (oi := _) (v := ?_) rfl (by kernel_rfl) (by kernel_rfl) (by kernel_rfl) (fun _ _ _ h => h) (Or.inl ⟨by rfl, ?_⟩) (by assumption) ?_
              rotate_left
              · (intro w hSw; (try dsimp only at hSw); (first | (go_simp; done) | (go_simp; with_reducible rfl)))
              simp only [Act.put, List.getElem_toArray, List.getElem_cons_succ, List.getElem_cons_zero, List.setIfInBounds_toArray, List.set_cons_zero, List.set_cons_succ]
              refine wpAnyH_take (i := 4) (oi := _) (v := ?_) rfl (by kernel_rfl) (by kernel_rfl) (by kernel_rfl) (fun _ _ _ h => h) (Or.inl ⟨by rfl, ?_⟩) (by assumption) ?_
              rotate_left
              · (intro w hSw; (try dsimp only at hSw); (first | (go_simp; done) | (go_simp; with_reducible rfl)))
              simp only [Act.put, List.getElem_toArray, List.getElem_cons_succ, List.getElem_cons_zero, List.setIfInBounds_toArray, List.set_cons_zero, List.set_cons_succ]
              refine wpAnyH_take (i := 5) (oi := _) (v := ?_) rfl (by kernel_rfl) (by kernel_rfl) (by kernel_rfl) (fun _ _ _ h => h) (Or.inl ⟨by rfl, ?_⟩) (by assumption) ?_
              rotate_left
              · (intro w hSw; (try dsimp only at hSw); (first | (go_simp; done) | (go_simp; with_reducible rfl)))
              simp only [Act.put, List.getElem_toArray, List.getElem_cons_succ, List.getElem_cons_zero, List.setIfInBounds_toArray, List.set_cons_zero, List.set_cons_succ]
              refine wpAnyH_take (i := 6) (oi := _) (v := ?_) rfl (by kernel_rfl) (by kernel_rfl) (by kernel_rfl) (fun _ _ _ h => h) (Or.inl ⟨by rfl, ?_⟩) (by assumption) ?_
              rotate_left
              · (intro w hSw; (try dsimp only at hSw); (first | (go_simp; done) | (go_simp; with_reducible rfl)))
              simp only [Act.put, List.getElem_toArray, List.getElem_cons_succ, List.getElem_cons_zero, List.setIfInBounds_toArray, List.set_cons_zero, List.set_cons_succ]
              refine wpAnyH_take (i := 7) (oi := _) (v := ?_) rfl (by kernel_rfl) (by kernel_rfl) (by kernel_rfl) (fun _ _ _ h => h) (Or.inl ⟨by rfl, ?_⟩) (by assumption) ?_
              rotate_left
              · (intro w hSw; (try dsimp only at hSw); (first | (go_simp; done) | (go_simp; with_reducible rfl)))
              simp only [Act.put, List.getElem_toArray, List.getElem_cons_succ, List.getElem_cons_zero, List.setIfInBounds_toArray, List.set_cons_zero, List.set_cons_succ]
              refine wpAnyH_take (i := 8) (oi := _) (v := ?_) rfl (by kernel_rfl) (by kernel_rfl) (by kernel_rfl) (fun _ _ _ h => h) (Or.inl ⟨by rfl, ?_⟩) (by assumption) ?_
              rotate_left
              · (intro w hSw; (try dsimp only at hSw); (first | (go_simp; done) | (go_simp; with_reducible rfl)))
              simp only [Act.put, List.getElem_toArray, List.getElem_cons_succ, List.getElem_cons_zero, List.setIfInBounds_toArray, List.set_cons_zero, List.set_cons_succ]
              have HO1 := Lib.hid (owns_below HOI.out (below_drewN _ 1))
              have HB1 := Lib.hid (HBI.out.trans ((below_drewN _ 1).mono HBSI.out))
              refine wpAnyH_ready (rs := [9]) (by kernel_rfl) (by simp) ?_
              refine AllReadyH.cons rfl (fun K hK => ?_) AllReadyH.nil
              go_simp
              have hc7n := ((below_new wr.drew (.cells #[.slice (some ⟨ug7, 0, none⟩) (60 + 1) uc7, .slice (some ⟨ug8, 0, none⟩) (60 + 1) uc8] 24)).cell (p := ⟨g7, i, none⟩) (World.block_lt_of_cell? _ _ hHeld.1)).trans hHeld.1
              have hc8n := ((below_new wr.drew (.cells #[.slice (some ⟨ug7, 0, none⟩) (60 + 1) uc7, .slice (some ⟨ug8, 0, none⟩) (60 + 1) uc8] 24)).cell (p := ⟨g8, j, none⟩) (World.block_lt_of_cell? _ _ hHeld.2)).trans hHeld.2
              have HO1 := Lib.hid (owns_below HO1.out (below_new wr.drew (.cells #[.slice (some ⟨ug7, 0, none⟩) (60 + 1) uc7, .slice (some ⟨ug8, 0, none⟩) (60 + 1) uc8] 24)))
              have HB1 := Lib.hid (HB1.out.trans ((below_new wr.drew (.cells #[.slice (some ⟨ug7, 0, none⟩) (60 + 1) uc7, .slice (some ⟨ug8, 0, none⟩) (60 + 1) uc8] 24)).mono HBSI.out))
              have HZ1 := Lib.hid (show w0.heap.size ≤ (wr.drew.alloc (.cells #[.slice (some ⟨ug7, 0, none⟩) (60 + 1) uc7, .slice (some ⟨ug8, 0, none⟩) (60 + 1) uc8] 24)).heap.size by have := HBSI.out; show w0.heap.size ≤ (wr.heap.push _).size; simp; omega)
              clear hHeld
              refine hK.out _ _ (⟨hc7n, hc8n⟩) (fun hHeld => ?_)
              clear hK K
              refine wpAnyH_ready (rs := [10]) (by kernel_rfl) (by simp) ?_
              refine AllReadyH.cons rfl (fun K hK => ?_) AllReadyH.nil
              go_simp
              clear hc7n hc8n
              refine (HME.out _ (walkW p g (atW k (i : Nat)) 60) (walkW p g (atW k2 (j : Nat)) 60) _ HL2.out H61.out).mono ?_
              rintro e w4 ⟨rfl, md, hw4⟩
              have hb4 : Below (wr.drew.alloc (.cells #[.slice (some ⟨ug7, 0, none⟩) (60 + 1) uc7, .slice (some ⟨ug8, 0, none⟩) (60 + 1) uc8] 24)).heap.size (wr.drew.alloc (.cells #[.slice (some ⟨ug7, 0, none⟩) (60 + 1) uc7, .slice (some ⟨ug8, 0, none⟩) (60 + 1) uc8] 24)) w4 := by rw [hw4]; exact below_drewN _ md
              have hc7n := (hb4.cell (p := ⟨g7, i, none⟩) (World.block_lt_of_cell? _ _ hHeld.1)).trans hHeld.1
              have hc8n := (hb4.cell (p := ⟨g8, j, none⟩) (World.block_lt_of_cell? _ _ hHeld.2)).trans hHeld.2
              have HO1 := Lib.hid (owns_below HO1.out hb4)
              have HB1 := Lib.hid (HB1.out.trans (hb4.mono HZ1.out))
              have HZ1 := Lib.hid (Nat.le_trans HZ1.out hb4.size)
              clear hHeld hw4 hb4
              go_wp2_with fail
              refine hK.out _ _ (⟨hc7n, hc8n⟩) (fun hHeld => ?_)
              clear hK K
              refine wpAnyH_ready (rs := [11]) (by kernel_rfl) (by simp) ?_
              refine AllReadyH.cons rfl (fun K hK => ?_) AllReadyH.nil
              go_simp
              clear hc7n hc8n
              have hc7n := ((below_new w4 (.cells #[.int .i64 (meetT [walkW p g (atW k (i : Nat)) 60, walkW p g (atW k2 (j : Nat)) 60])] 3)).cell (p := ⟨g7, i, none⟩) (World.block_lt_of_cell? _ _ hHeld.1)).trans hHeld.1
              have hc8n := ((below_new w4 (.cells #[.int .i64 (meetT [walkW p g (atW k (i : Nat)) 60, walkW p g (atW k2 (j : Nat)) 60])] 3)).cell (p := ⟨g8, j, none⟩) (World.block_lt_of_cell? _ _ hHeld.2)).trans hHeld.2
              clear hHeld
              refine hK.out _ _ (⟨hc7n, hc8n⟩) (fun hHeld => ?_)
              clear hK K
              refine wpAnyH_ready (rs := [12]) (by kernel_rfl) (by simp) ?_
              refine AllReadyH.cons rfl (fun K hK => ?_) AllReadyH.nil
              clear hc7n hc8n
              have hz1 := HZ1.out
              generalize hmt : meetT [walkW p g (atW k (i : Nat)) 60, walkW p g (atW k2 (j : Nat)) 60] = mt at *
              clear hmt
              refine step_append_any (by rfl) _ _ _ (by rfl) w0.heap.size 3 i0 (.int .i64 0) 1 8 Tryd.underlying24 ji jz0 jz1 jz2 rfl (by decide) _ _ _ (by rfl) (HO1.out.alloc _) ⟨w4.heap.size, 0, none⟩ 1 1 [.int .i64 mt] (by rfl) (by rfl) (cell_one_new _ _ _) ?c1 ?c3 ?c4 ?c5 ?_
              case c1 => intro u hu; simp at hu; subst hu; rfl
              case c3 => unfold maxLen; omega
              case c4 => omega
              case c5 => simp; omega
              intro v9 w9 hown9 hgrow9
              have HB9 := Lib.hid ((HB1.out.trans ((below_new _ _).mono HZ1.out)).trans (below_grown hgrow9 (fun b hb => (HO1.out.lt b hb).1) (by simp; omega)))
              have HBS9 := Lib.hid (Nat.le_trans (by simp; omega : w0.heap.size ≤ (w4.alloc (.cells #[.int .i64 mt] 3)).heap.size) hgrow9.size)
              have HO9 := Lib.hid hown9
              have hc7n := (HB9.out.cell (p := ⟨g7, i, none⟩) HG7L.out).trans HG7.out
              have hc8n := (HB9.out.cell (p := ⟨g8, j, none⟩) HG8L.out).trans HG8.out
              clear hHeld hown9 hgrow9
              refine hK.out _ _ (⟨hc7n, hc8n⟩) (fun hHeld => ?_)
              clear hK K
              refine wpAnyH_take (i := 13) (oi := _) (v := ?_) rfl (by kernel_rfl) (by kernel_rfl) (by kernel_rfl) (fun _ _ _ h => h) (Or.inl ⟨by rfl, ?_⟩) (by assumption) ?_
              rotate_left
              · (intro w hSw; (try dsimp only at hSw); (first | (go_simp; done) | (go_simp; with_reducible rfl)))
              simp only [Act.put, List.getElem_toArray, List.getElem_cons_succ, List.getElem_cons_zero, List.setIfInBounds_toArray, List.set_cons_zero, List.set_cons_succ]
              refine wpAnyH_done (by kernel_rfl) ?_ _
              refine NoPanic.normal ?_
              clear hHeld hc7 hc8 hb0
              go_wp2_with fail
              go_roundw
              case rel => exact ⟨HB9.out, HBS9.out, j + 1, by rw [fromL_len]; omega, by go_num, by rw [← HSN.out]; exact HO9.out⟩
              case measure => simp [intOf]; omega
            · have hje : j = p := by omega
              subst hje
              have HU9 := Lib.hid (RdT.lower (rdT_of (xs := rowL (walkW j g (atW k (i : Nat)) 60) (fromL j g k2 j) (fromL j g k2 j).length) (by rw [rowL_len (Nat.le_refl _), fromL_len]; exact HOI.out) (by rw [rowL_len (Nat.le_refl _), fromL_len]; unfold maxLen; omega)) hbn)
              obtain ⟨za, zc, hzz, _⟩ := owns_shape HOI.out
              subst hzz
              have O7y := Lib.hid (ownL_below O7.out HBI.out)
              have O8y := Lib.hid (ownL_below O8.out HBI.out)
              have O9y := Lib.hid (ownL_below O9.out HBI.out)
              obtain ⟨us, how, hus⟩ := O9y.out
              have HUS := Lib.hid hus
              have HOW := Lib.hid how
              have hll : (tabL (fromL j g k j) (fromL j g k2 j) i).length = i := tabL_len (by rw [fromL_len]; omega)
              have hul : us.length = (tabL (fromL j g k j) (fromL j g k2 j) i).length := by have := how.1; omega
              have HUL := Lib.hid hul
              rw [hll] at HOW
              have HLL := Lib.hid hll
              clear how hus hul hll
              have hbs2 := HBSI.out
              go_wp2_with (at_builtin; refine wpList_append_lies _ rfl _ _ 39 rfl (w.heap.size + 3) 24 i1 (.slice none 0 0) 1 24 Tryd.underlying39 hi hz0 hz1 hz2 rfl (by decide) _ i _ rfl (HOW.out.alloc _) ⟨wr.heap.size, 0, none⟩ 1 1 [.slice za j zc] rfl rfl (cell_one_new _ _ _) ?c1 (by decide) ?c2 ?c3 ?c4 (wr.heap.size + 1) ?c5 ?_)
              case c1 => intro u hu; simp at hu; subst hu; rfl
              case c2 => unfold maxLen; omega
              case c3 => omega
              case c4 => simp; omega
              case c5 => simp
              intro gg cap w9 hown' hgrow hlie hlt9
              have HB9 := Lib.hid (below_grown (m := w.heap.size + 3) hgrow (fun b hb => (ownL_block O9y.out b hb).1) (by simp; omega))
              have HXA := Lib.hid (HXI.out.next (below_new wr (.cells #[.slice za j zc] 24)))
              have HX9 := Lib.hid (⟨HXA.out.road.nextAt (by omega) HB9.out, HXA.out.one.belowAt (by omega) HB9.out, HXA.out.two.belowAt (by omega) HB9.out⟩ : Box3 w.heap.size j g k (.slice ma ml mc) k2 (.slice ma2 ml2 mc2) w w9)
              have hA0 := fun b hb => (ownL_block O7y.out b hb).2.1
              have hB0 := fun b hb => (ownL_block O8y.out b hb).2.1
              have NA := Lib.hid (sep_next (n := i + 1) (c := cap) S97.out (H := wr.heap.size + 1) (fun b hb => Nat.lt_succ_of_lt (hA0 b hb)) hlie)
              have NB := Lib.hid (sep_next (n := i + 1) (c := cap) S98.out (H := wr.heap.size + 1) (fun b hb => Nat.lt_succ_of_lt (hB0 b hb)) hlie)
              have O9z := Lib.hid (ownL_below O9y.out (below_new wr (.cells #[.slice za j zc] 24)))
              have O7z := Lib.hid (ownL_sep (ownL_below O7y.out (below_new wr (.cells #[.slice za j zc] 24))) O9z.out hgrow S97.out)
              have O8z := Lib.hid (ownL_sep (ownL_below O8y.out (below_new wr (.cells #[.slice za j zc] 24))) O9z.out hgrow S98.out)
              have O9w := Lib.hid (ownL_append O9y.out HUS.out HUL.out HU9.out (by rw [HLL.out]; exact hown') hgrow)
              clear hgrow hown' hlie hlt9 hA0 hB0 hb0
              go_wp2_with fail
              go_roundw
              case rel =>
                refine ⟨HX9.out, i + 1, by omega, by go_num, ?_, O7z.out, O8z.out, NA.out, NB.out⟩
                rw [tabL_next (fromL_at j g k j i hlti)]
                exact O9w.out
              case measure => simp [intOf]; omega
        · have hie : i = p := by omega
          subst hie
          go_wp2_with fail
          go_ret
          exact ⟨_, rfl, ownL_lower O9.out (by omega), HX.out.road.below⟩
end Go.Proofs.YtiokgnabiidlbaaDoor
