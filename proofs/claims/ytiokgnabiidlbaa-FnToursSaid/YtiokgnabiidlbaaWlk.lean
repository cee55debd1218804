/-
  What is proved: the contracts of impl.arePlaces, impl.hasSteps, impl.areWalks and spec.l2Walk: both say of a list whether it is a walk. Conditions: slices that read as lists of numbers.
-/
import Derived.Test.YtiokgnabiidlbaaStp
import Derived.Test.YtiokgnabiidlbaaInt
import Derived.Deep.RegionWith
import Derived.IntWalk
import Derived.Deep.RegionHeld3
namespace Go.Proofs.Ytiokgnabiidlbaa
open Go.RowKit

/-- the answer is the truth of P -/
def Says (P : Prop) (w : World) (e : Ending) (w' : World) : Prop := ∃ b : Bool, e = .returned (.bool b) ∧ (b = true ↔ P) ∧ Below w.heap.size w w'
def Inside (n : Int) (xs : List Int) : Prop := ∀ (k : Nat) x, xs[k]? = some x → 0 ≤ x ∧ x < n
def Chain (n : Int) (g : Bool) (xs : List Int) : Prop := ∀ (k : Nat) a b, xs[k]? = some a → xs[k + 1]? = some b → gapI n g a b ≤ 1
def Walk (n : Int) (g : Bool) (xs : List Int) : Prop := roadB n g = true ∧ 1 ≤ xs.length ∧ xs.length ≤ 61 ∧ Inside n xs ∧ Chain n g xs
theorem says_no {P : Prop} {w w' : World} (h : ¬ P) (hb : Below w.heap.size w w') : Says P w (.returned (.bool false)) w' := ⟨false, rfl, ⟨fun h2 => (Bool.false_ne_true h2).elim, fun h2 => absurd h2 h⟩, hb⟩
theorem says_yes {P : Prop} {w w' : World} (h : P) (hb : Below w.heap.size w w') : Says P w (.returned (.bool true)) w' := ⟨true, rfl, ⟨fun _ => h, fun _ => rfl⟩, hb⟩
theorem head_snd (n : Int) (g : Bool) (p q : Int) : (headI n g p q).2 = true ↔ (afterI n g p = q ∨ beforeI n g p = q) := by
  unfold headI
  by_cases h : afterI n g p = q
  · simp [h]
  · by_cases h2 : beforeI n g p = q
    · simp [h, h2]
    · simp [h, h2]
theorem head_gap (n : Int) (g : Bool) (a b : Int) (hr : roadB n g = true) (ha : 0 ≤ a ∧ a < n) (hb : 0 ≤ b ∧ b < n) : ((headI n g a b).2 = true ∨ b = a) ↔ gapI n g a b ≤ 1 := by
  obtain ⟨h1, h2, h3⟩ := (roadB_iff n g).1 hr
  rw [head_snd]
  unfold afterI beforeI gapI
  cases g
  · simp only [Bool.false_eq_true, false_and, if_false]
    omega
  · have := h3 rfl
    simp only [true_and, if_true]
    by_cases c1 : a = n - 1
    · by_cases c2 : a = 0
      · omega
      · rw [if_pos c1, if_neg c2]
        omega
    · by_cases c2 : a = 0
      · rw [if_neg c1, if_pos c2]
        omega
      · rw [if_neg c1, if_neg c2]
        omega
def PlRel (n : Int) (xs : List Int) (r i : Value) : Prop := r = .bool false ∧ ∃ k : Nat, k ≤ xs.length ∧ i = .int .i64 k ∧ ∀ (j : Nat) x, j < k → xs[j]? = some x → 0 ≤ x ∧ x < n
set_option maxHeartbeats 400000 in
theorem arePlaces_any (n : Int) (g : Bool) (v : Value) (xs : List Int) (w : World) (hv : ReadsI w v xs) :
    Calls Try.prog 68 #[rd n g, v] w (Says (roadB n g = true ∧ Inside n xs) w) := by
  have hroad := Lib.hid (fun w => isRoad_any n g w)
  obtain ⟨a, c, rfl, hc, hm, hx⟩ := hv
  have HX := Lib.hid hx
  clear hx
  unfold maxLen at hm
  have HB := Lib.hid (Boxed.first w n g 25)
  unfold rd at *
  go_enter Try.func68, Try.ntmps68
  go_wp2_with fail
  generalize w.alloc (Obj.cells #[Value.int IntKind.i64 n, Value.bool g] 25) = w1 at *
  go_loop [4, 9] (fun r i => PlRel n xs r i) (fun _ i => xs.length - (intOf i).toNat)
  case atStart => exact ⟨rfl, 0, Nat.zero_le _, rfl, fun j x hj => by omega⟩
  case round =>
    obtain ⟨rfl, k, hk, rfl, hpre⟩ := hrel
    have HP := Lib.hid hpre
    clear hpre
    have hx0 := HB.out.c0
    by_cases hlt : k < xs.length
    · obtain ⟨x, hxk⟩ := get_some hlt
      obtain ⟨b, o, rfl, hbl, hcell⟩ := HX.out k x hxk
      have hcr : w1.cell? ⟨b, o + k, none⟩ = some (.int .i64 x) := (HB.out.below.cell (p := ⟨b, o + k, none⟩) hbl).trans hcell
      have HK := Lib.hid hxk
      clear hxk hcell
      by_cases h0 : x < 0
      · go_wp2_with fail
        go_ret
        exact says_no (fun h => by have := h.2 k x HK.out; omega) HB.out.below
      · by_cases h1 : n ≤ x
        · go_wp2_with fail
          go_ret
          exact says_no (fun h => by have := h.2 k x HK.out; omega) HB.out.below
        · go_wp2_with fail
          go_round
          case rel =>
            refine ⟨rfl, k + 1, by omega, by go_num, fun j y hj hy => ?_⟩
            rcases Nat.lt_succ_iff_lt_or_eq.1 hj with hj | rfl
            · exact HP.out j y hj hy
            · have e := HK.out.symm.trans hy
              cases e
              omega
          case measure => simp [intOf]; omega
    · have hx1 := HB.out.c1
      go_wp2_with fail
      refine (hroad.out _).mono ?_
      rintro e w2 ⟨rfl, hb⟩
      have HY := Lib.hid (HB.out.next hb)
      clear hb
      go_wp2_with fail
      go_ret
      refine ⟨_, rfl, ⟨fun h => ⟨h, fun j x hj => HP.out j x (by have := (List.getElem?_eq_some_iff.1 hj).1; omega) hj⟩, fun h => h.1⟩, HY.out.below⟩
/-- a boxed road and two cells of an older block -/
abbrev Keep4 (base : Nat) (n : Int) (g : Bool) (b i j : Nat) (u v : Value) (w w1 : World) : Prop :=
  Boxed base n g w w1 ∧ w1.cell? ⟨base, 0, none⟩ = some (.int .i64 n) ∧ w1.cell? ⟨base, 1, none⟩ = some (.bool g) ∧ w1.cell? ⟨b, i, none⟩ = some u ∧ w1.cell? ⟨b, j, none⟩ = some v
theorem keep4 {base : Nat} {n : Int} {g : Bool} {w w1 w2 : World} {b i j : Nat} {u v : Value} (h : Keep4 base n g b i j u v w w1) (hbl : b < base) (hb : Below w1.heap.size w1 w2) : Keep4 base n g b i j u v w w2 :=
  ⟨h.1.next hb, (h.1.next hb).c0, (h.1.next hb).c1, (hb.cell (p := ⟨b, i, none⟩) (Nat.lt_trans hbl h.1.size)).trans h.2.2.2.1, (hb.cell (p := ⟨b, j, none⟩) (Nat.lt_trans hbl h.1.size)).trans h.2.2.2.2⟩
theorem keep4_new {base : Nat} {n : Int} {g : Bool} {w w1 : World} {b i j : Nat} {u v : Value} (h : Boxed base n g w w1) (h3 : w1.cell? ⟨b, i, none⟩ = some u) (h4 : w1.cell? ⟨b, j, none⟩ = some v) : Keep4 base n g b i j u v w w1.drew :=
  ⟨h.next ⟨rfl, rfl, rfl, Nat.le_refl _, fun _ _ => rfl⟩, h.c0, h.c1, h3, h4⟩
def StRel (n : Int) (g : Bool) (xs : List Int) (base : Nat) (w : World) (r i : Value) (wr : World) : Prop :=
  r = .bool false ∧ Boxed base n g w wr ∧ ∃ t : Nat, 1 ≤ t ∧ t ≤ xs.length ∧ i = .int .i64 t ∧ ∀ (j : Nat) x y, j + 1 < t → xs[j]? = some x → xs[j + 1]? = some y → gapI n g x y ≤ 1
set_option maxHeartbeats 800000 in
theorem hasSteps_any (n : Int) (g : Bool) (v : Value) (xs : List Int) (w : World) (hv : ReadsI w v xs) (hr : roadB n g = true) (hl : 1 ≤ xs.length) (hin : Inside n xs) :
    Calls Try.prog 87 #[rd n g, v] w (Says (Chain n g xs) w) := by
  obtain ⟨a, c, rfl, hc, hm, hx⟩ := hv
  have HX := Lib.hid hx
  have HI := Lib.hid hin
  have HR := Lib.hid hr
  have hn : 2 ≤ n ∧ n ≤ 24 := ⟨((roadB_iff n g).1 hr).1, ((roadB_iff n g).1 hr).2.1⟩
  have Hn := Lib.hid hn
  clear hx hin hr hn
  unfold maxLen at hm
  have HB := Lib.hid (Boxed.first w n g 25)
  have HHO := Lib.hid (fun p q w hp => headingOf_any n g p q w Hn.out hp)
  unfold rd at *
  go_enter Try.func87, Try.ntmps87
  go_wp2_with fail
  go_loopw [4, 5] (fun r i wr => StRel n g xs w.heap.size w r i wr) (fun _ i _ => xs.length - (intOf i).toNat)
  case atStart => exact ⟨rfl, HB.out, 1, by omega, hl, rfl, fun j x y hj => by omega⟩
  case round =>
    obtain ⟨rfl, hx, t, ht, htl, rfl, hpre⟩ := hrel
    have HP := Lib.hid hpre
    have HW := Lib.hid hx
    obtain ⟨_, hxs, hx0, hx1⟩ := hx
    clear hpre HB
    by_cases hlt : t < xs.length
    · obtain ⟨k, rfl⟩ : ∃ k, t = k + 1 := ⟨t - 1, by omega⟩
      obtain ⟨x, hxk⟩ := get_some (xs := xs) (k := k) (by omega)
      obtain ⟨y, hyk⟩ := get_some hlt
      obtain ⟨b, o, rfl, hbl, hcx0⟩ := HX.out k x hxk
      obtain ⟨b', o', e, _, hcy0⟩ := HX.out (k + 1) y hyk
      cases e
      have HK := Lib.hid hxk
      have HY := Lib.hid hyk
      have HG := Lib.hid (head_gap n g x y HR.out (HI.out k x hxk) (HI.out (k + 1) y hyk))
      have HC := Lib.hid (HHO.out x y · (HI.out k x hxk))
      have hcx : wr.cell? ⟨b, o + (k + 1 - 1), none⟩ = some (.int .i64 x) := by
        rw [show k + 1 - 1 = k by omega]
        exact (HW.out.below.cell (p := ⟨b, o + k, none⟩) hbl).trans hcx0
      have hcy : wr.cell? ⟨b, o + (k + 1), none⟩ = some (.int .i64 y) := (HW.out.below.cell (p := ⟨b, o + (k + 1), none⟩) hbl).trans hcy0
      clear hcx0 hcy0 hxk hyk
      have hbw : b < wr.heap.size := Nat.lt_of_lt_of_le hbl HW.out.below.size
      generalize hT : k + 1 = t at *
      have hi0 : 0 ≤ (t : Int) := by omega
      have hi1 : (t : Int) < xs.length := by omega
      have hi2 : 0 ≤ (t : Int) - 1 := by omega
      have hi3 : (t : Int) - 1 < xs.length := by omega
      have hi4 : 1 ≤ (t : Int) := by omega
      have hi5 : (t : Int) < xs.length + 1 := by omega
      have HT := Lib.hid hT
      clear hT
      have hw1 : IntKind.i64.wrap ((t : Int) - 1) = (t : Int) - 1 := IntWalk.i64_in _ (by omega)
      have HW1 := Lib.hid hw1
      clear hw1
      go_wp2_with fail
      have hw1 := HW1.out
      go_region_held3 (fun w' => Boxed w.heap.size n g w w' ∧ w'.cell? ⟨w.heap.size, 0, none⟩ = some (.int .i64 n) ∧ w'.cell? ⟨w.heap.size, 1, none⟩ = some (.bool g) ∧ w'.cell? ⟨b, o + (t - 1), none⟩ = some (.int .i64 x) ∧ w'.cell? ⟨b, o + t, none⟩ = some (.int .i64 y)) (first | exact hS | exact keep4_new HW.out hcx hcy) (first | (go_at_call 49; refine (HC.out _).mono ?_; rintro e w2 ⟨rfl, hb⟩; have hS : Keep4 w.heap.size n g b (o + (t - 1)) (o + t) (.int .i64 x) (.int .i64 y) w w2 := keep4 (by assumption) hbl hb; clear hb))
      clear hw1
      obtain ⟨hB, hy0, hy1, hdx, hdy⟩ := hS
      have HZ := Lib.hid hB
      clear hB
      have hcur : (headI n g x y).2 = true ∨ y = x → ∀ (j : Nat) (p q : Int), j + 1 < t + 1 → xs[j]? = some p → xs[j + 1]? = some q → gapI n g p q ≤ 1 := by
        intro hor j p q hj hp hq
        rcases Nat.lt_succ_iff_lt_or_eq.1 hj with hj | hj
        · exact HP.out j p q hj hp hq
        · have e1 : j = k := by have := HT.out; omega
          subst e1
          have e2 := HK.out.symm.trans hp
          rw [hj] at hq
          have e3 := HY.out.symm.trans hq
          cases e2
          cases e3
          exact HG.out.1 hor
      have HQ := Lib.hid hcur
      clear hcur
      cases hh : (headI n g x y).2
      · by_cases hxy : y = x
        · have hne : (!(y == x)) = false := by simp [hxy]
          have hw1 := HW1.out
          go_wp2_with fail
          go_quiet (fail)
          clear hw1
          go_wp2_with fail
          go_roundw
          case rel => exact ⟨rfl, HZ.out.next (below_drewN _ _), t + 1, by omega, by omega, by go_num, HQ.out (.inr hxy)⟩
          case measure => simp [intOf]; omega
        · have hne : (!(y == x)) = true := by simp [hxy]
          have hw1 := HW1.out
          go_wp2_with fail
          go_quiet (fail)
          clear hw1
          go_wp2_with fail
          go_ret
          refine says_no (fun h => ?_) (HZ.out.next (below_drewN _ _)).below
          have := h k x y HK.out (by rw [HT.out]; exact HY.out)
          rcases HG.out.2 this with h3 | h3
          · rw [hh] at h3
            cases h3
          · exact hxy h3
      · go_wp2_with fail
        go_quiet (fail)
        go_wp2_with fail
        go_roundw
        case rel => exact ⟨rfl, HZ.out.next (below_drewN _ _), t + 1, by omega, by omega, by go_num, HQ.out (.inl hh)⟩
        case measure => simp [intOf]; omega
    · go_wp2_with fail
      go_ret
      refine says_yes (fun j p q hp hq => HP.out j p q ?_ hp hq) HW.out.below
      have := (List.getElem?_eq_some_iff.1 hq).1
      omega
def WkRel (n : Int) (g : Bool) (xs : List Int) (base : Nat) (w : World) (r i : Value) (wr : World) : Prop :=
  r = .bool false ∧ Boxed base n g w wr ∧ ∃ t : Nat, t ≤ xs.length ∧ t ≤ 61 ∧ i = .int .i64 t ∧ (0 < t → roadB n g = true) ∧ (∀ (j : Nat) x, j < t → xs[j]? = some x → 0 ≤ x ∧ x < n) ∧ (∀ (j : Nat) x y, j + 1 < t → xs[j]? = some x → xs[j + 1]? = some y → gapI n g x y ≤ 1)
set_option maxHeartbeats 1600000 in
set_option linter.unusedSimpArgs false in
theorem l2Walk_any (n : Int) (g : Bool) (v : Value) (xs : List Int) (w : World) (hv : ReadsI w v xs) :
    Calls Try.prog 45 #[rd n g, v] w (Says (Walk n g xs) w) := by
  obtain ⟨a, c, rfl, hc, hm, hx⟩ := hv
  have HX := Lib.hid hx
  clear hx
  unfold maxLen at hm
  have HB := Lib.hid (Boxed.first w n g 25)
  have HPL := Lib.hid (fun p w => l2Place_any n g p w)
  have HRO := Lib.hid (fun w => l2Road_any n g w)
  have HIN := Lib.hid (fun w => l1In_any xs.length 1 61 w)
  have HGA := Lib.hid (fun p q w hn ha hb => l2Gap_any n g p q w hn ha hb)
  unfold rd at *
  go_enter Try.func45, Try.ntmps45
  go_wp2_with fail
  go_loopw [4, 5] (fun r i wr => WkRel n g xs w.heap.size w r i wr) (fun _ i _ => xs.length - (intOf i).toNat)
  case atStart => exact ⟨rfl, HB.out, 0, Nat.zero_le _, Nat.zero_le _, rfl, fun h => by omega, fun j x hj => by omega, fun j x y hj => by omega⟩
  case round =>
    obtain ⟨rfl, hx, t, htl, ht61, rfl, hroad, hins, hpre⟩ := hrel
    have HR := Lib.hid hroad
    have HI := Lib.hid hins
    have HP := Lib.hid hpre
    have HW := Lib.hid hx
    obtain ⟨_, hxs, hx0, hx1⟩ := hx
    clear hpre HB hroad hins
    by_cases hlt : t < xs.length
    · by_cases h60 : t ≤ 60
      · obtain ⟨y, hyk⟩ := get_some hlt
        obtain ⟨b, o, rfl, hbl, hcy0⟩ := HX.out t y hyk
        have hcy : wr.cell? ⟨b, o + t, none⟩ = some (.int .i64 y) := (HW.out.below.cell (p := ⟨b, o + t, none⟩) hbl).trans hcy0
        have HY := Lib.hid hyk
        have hi0 : 0 ≤ (t : Int) := by omega
        have hi1 : (t : Int) < xs.length := by omega
        clear hyk hcy0
        by_cases hpl : placeB n g y = true
        · have hpp := (placeB_iff n g y).1 hpl
          have HPP := Lib.hid hpp
          have hc := HPL.out y
          rw [hpl] at hc
          have HC := Lib.hid hc
          clear hc
          clear hpp
          by_cases h0 : t = 0
          · subst h0
            have hcy : wr.cell? ⟨b, o, none⟩ = some (.int .i64 y) := hcy
            go_wp2_with fail
            refine wp_region_noPanic ?_
            refine wp_region_held_drew (S := fun w' => Boxed w.heap.size n g w w' ∧ w'.cell? ⟨w.heap.size, 0, none⟩ = some (.int .i64 n) ∧ w'.cell? ⟨w.heap.size, 1, none⟩ = some (.bool g) ∧ w'.cell? ⟨b, o, none⟩ = some (.int .i64 y) ∧ w'.cell? ⟨b, o, none⟩ = some (.int .i64 y)) (by kernel_rfl) (keep4_new HW.out hcy hcy) (fun hHeld => ?_)
            refine wpAnyH_take (i := 0) (oi := _) (v := ?_) rfl (by kernel_rfl) (by kernel_rfl) (by kernel_rfl) (fun _ _ _ h => h) (Or.inl ⟨by rfl, ?_⟩) (by assumption) ?_
            rotate_left
            · (intro w hSw; (try dsimp only at hSw); (first | (go_simp; done) | (go_simp; with_reducible rfl)))
            simp only [Act.put, List.getElem_toArray, List.getElem_cons_succ, List.getElem_cons_zero, List.setIfInBounds_toArray, List.set_cons_zero, List.set_cons_succ]
            refine wpAnyH_take (i := 1) (oi := _) (v := ?_) rfl (by kernel_rfl) (by kernel_rfl) (by kernel_rfl) (fun _ _ _ h => h) (Or.inl ⟨by rfl, ?_⟩) (by assumption) ?_
            rotate_left
            · (intro w hSw; (try dsimp only at hSw); (first | (go_simp; done) | (go_simp; with_reducible rfl)))
            simp only [Act.put, List.getElem_toArray, List.getElem_cons_succ, List.getElem_cons_zero, List.setIfInBounds_toArray, List.set_cons_zero, List.set_cons_succ]
            refine wpAnyH_take (i := 2) (oi := _) (v := ?_) rfl (by kernel_rfl) (by kernel_rfl) (by kernel_rfl) (fun _ _ _ h => h) (Or.inl ⟨by rfl, ?_⟩) (by assumption) ?_
            rotate_left
            · (intro w hSw; (try dsimp only at hSw); (first | (go_simp; done) | (go_simp; with_reducible rfl)))
            simp only [Act.put, List.getElem_toArray, List.getElem_cons_succ, List.getElem_cons_zero, List.setIfInBounds_toArray, List.set_cons_zero, List.set_cons_succ]
            refine wpAnyH_take (i := 3) (oi := _) (v := ?_) rfl (by kernel_rfl) (by kernel_rfl) (by kernel_rfl) (fun _ _ _ h => h) (Or.inl ⟨by rfl, ?_⟩) (by assumption) ?_
            rotate_left
            · (intro w hSw; (try dsimp only at hSw); (first | (go_simp; done) | (go_simp; with_reducible rfl)))
            simp only [Act.put, List.getElem_toArray, List.getElem_cons_succ, List.getElem_cons_zero, List.setIfInBounds_toArray, List.set_cons_zero, List.set_cons_succ]
            refine wpAnyH_take (i := 4) (oi := _) (v := ?_) rfl (by kernel_rfl) (by kernel_rfl) (by kernel_rfl) (fun _ _ _ h => h) (Or.inl ⟨by rfl, ?_⟩) (by assumption) ?_
            rotate_left
            · (intro w hSw; (try dsimp only at hSw); (first | (go_simp; done) | (go_simp; with_reducible rfl)))
            simp only [Act.put, List.getElem_toArray, List.getElem_cons_succ, List.getElem_cons_zero, List.setIfInBounds_toArray, List.set_cons_zero, List.set_cons_succ]
            refine wpAnyH_ready (rs := [5]) (by kernel_rfl) (by simp) ?_
            refine AllReadyH.cons rfl (fun K hK => ?_) AllReadyH.nil
            go_simp
            refine (HC.out _).mono ?_
            rintro e w2 ⟨rfl, hb⟩
            have hS := keep4 hHeld hbl hb
            clear hb hHeld
            go_wp2_with fail
            refine hK.out _ _ (hS) (fun hHeld => ?_)
            clear hK K
            refine wpAnyH_take (i := 6) (oi := _) (v := ?_) rfl (by kernel_rfl) (by kernel_rfl) (by kernel_rfl) (fun _ _ _ h => h) (Or.inl ⟨by rfl, ?_⟩) (by assumption) ?_
            rotate_left
            · (intro w hSw; (try dsimp only at hSw); (first | (go_simp; done) | (go_simp; with_reducible rfl)))
            simp only [Act.put, List.getElem_toArray, List.getElem_cons_succ, List.getElem_cons_zero, List.setIfInBounds_toArray, List.set_cons_zero, List.set_cons_succ]
            refine wpAnyH_take (i := 7) (oi := _) (v := ?_) rfl (by kernel_rfl) (by kernel_rfl) (by kernel_rfl) (fun _ _ _ h => h) (Or.inl ⟨by rfl, ?_⟩) (by assumption) ?_
            rotate_left
            · (intro w hSw; (try dsimp only at hSw); (first | (go_simp; done) | (go_simp; with_reducible rfl)))
            simp only [Act.put, List.getElem_toArray, List.getElem_cons_succ, List.getElem_cons_zero, List.setIfInBounds_toArray, List.set_cons_zero, List.set_cons_succ]
            refine wpAnyH_take (i := 8) (oi := _) (v := ?_) rfl (by kernel_rfl) (by kernel_rfl) (by kernel_rfl) (fun _ _ _ h => h) (Or.inl ⟨by rfl, ?_⟩) (by assumption) ?_
            rotate_left
            · (intro w hSw; (try dsimp only at hSw); (first | (go_simp; done) | (go_simp; with_reducible rfl)))
            simp only [Act.put, List.getElem_toArray, List.getElem_cons_succ, List.getElem_cons_zero, List.setIfInBounds_toArray, List.set_cons_zero, List.set_cons_succ]
            refine wpAnyH_take (i := 9) (oi := _) (v := ?_) rfl (by kernel_rfl) (by kernel_rfl) (by kernel_rfl) (fun _ _ _ h => h) (Or.inl ⟨by rfl, ?_⟩) (by assumption) ?_
            rotate_left
            · (intro w hSw; (try dsimp only at hSw); (first | (go_simp; done) | (go_simp; with_reducible rfl)))
            simp only [Act.put, List.getElem_toArray, List.getElem_cons_succ, List.getElem_cons_zero, List.setIfInBounds_toArray, List.set_cons_zero, List.set_cons_succ]
            refine wpAnyH_take (i := 10) (oi := _) (v := ?_) rfl (by kernel_rfl) (by kernel_rfl) (by kernel_rfl) (fun _ _ _ h => h) (Or.inl ⟨by rfl, ?_⟩) (by assumption) ?_
            rotate_left
            · (intro w hSw; (try dsimp only at hSw); (first | (go_simp; done) | (go_simp; with_reducible rfl)))
            simp only [Act.put, List.getElem_toArray, List.getElem_cons_succ, List.getElem_cons_zero, List.setIfInBounds_toArray, List.set_cons_zero, List.set_cons_succ]
            refine wpAnyH_take (i := 11) (oi := _) (v := undef) rfl (by kernel_rfl) (by kernel_rfl) (by kernel_rfl) (fun _ _ _ h => h) (Or.inr ⟨by rfl, rfl⟩) (by assumption) ?_
            simp only [Act.put, List.getElem_toArray, List.getElem_cons_succ, List.getElem_cons_zero, List.setIfInBounds_toArray, List.set_cons_zero, List.set_cons_succ]
            refine wpAnyH_take (i := 12) (oi := _) (v := undef) rfl (by kernel_rfl) (by kernel_rfl) (by kernel_rfl) (fun _ _ _ h => h) (Or.inr ⟨by rfl, rfl⟩) (by assumption) ?_
            simp only [Act.put, List.getElem_toArray, List.getElem_cons_succ, List.getElem_cons_zero, List.setIfInBounds_toArray, List.set_cons_zero, List.set_cons_succ]
            refine wpAnyH_take (i := 13) (oi := _) (v := undef) rfl (by kernel_rfl) (by kernel_rfl) (by kernel_rfl) (fun _ _ _ h => h) (Or.inr ⟨by rfl, rfl⟩) (by assumption) ?_
            simp only [Act.put, List.getElem_toArray, List.getElem_cons_succ, List.getElem_cons_zero, List.setIfInBounds_toArray, List.set_cons_zero, List.set_cons_succ]
            refine wpAnyH_take (i := 14) (oi := _) (v := undef) rfl (by kernel_rfl) (by kernel_rfl) (by kernel_rfl) (fun _ _ _ h => h) (Or.inr ⟨by rfl, rfl⟩) (by assumption) ?_
            simp only [Act.put, List.getElem_toArray, List.getElem_cons_succ, List.getElem_cons_zero, List.setIfInBounds_toArray, List.set_cons_zero, List.set_cons_succ]
            refine wpAnyH_take (i := 15) (oi := _) (v := undef) rfl (by kernel_rfl) (by kernel_rfl) (by kernel_rfl) (fun _ _ _ h => h) (Or.inr ⟨by rfl, rfl⟩) (by assumption) ?_
            simp only [Act.put, List.getElem_toArray, List.getElem_cons_succ, List.getElem_cons_zero, List.setIfInBounds_toArray, List.set_cons_zero, List.set_cons_succ]
            refine wpAnyH_take (i := 16) (oi := _) (v := undef) rfl (by kernel_rfl) (by kernel_rfl) (by kernel_rfl) (fun _ _ _ h => h) (Or.inr ⟨by rfl, rfl⟩) (by assumption) ?_
            simp only [Act.put, List.getElem_toArray, List.getElem_cons_succ, List.getElem_cons_zero, List.setIfInBounds_toArray, List.set_cons_zero, List.set_cons_succ]
            refine wpAnyH_take (i := 17) (oi := _) (v := undef) rfl (by kernel_rfl) (by kernel_rfl) (by kernel_rfl) (fun _ _ _ h => h) (Or.inr ⟨by rfl, rfl⟩) (by assumption) ?_
            simp only [Act.put, List.getElem_toArray, List.getElem_cons_succ, List.getElem_cons_zero, List.setIfInBounds_toArray, List.set_cons_zero, List.set_cons_succ]
            refine wpAnyH_take (i := 18) (oi := _) (v := undef) rfl (by kernel_rfl) (by kernel_rfl) (by kernel_rfl) (fun _ _ _ h => h) (Or.inr ⟨by rfl, rfl⟩) (by assumption) ?_
            simp only [Act.put, List.getElem_toArray, List.getElem_cons_succ, List.getElem_cons_zero, List.setIfInBounds_toArray, List.set_cons_zero, List.set_cons_succ]
            refine wpAnyH_take (i := 19) (oi := _) (v := undef) rfl (by kernel_rfl) (by kernel_rfl) (by kernel_rfl) (fun _ _ _ h => h) (Or.inr ⟨by rfl, rfl⟩) (by assumption) ?_
            simp only [Act.put, List.getElem_toArray, List.getElem_cons_succ, List.getElem_cons_zero, List.setIfInBounds_toArray, List.set_cons_zero, List.set_cons_succ]
            refine wpAnyH_take (i := 20) (oi := _) (v := undef) rfl (by kernel_rfl) (by kernel_rfl) (by kernel_rfl) (fun _ _ _ h => h) (Or.inr ⟨by rfl, rfl⟩) (by assumption) ?_
            simp only [Act.put, List.getElem_toArray, List.getElem_cons_succ, List.getElem_cons_zero, List.setIfInBounds_toArray, List.set_cons_zero, List.set_cons_succ]
            refine wpAnyH_take (i := 21) (oi := _) (v := undef) rfl (by kernel_rfl) (by kernel_rfl) (by kernel_rfl) (fun _ _ _ h => h) (Or.inr ⟨by rfl, rfl⟩) (by assumption) ?_
            simp only [Act.put, List.getElem_toArray, List.getElem_cons_succ, List.getElem_cons_zero, List.setIfInBounds_toArray, List.set_cons_zero, List.set_cons_succ]
            refine wpAnyH_take (i := 22) (oi := _) (v := undef) rfl (by kernel_rfl) (by kernel_rfl) (by kernel_rfl) (fun _ _ _ h => h) (Or.inr ⟨by rfl, rfl⟩) (by assumption) ?_
            simp only [Act.put, List.getElem_toArray, List.getElem_cons_succ, List.getElem_cons_zero, List.setIfInBounds_toArray, List.set_cons_zero, List.set_cons_succ]
            refine wpAnyH_take (i := 23) (oi := _) (v := ?_) rfl (by kernel_rfl) (by kernel_rfl) (by kernel_rfl) (fun _ _ _ h => h) (Or.inl ⟨by rfl, ?_⟩) (by assumption) ?_
            rotate_left
            · (intro w hSw; (try dsimp only at hSw); (first | (go_simp; done) | (go_simp; with_reducible rfl)))
            simp only [Act.put, List.getElem_toArray, List.getElem_cons_succ, List.getElem_cons_zero, List.setIfInBounds_toArray, List.set_cons_zero, List.set_cons_succ]
            refine wpAnyH_take (i := 24) (oi := _) (v := ?_) rfl (by kernel_rfl) (by kernel_rfl) (by kernel_rfl) (fun _ _ _ h => h) (Or.inl ⟨by rfl, ?_⟩) (by assumption) ?_
            rotate_left
            · (intro w hSw; (try dsimp only at hSw); (first | (go_simp; done) | (go_simp; with_reducible rfl)))
            simp only [Act.put, List.getElem_toArray, List.getElem_cons_succ, List.getElem_cons_zero, List.setIfInBounds_toArray, List.set_cons_zero, List.set_cons_succ]
            refine wpAnyH_done (by kernel_rfl) ?_ _
            refine NoPanic.normal ?_
            have HZ := Lib.hid hHeld.1
            clear hHeld
            go_wp2_with fail
            go_roundw
            case rel =>
              refine ⟨rfl, HZ.out, 1, by omega, by omega, rfl, fun _ => HPP.out.1, fun j x hj hx => ?_, fun j x z hj => by omega⟩
              obtain rfl : j = 0 := by omega
              have e := HY.out.symm.trans hx
              cases e
              exact HPP.out.2
            case measure => simp [intOf]; omega
          · obtain ⟨k, rfl⟩ : ∃ k, t = k + 1 := ⟨t - 1, by omega⟩
            obtain ⟨x, hxk⟩ := get_some (xs := xs) (k := k) (by omega)
            obtain ⟨b', o', e, _, hcx0⟩ := HX.out k x hxk
            cases e
            have HK := Lib.hid hxk
            have hrn := (roadB_iff n g).1 HPP.out.1
            have hxin := HI.out k x (by omega) hxk
            have HGC := Lib.hid (HGA.out x y · ⟨by omega, hrn.2.1⟩ ⟨hxin.1, by omega⟩ ⟨HPP.out.2.1, by have := HPP.out.2.2; omega⟩)
            have hcx : wr.cell? ⟨b, o + (k + 1 - 1), none⟩ = some (.int .i64 x) := by
              rw [show k + 1 - 1 = k by omega]
              exact (HW.out.below.cell (p := ⟨b, o + k, none⟩) hbl).trans hcx0
            clear hcx0 hxk hrn hxin h0
            generalize hT : k + 1 = t at *
            have HT := Lib.hid hT
            have hi2 : 0 ≤ (t : Int) - 1 := by omega
            have hi3 : (t : Int) - 1 < xs.length := by omega
            have hi4 : 1 ≤ (t : Int) := by omega
            have hi5 : (t : Int) < xs.length + 1 := by omega
            have hi6 : 0 < (t : Int) := by omega
            have hi7 : 0 < t := by omega
            clear hT
            have hw1 : IntKind.i64.wrap ((t : Int) - 1) = (t : Int) - 1 := IntWalk.i64_in _ (by omega)
            have HW1 := Lib.hid hw1
            clear hw1
            have hcur : gapI n g x y ≤ 1 → ∀ (j : Nat) (p q : Int), j + 1 < t + 1 → xs[j]? = some p → xs[j + 1]? = some q → gapI n g p q ≤ 1 := by
              intro hgap j p q hj hp hq
              rcases Nat.lt_succ_iff_lt_or_eq.1 hj with hj | hj
              · exact HP.out j p q hj hp hq
              · have e1 : j = k := by have := HT.out; omega
                subst e1
                have e2 := HK.out.symm.trans hp
                rw [hj] at hq
                have e3 := HY.out.symm.trans hq
                cases e2
                cases e3
                exact hgap
            have HQ := Lib.hid hcur
            clear hcur
            by_cases hgap : 1 < gapI n g x y
            · go_wp2_with fail
              have hw1 := HW1.out
              go_region_held3 (fun w' => Boxed w.heap.size n g w w' ∧ w'.cell? ⟨w.heap.size, 0, none⟩ = some (.int .i64 n) ∧ w'.cell? ⟨w.heap.size, 1, none⟩ = some (.bool g) ∧ w'.cell? ⟨b, o + (t - 1), none⟩ = some (.int .i64 x) ∧ w'.cell? ⟨b, o + t, none⟩ = some (.int .i64 y)) (first | exact hS | exact keep4_new HW.out hcx hcy) (first | (go_at_call 71; refine (HC.out _).mono ?_; rintro e w2 ⟨rfl, hb⟩; have hS : Keep4 w.heap.size n g b (o + (t - 1)) (o + t) (.int .i64 x) (.int .i64 y) w w2 := keep4 (by assumption) hbl hb; clear hb) | (go_at_call 88; refine (HGC.out _).mono ?_; rintro e w3 ⟨rfl, hb⟩; have hS : Keep4 w.heap.size n g b (o + (t - 1)) (o + t) (.int .i64 x) (.int .i64 y) w w3 := keep4 (by assumption) hbl hb; clear hb))
              clear hw1
              have HZ := Lib.hid hS.1
              clear hS
              go_wp2_with fail
              go_ret
              refine says_no (fun h => ?_) HZ.out.below
              have := h.2.2.2.2 k x y HK.out (by rw [HT.out]; exact HY.out)
              omega
            · go_wp2_with fail
              have hw1 := HW1.out
              go_region_held3 (fun w' => Boxed w.heap.size n g w w' ∧ w'.cell? ⟨w.heap.size, 0, none⟩ = some (.int .i64 n) ∧ w'.cell? ⟨w.heap.size, 1, none⟩ = some (.bool g) ∧ w'.cell? ⟨b, o + (t - 1), none⟩ = some (.int .i64 x) ∧ w'.cell? ⟨b, o + t, none⟩ = some (.int .i64 y)) (first | exact hS | exact keep4_new HW.out hcx hcy) (first | (go_at_call 71; refine (HC.out _).mono ?_; rintro e w2 ⟨rfl, hb⟩; have hS : Keep4 w.heap.size n g b (o + (t - 1)) (o + t) (.int .i64 x) (.int .i64 y) w w2 := keep4 (by assumption) hbl hb; clear hb) | (go_at_call 88; refine (HGC.out _).mono ?_; rintro e w3 ⟨rfl, hb⟩; have hS : Keep4 w.heap.size n g b (o + (t - 1)) (o + t) (.int .i64 x) (.int .i64 y) w w3 := keep4 (by assumption) hbl hb; clear hb))
              clear hw1
              have HZ := Lib.hid hS.1
              clear hS
              go_wp2_with fail
              go_roundw
              case rel =>
                refine ⟨rfl, HZ.out, t + 1, by omega, by omega, by go_num, fun _ => HPP.out.1, fun j p hj hp => ?_, HQ.out (by omega)⟩
                rcases Nat.lt_succ_iff_lt_or_eq.1 hj with hj | rfl
                · exact HI.out j p hj hp
                · have e := HY.out.symm.trans hp
                  cases e
                  exact HPP.out.2
              case measure => simp [intOf]; omega
        · have hc := HPL.out y
          have hpf : placeB n g y = false := by cases h : placeB n g y <;> simp_all
          rw [hpf] at hc
          have HC := Lib.hid hc
          have HPP := Lib.hid hpl
          clear hc hpl hpf
          go_wp2_with fail
          refine wp_region_noPanic ?_
          refine wp_region_held_drew (S := fun w' => Boxed w.heap.size n g w w' ∧ w'.cell? ⟨w.heap.size, 0, none⟩ = some (.int .i64 n) ∧ w'.cell? ⟨w.heap.size, 1, none⟩ = some (.bool g) ∧ w'.cell? ⟨b, o + t, none⟩ = some (.int .i64 y) ∧ w'.cell? ⟨b, o + t, none⟩ = some (.int .i64 y)) (by kernel_rfl) (keep4_new HW.out hcy hcy) (fun hHeld => ?_)
          refine wpAnyH_take (i := 0) (oi := _) (v := ?_) rfl (by kernel_rfl) (by kernel_rfl) (by kernel_rfl) (fun _ _ _ h => h) (Or.inl ⟨by rfl, ?_⟩) (by assumption) ?_
          rotate_left
          · (intro w hSw; (try dsimp only at hSw); (first | (go_simp; done) | (go_simp; with_reducible rfl)))
          simp only [Act.put, List.getElem_toArray, List.getElem_cons_succ, List.getElem_cons_zero, List.setIfInBounds_toArray, List.set_cons_zero, List.set_cons_succ]
          refine wpAnyH_take (i := 1) (oi := _) (v := ?_) rfl (by kernel_rfl) (by kernel_rfl) (by kernel_rfl) (fun _ _ _ h => h) (Or.inl ⟨by rfl, ?_⟩) (by assumption) ?_
          rotate_left
          · (intro w hSw; (try dsimp only at hSw); (first | (go_simp; done) | (go_simp; with_reducible rfl)))
          simp only [Act.put, List.getElem_toArray, List.getElem_cons_succ, List.getElem_cons_zero, List.setIfInBounds_toArray, List.set_cons_zero, List.set_cons_succ]
          refine wpAnyH_take (i := 2) (oi := _) (v := ?_) rfl (by kernel_rfl) (by kernel_rfl) (by kernel_rfl) (fun _ _ _ h => h) (Or.inl ⟨by rfl, ?_⟩) (by assumption) ?_
          rotate_left
          · (intro w hSw; (try dsimp only at hSw); (first | (go_simp; done) | (go_simp; with_reducible rfl)))
          simp only [Act.put, List.getElem_toArray, List.getElem_cons_succ, List.getElem_cons_zero, List.setIfInBounds_toArray, List.set_cons_zero, List.set_cons_succ]
          refine wpAnyH_take (i := 3) (oi := _) (v := ?_) rfl (by kernel_rfl) (by kernel_rfl) (by kernel_rfl) (fun _ _ _ h => h) (Or.inl ⟨by rfl, ?_⟩) (by assumption) ?_
          rotate_left
          · (intro w hSw; (try dsimp only at hSw); (first | (go_simp; done) | (go_simp; with_reducible rfl)))
          simp only [Act.put, List.getElem_toArray, List.getElem_cons_succ, List.getElem_cons_zero, List.setIfInBounds_toArray, List.set_cons_zero, List.set_cons_succ]
          refine wpAnyH_take (i := 4) (oi := _) (v := ?_) rfl (by kernel_rfl) (by kernel_rfl) (by kernel_rfl) (fun _ _ _ h => h) (Or.inl ⟨by rfl, ?_⟩) (by assumption) ?_
          rotate_left
          · (intro w hSw; (try dsimp only at hSw); (first | (go_simp; done) | (go_simp; with_reducible rfl)))
          simp only [Act.put, List.getElem_toArray, List.getElem_cons_succ, List.getElem_cons_zero, List.setIfInBounds_toArray, List.set_cons_zero, List.set_cons_succ]
          refine wpAnyH_ready (rs := [5]) (by kernel_rfl) (by simp) ?_
          refine AllReadyH.cons rfl (fun K hK => ?_) AllReadyH.nil
          go_simp
          refine (HC.out _).mono ?_
          rintro e w2 ⟨rfl, hb⟩
          have hS := keep4 hHeld hbl hb
          clear hb hHeld
          go_wp2_with fail
          refine hK.out _ _ (hS) (fun hHeld => ?_)
          clear hK K
          refine wpAnyH_take (i := 6) (oi := _) (v := ?_) rfl (by kernel_rfl) (by kernel_rfl) (by kernel_rfl) (fun _ _ _ h => h) (Or.inl ⟨by rfl, ?_⟩) (by assumption) ?_
          rotate_left
          · (intro w hSw; (try dsimp only at hSw); (first | (go_simp; done) | (go_simp; with_reducible rfl)))
          simp only [Act.put, List.getElem_toArray, List.getElem_cons_succ, List.getElem_cons_zero, List.setIfInBounds_toArray, List.set_cons_zero, List.set_cons_succ]
          refine wpAnyH_take (i := 7) (oi := _) (v := ?_) rfl (by kernel_rfl) (by kernel_rfl) (by kernel_rfl) (fun _ _ _ h => h) (Or.inl ⟨by rfl, ?_⟩) (by assumption) ?_
          rotate_left
          · (intro w hSw; (try dsimp only at hSw); (first | (go_simp; done) | (go_simp; with_reducible rfl)))
          simp only [Act.put, List.getElem_toArray, List.getElem_cons_succ, List.getElem_cons_zero, List.setIfInBounds_toArray, List.set_cons_zero, List.set_cons_succ]
          refine wpAnyH_take (i := 8) (oi := _) (v := undef) rfl (by kernel_rfl) (by kernel_rfl) (by kernel_rfl) (fun _ _ _ h => h) (Or.inr ⟨by rfl, rfl⟩) (by assumption) ?_
          simp only [Act.put, List.getElem_toArray, List.getElem_cons_succ, List.getElem_cons_zero, List.setIfInBounds_toArray, List.set_cons_zero, List.set_cons_succ]
          refine wpAnyH_take (i := 9) (oi := _) (v := undef) rfl (by kernel_rfl) (by kernel_rfl) (by kernel_rfl) (fun _ _ _ h => h) (Or.inr ⟨by rfl, rfl⟩) (by assumption) ?_
          simp only [Act.put, List.getElem_toArray, List.getElem_cons_succ, List.getElem_cons_zero, List.setIfInBounds_toArray, List.set_cons_zero, List.set_cons_succ]
          refine wpAnyH_take (i := 10) (oi := _) (v := undef) rfl (by kernel_rfl) (by kernel_rfl) (by kernel_rfl) (fun _ _ _ h => h) (Or.inr ⟨by rfl, rfl⟩) (by assumption) ?_
          simp only [Act.put, List.getElem_toArray, List.getElem_cons_succ, List.getElem_cons_zero, List.setIfInBounds_toArray, List.set_cons_zero, List.set_cons_succ]
          refine wpAnyH_take (i := 11) (oi := _) (v := undef) rfl (by kernel_rfl) (by kernel_rfl) (by kernel_rfl) (fun _ _ _ h => h) (Or.inr ⟨by rfl, rfl⟩) (by assumption) ?_
          simp only [Act.put, List.getElem_toArray, List.getElem_cons_succ, List.getElem_cons_zero, List.setIfInBounds_toArray, List.set_cons_zero, List.set_cons_succ]
          refine wpAnyH_take (i := 12) (oi := _) (v := undef) rfl (by kernel_rfl) (by kernel_rfl) (by kernel_rfl) (fun _ _ _ h => h) (Or.inr ⟨by rfl, rfl⟩) (by assumption) ?_
          simp only [Act.put, List.getElem_toArray, List.getElem_cons_succ, List.getElem_cons_zero, List.setIfInBounds_toArray, List.set_cons_zero, List.set_cons_succ]
          refine wpAnyH_take (i := 13) (oi := _) (v := undef) rfl (by kernel_rfl) (by kernel_rfl) (by kernel_rfl) (fun _ _ _ h => h) (Or.inr ⟨by rfl, rfl⟩) (by assumption) ?_
          simp only [Act.put, List.getElem_toArray, List.getElem_cons_succ, List.getElem_cons_zero, List.setIfInBounds_toArray, List.set_cons_zero, List.set_cons_succ]
          refine wpAnyH_take (i := 14) (oi := _) (v := undef) rfl (by kernel_rfl) (by kernel_rfl) (by kernel_rfl) (fun _ _ _ h => h) (Or.inr ⟨by rfl, rfl⟩) (by assumption) ?_
          simp only [Act.put, List.getElem_toArray, List.getElem_cons_succ, List.getElem_cons_zero, List.setIfInBounds_toArray, List.set_cons_zero, List.set_cons_succ]
          refine wpAnyH_take (i := 15) (oi := _) (v := undef) rfl (by kernel_rfl) (by kernel_rfl) (by kernel_rfl) (fun _ _ _ h => h) (Or.inr ⟨by rfl, rfl⟩) (by assumption) ?_
          simp only [Act.put, List.getElem_toArray, List.getElem_cons_succ, List.getElem_cons_zero, List.setIfInBounds_toArray, List.set_cons_zero, List.set_cons_succ]
          refine wpAnyH_take (i := 16) (oi := _) (v := undef) rfl (by kernel_rfl) (by kernel_rfl) (by kernel_rfl) (fun _ _ _ h => h) (Or.inr ⟨by rfl, rfl⟩) (by assumption) ?_
          simp only [Act.put, List.getElem_toArray, List.getElem_cons_succ, List.getElem_cons_zero, List.setIfInBounds_toArray, List.set_cons_zero, List.set_cons_succ]
          refine wpAnyH_take (i := 17) (oi := _) (v := undef) rfl (by kernel_rfl) (by kernel_rfl) (by kernel_rfl) (fun _ _ _ h => h) (Or.inr ⟨by rfl, rfl⟩) (by assumption) ?_
          simp only [Act.put, List.getElem_toArray, List.getElem_cons_succ, List.getElem_cons_zero, List.setIfInBounds_toArray, List.set_cons_zero, List.set_cons_succ]
          refine wpAnyH_take (i := 18) (oi := _) (v := undef) rfl (by kernel_rfl) (by kernel_rfl) (by kernel_rfl) (fun _ _ _ h => h) (Or.inr ⟨by rfl, rfl⟩) (by assumption) ?_
          simp only [Act.put, List.getElem_toArray, List.getElem_cons_succ, List.getElem_cons_zero, List.setIfInBounds_toArray, List.set_cons_zero, List.set_cons_succ]
          refine wpAnyH_take (i := 19) (oi := _) (v := undef) rfl (by kernel_rfl) (by kernel_rfl) (by kernel_rfl) (fun _ _ _ h => h) (Or.inr ⟨by rfl, rfl⟩) (by assumption) ?_
          simp only [Act.put, List.getElem_toArray, List.getElem_cons_succ, List.getElem_cons_zero, List.setIfInBounds_toArray, List.set_cons_zero, List.set_cons_succ]
          refine wpAnyH_take (i := 20) (oi := _) (v := undef) rfl (by kernel_rfl) (by kernel_rfl) (by kernel_rfl) (fun _ _ _ h => h) (Or.inr ⟨by rfl, rfl⟩) (by assumption) ?_
          simp only [Act.put, List.getElem_toArray, List.getElem_cons_succ, List.getElem_cons_zero, List.setIfInBounds_toArray, List.set_cons_zero, List.set_cons_succ]
          refine wpAnyH_take (i := 21) (oi := _) (v := undef) rfl (by kernel_rfl) (by kernel_rfl) (by kernel_rfl) (fun _ _ _ h => h) (Or.inr ⟨by rfl, rfl⟩) (by assumption) ?_
          simp only [Act.put, List.getElem_toArray, List.getElem_cons_succ, List.getElem_cons_zero, List.setIfInBounds_toArray, List.set_cons_zero, List.set_cons_succ]
          refine wpAnyH_take (i := 22) (oi := _) (v := undef) rfl (by kernel_rfl) (by kernel_rfl) (by kernel_rfl) (fun _ _ _ h => h) (Or.inr ⟨by rfl, rfl⟩) (by assumption) ?_
          simp only [Act.put, List.getElem_toArray, List.getElem_cons_succ, List.getElem_cons_zero, List.setIfInBounds_toArray, List.set_cons_zero, List.set_cons_succ]
          refine wpAnyH_take (i := 23) (oi := _) (v := undef) rfl (by kernel_rfl) (by kernel_rfl) (by kernel_rfl) (fun _ _ _ h => h) (Or.inr ⟨by rfl, rfl⟩) (by assumption) ?_
          simp only [Act.put, List.getElem_toArray, List.getElem_cons_succ, List.getElem_cons_zero, List.setIfInBounds_toArray, List.set_cons_zero, List.set_cons_succ]
          refine wpAnyH_take (i := 24) (oi := _) (v := ?_) rfl (by kernel_rfl) (by kernel_rfl) (by kernel_rfl) (fun _ _ _ h => h) (Or.inl ⟨by rfl, ?_⟩) (by assumption) ?_
          rotate_left
          · (intro w hSw; (try dsimp only at hSw); (first | (go_simp; done) | (go_simp; with_reducible rfl)))
          simp only [Act.put, List.getElem_toArray, List.getElem_cons_succ, List.getElem_cons_zero, List.setIfInBounds_toArray, List.set_cons_zero, List.set_cons_succ]
          refine wpAnyH_done (by kernel_rfl) ?_ _
          refine NoPanic.normal ?_
          have HZ := Lib.hid hHeld.1
          clear hHeld
          go_wp2_with fail
          go_ret
          refine says_no (fun h => HPP.out ((placeB_iff n g y).2 ⟨h.1, h.2.2.2.1 t y HY.out⟩)) HZ.out.below
      · have h61 : t = 61 := by omega
        have H61 := Lib.hid h61
        have hinn : (decide (1 ≤ (xs.length : Int)) && decide ((xs.length : Int) ≤ 61)) = false := by simp; omega
        have hin := HIN.out
        rw [hinn] at hin
        have HN := Lib.hid hin
        have hno : ¬ Walk n g xs := fun h => by have := h.2.2.1; omega
        have HNO := Lib.hid hno
        clear hin hinn h61 hno
        go_wp2_with fail
        refine (HRO.out _).mono ?_
        rintro e w2 ⟨rfl, hb⟩
        have HZ := Lib.hid (HW.out.next hb)
        clear hb
        cases hg : roadB n g
        · go_wp2_with fail
          go_ret
          exact says_no HNO.out HZ.out.below
        · go_wp2_with fail
          refine (HN.out _).mono ?_
          rintro e w3 ⟨rfl, rfl⟩
          go_wp2_with fail
          go_ret
          exact says_no HNO.out HZ.out.below
    · have hte : t = xs.length := by omega
      have HTE := Lib.hid hte
      clear hte
      go_wp2_with fail
      refine (HRO.out _).mono ?_
      rintro e w2 ⟨rfl, hb⟩
      have HZ := Lib.hid (HW.out.next hb)
      clear hb
      cases hg : roadB n g
      · go_wp2_with fail
        go_ret
        exact says_no (fun h => Bool.false_ne_true (hg.symm.trans h.1)) HZ.out.below
      · go_wp2_with fail
        refine (HIN.out _).mono ?_
        rintro e w3 ⟨rfl, rfl⟩
        go_wp2_with fail
        go_ret
        refine ⟨_, rfl, ⟨fun h => ?_, fun h => ?_⟩, HZ.out.below⟩
        · simp at h
          have := HTE.out
          refine ⟨hg, by omega, by omega, fun j x hx => HI.out j x (by have := (List.getElem?_eq_some_iff.1 hx).1; omega) hx, fun j x y hx hy => HP.out j x y (by have := (List.getElem?_eq_some_iff.1 hy).1; omega) hx hy⟩
        · have h1 := h.2.1
          have h2 := h.2.2.1
          simp
          omega
end Go.Proofs.Ytiokgnabiidlbaa
