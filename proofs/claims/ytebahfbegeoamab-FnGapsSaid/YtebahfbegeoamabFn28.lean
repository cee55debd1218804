/-
  What is proved: the contracts of spec.NeighborsOn and impl.NeighborsOn. Conditions: none.
-/
import Derived.Test.YtebahfbegeoamabFn27
import Derived.Test.YtebahfbegeoamabFn9
import Derived.Test.YtebahfbegeoamabSrt
namespace Go.Proofs.Ytebahfbegeoamab
open Go.RowKit
set_option linter.unusedVariables false
set_option linter.unusedSimpArgs false

theorem sortI_one (a : Int) : sortI [a] = [a] := by simp [sortI]
theorem sortI_two (a b : Int) : sortI [a, b] = if a ≤ b then [a, b] else [b, a] := by
  unfold sortI
  rw [List.mergeSort]
  simp [List.MergeSort.Internal.splitInTwo, List.merge]
theorem putI_nil (x : Int) : putI [] x = [x] := by simp [putI, lessN]
theorem putI_one (a x : Int) (h : a ≠ x) : putI [a] x = if a < x then [a, x] else [x, a] := by
  by_cases h1 : a < x
  · simp [putI, lessN, h1]
  · simp [putI, lessN, h1, h]
theorem step_after {n : Int} {g : Bool} {p : Int} (hr : roadB n g = true) (hp : 0 ≤ p ∧ p < n) : stepI n g p 1 = if placeB n g (afterI n g p) then afterI n g p else p := by
  obtain ⟨h2, _, h3⟩ := (roadB_iff n g).1 hr
  cases g
  · by_cases hl : p = n - 1
    · have : placeB n false (afterI n false p) = false := by simp [placeB, afterI]; omega
      rw [this]
      simp [stepI]
      omega
    · have : placeB n false (afterI n false p) = true := by rw [placeB_iff]; refine ⟨hr, ?_⟩; simp [afterI]; omega
      rw [this]
      simp [stepI, afterI]
      omega
  · have : placeB n true (afterI n true p) = true := by rw [placeB_iff]; refine ⟨hr, ?_⟩; simp only [afterI, true_and]; split <;> omega
    rw [this]
    by_cases hl : p = n - 1
    · subst hl
      simp [stepI, afterI]
    · simp [stepI, afterI, hl]
      exact Int.emod_eq_of_lt (by omega) (by omega)
theorem step_before {n : Int} {g : Bool} {p : Int} (hr : roadB n g = true) (hp : 0 ≤ p ∧ p < n) : stepI n g p (-1) = if placeB n g (beforeI n g p) then beforeI n g p else p := by
  obtain ⟨h2, _, h3⟩ := (roadB_iff n g).1 hr
  cases g
  · by_cases hl : p = 0
    · have : placeB n false (beforeI n false p) = false := by simp [placeB, beforeI]; omega
      rw [this]
      simp [stepI]
      omega
    · have : placeB n false (beforeI n false p) = true := by rw [placeB_iff]; refine ⟨hr, ?_⟩; simp [beforeI]; omega
      rw [this]
      simp [stepI, beforeI]
      omega
  · have : placeB n true (beforeI n true p) = true := by rw [placeB_iff]; refine ⟨hr, ?_⟩; simp only [beforeI, true_and]; split <;> omega
    rw [this]
    simp only [stepI, beforeI, if_true, true_and]
    by_cases hl : p = 0
    · subst hl
      rw [if_pos rfl, show (0 : Int) + -1 + n = n - 1 by omega]
      exact Int.emod_eq_of_lt (by omega) (by omega)
    · rw [if_neg hl, show p + -1 + n = (p - 1) + n by omega, Int.add_emod_right]
      exact Int.emod_eq_of_lt (by omega) (by omega)
def nbA (n : Int) (g : Bool) (p : Int) : List Int := if placeB n g (afterI n g p) then [afterI n g p] else []
def nbB (n : Int) (g : Bool) (p : Int) : List Int := if placeB n g (beforeI n g p) then [beforeI n g p] else []
def nx1 (n : Int) (g : Bool) (p : Int) : List Int := if stepI n g p (-1) = p then [] else putI [] (stepI n g p (-1))
/-- the neighbors of p -/
def nxL (n : Int) (g : Bool) (p : Int) : List Int := if stepI n g p 1 = p then nx1 n g p else putI (nx1 n g p) (stepI n g p 1)
theorem after_ne {n : Int} {g : Bool} {p : Int} (hr : roadB n g = true) : afterI n g p ≠ p ∧ beforeI n g p ≠ p ∧ (placeB n g (afterI n g p) = true → placeB n g (beforeI n g p) = true → afterI n g p ≠ beforeI n g p) := by
  obtain ⟨h2, _, h3⟩ := (roadB_iff n g).1 hr
  cases g
  · simp [afterI, beforeI]
    omega
  · have := h3 rfl
    unfold afterI beforeI
    refine ⟨?_, ?_, fun _ _ => ?_⟩
    · split <;> omega
    · split <;> omega
    · split <;> split <;> omega
theorem nb_same {n : Int} {g : Bool} {p : Int} (hr : roadB n g = true) (hp : 0 ≤ p ∧ p < n) : sortI (nbA n g p ++ nbB n g p) = nxL n g p := by
  obtain ⟨ha, hb, hab⟩ := after_ne (p := p) hr
  unfold nbA nbB nxL nx1
  rw [step_after hr hp, step_before hr hp]
  cases h1 : placeB n g (afterI n g p) <;> cases h2 : placeB n g (beforeI n g p)
  · simp [sortI]
  · simp [hb, putI_nil, sortI_one]
  · simp [ha, putI_nil, sortI_one]
  · have h3 := hab h1 h2
    simp only [if_true, if_neg ha, if_neg hb, List.singleton_append, putI_nil]
    rw [putI_one _ _ (Ne.symm h3), sortI_two]
    split <;> split <;> first | rfl | omega
theorem nb_pos {n : Int} {g : Bool} {p : Int} (hr : roadB n g = true) (hp : 0 ≤ p ∧ p < n) : 1 ≤ (nbA n g p ++ nbB n g p).length := by
  obtain ⟨h2, _, h3⟩ := (roadB_iff n g).1 hr
  by_cases h : p + 1 < n
  · have : placeB n g (afterI n g p) = true := by rw [placeB_iff]; refine ⟨hr, ?_⟩; unfold afterI; split <;> omega
    simp [nbA, this]
  · have : placeB n g (beforeI n g p) = true := by rw [placeB_iff]; refine ⟨hr, ?_⟩; unfold beforeI; split <;> omega
    simp [nbB, this]
theorem nb_short (n : Int) (g : Bool) (p : Int) : (nbA n g p ++ nbB n g p).length ≤ 2 := by
  unfold nbA nbB
  split <;> split <;> simp
/-- what NeighborsOn answers -/
def nbR (n : Int) (g : Bool) (p : Int) : List Int × Bool := if placeB n g p then (nxL n g p, true) else ([], false)
theorem nbR_no {n : Int} {g : Bool} {p : Int} (h : placeB n g p = false) : nbR n g p = ([], false) := by unfold nbR; simp [h]
theorem nbR_yes {n : Int} {g : Bool} {p : Int} (h : placeB n g p = true) : nbR n g p = (nxL n g p, true) := by unfold nbR; simp [h]
theorem nx1_len (n : Int) (g : Bool) (p : Int) : (nx1 n g p).length ≤ 1 := by
  unfold nx1
  split
  · simp
  · simp [putI_nil]

theorem nbR_len (n : Int) (g : Bool) (p : Int) : (nbR n g p).1.length ≤ 1048576 := by
  unfold nbR
  split
  · have h1 := nx1_len n g p
    have h2 := putI_len (nx1 n g p) (stepI n g p 1)
    show (nxL n g p).length ≤ _
    unfold nxL
    split <;> omega
  · simp
/-- a slice with an address -/
def Based (v : Value) (n : Nat) : Prop := ∃ a c, v = .slice (some a) n c
theorem based_owns {w : World} {base n : Nat} {v : Value} {xs : List Value} (h : w.ownsRow base 3 1 v n xs) (hn : 0 < n) : Based v n := by
  obtain ⟨a, c, rfl, h2⟩ := owns_shape h
  obtain ⟨g, rfl, _⟩ := h2 hn
  exact ⟨_, c, rfl⟩
def NxRel (n : Int) (g : Bool) (p : Int) (w : World) (v d : Value) (wr : World) : Prop :=
  Boxed w.heap.size n g w wr ∧ ∃ xs : List Int, wr.ownsRow (w.heap.size + 1) 3 1 v xs.length (xs.map iv) ∧ Based v xs.length ∧ ((d = .int .i64 (-1) ∧ xs = []) ∨ (d = .int .i64 1 ∧ xs = nx1 n g p) ∨ (d = .int .i64 3 ∧ xs = nxL n g p))
theorem putI_pos (xs : List Int) (x : Int) : 0 < (putI xs x).length := by
  unfold putI
  split
  · rename_i h
    obtain ⟨h2, _⟩ := List.getElem?_eq_some_iff.1 h
    omega
  · simp
    omega
theorem Boxed.low {base : Nat} {n : Int} {g : Bool} {w wr w' : World} (h : Boxed base n g w wr) (hb : Below wr.heap.size wr w') : Boxed base n g w w' := h.next hb
set_option maxHeartbeats 1600000 in
set_option maxRecDepth 20000 in
theorem l2Next_any (n : Int) (g : Bool) (p : Int) (w : World) (hr : roadB n g = true) (hp : 0 ≤ p ∧ p < n) :
    Calls Try.prog 77 #[rd n g, .int .i64 p] w (OwnsI w.heap.size (nxL n g p) w) := by
  obtain ⟨h2, h24, _⟩ := (roadB_iff n g).1 hr
  have HST := Lib.hid (fun d w hd => l2Step_any n g p d w ⟨h2, h24⟩ hp hd)
  have HP := Lib.hid (fun base v xs x w hv h1 hb hl => put_any base v xs x w hv h1 hb hl)
  have HX := Lib.hid (Boxed.first w n g 27)
  have HO := Lib.hid (made_at (w.alloc (.cells #[.int .i64 n, .bool g] 27)) (w.heap.size + 1) (w.heap.size + 1) (by simp) (Nat.le_refl _))
  have HXN := Lib.hid (HX.out.next (below_new _ (.cells #[] 3)))
  clear hr
  unfold rd at *
  go_enter Try.func77, Try.ntmps77
  go_wp2_with fail
  go_loopw [5, 6] (fun v d wr => NxRel n g p w v d wr) (fun _ d _ => (3 - intOf d).toNat)
  case atStart => exact ⟨HXN.out, [], HO.out, ⟨_, _, rfl⟩, .inl ⟨rfl, rfl⟩⟩
  case round =>
    obtain ⟨hx, xs, hown, hbas, hd⟩ := hrel
    have HXR := Lib.hid hx
    have HOW := Lib.hid hown
    have HBS := Lib.hid hbas
    have h0 := HXR.out.c0
    have h1 := HXR.out.c1
    clear HX HO HXN hx hown hbas
    rcases hd with ⟨rfl, rfl⟩ | ⟨rfl, rfl⟩ | ⟨rfl, rfl⟩
    · have HQD := Lib.hid (rfl : stepI n g p (-1) = stepI n g p (-1))
      go_wp2_with fail
      refine (HST.out (-1) _ (by omega)).mono ?_
      rintro e w3 ⟨rfl, hb⟩
      have HX3 := Lib.hid (HXR.out.next hb)
      have HOW3 := Lib.hid (owns_below HOW.out hb)
      clear hb h0 h1
      by_cases hq : stepI n g p (-1) = p
      · have HNX := Lib.hid (show nx1 n g p = [] from by unfold nx1; simp [hq])
        have hqb : (stepI n g p (-1) != p) = false := by simp [bne, hq]
        have hqb2 : (stepI n g p (-1) == p) = true := by simp [hq]
        go_wp2_with fail
        go_roundw
        case rel => exact ⟨HX3.out, nx1 n g p, by rw [HNX.out]; exact HOW3.out, by rw [HNX.out]; exact HBS.out, .inr (.inl ⟨rfl, rfl⟩)⟩
        case measure => simp [intOf]
      · have HNX := Lib.hid (show nx1 n g p = putI ([]) (stepI n g p (-1)) from by unfold nx1; simp [hq])
        have hqb : (stepI n g p (-1) != p) = true := by simp [bne, hq]
        have hqb2 : (stepI n g p (-1) == p) = false := by simp [hq]
        go_wp2_with fail
        refine (HP.out (w.heap.size + 1) _ ([]) _ _ HOW3.out HBS.out (Nat.succ_le_of_lt HX3.out.size) (by simp)).mono ?_
        rintro e w4 ⟨v4, rfl, ho, hb⟩
        have HX4 := Lib.hid (HX3.out.next hb)
        have HOW4 := Lib.hid ho
        clear hb ho
        go_wp2_with fail
        go_roundw
        case rel => exact ⟨HX4.out, nx1 n g p, by rw [HNX.out]; exact HOW4.out, by rw [HNX.out]; exact based_owns HOW4.out (putI_pos _ _), .inr (.inl ⟨rfl, rfl⟩)⟩
        case measure => simp [intOf]
    · have HQD := Lib.hid (rfl : stepI n g p (1) = stepI n g p (1))
      go_wp2_with fail
      refine (HST.out (1) _ (by omega)).mono ?_
      rintro e w3 ⟨rfl, hb⟩
      have HX3 := Lib.hid (HXR.out.next hb)
      have HOW3 := Lib.hid (owns_below HOW.out hb)
      clear hb h0 h1
      by_cases hq : stepI n g p (1) = p
      · have HNX := Lib.hid (show nxL n g p = nx1 n g p from by unfold nxL; simp [hq])
        have hqb : (stepI n g p (1) != p) = false := by simp [bne, hq]
        have hqb2 : (stepI n g p (1) == p) = true := by simp [hq]
        go_wp2_with fail
        go_roundw
        case rel => exact ⟨HX3.out, nxL n g p, by rw [HNX.out]; exact HOW3.out, by rw [HNX.out]; exact HBS.out, .inr (.inr ⟨rfl, rfl⟩)⟩
        case measure => simp [intOf]
      · have HNX := Lib.hid (show nxL n g p = putI (nx1 n g p) (stepI n g p (1)) from by unfold nxL; simp [hq])
        have hqb : (stepI n g p (1) != p) = true := by simp [bne, hq]
        have hqb2 : (stepI n g p (1) == p) = false := by simp [hq]
        go_wp2_with fail
        refine (HP.out (w.heap.size + 1) _ (nx1 n g p) _ _ HOW3.out HBS.out (Nat.succ_le_of_lt HX3.out.size) (by have := nx1_len n g p; omega)).mono ?_
        rintro e w4 ⟨v4, rfl, ho, hb⟩
        have HX4 := Lib.hid (HX3.out.next hb)
        have HOW4 := Lib.hid ho
        clear hb ho
        go_wp2_with fail
        go_roundw
        case rel => exact ⟨HX4.out, nxL n g p, by rw [HNX.out]; exact HOW4.out, by rw [HNX.out]; exact based_owns HOW4.out (putI_pos _ _), .inr (.inr ⟨rfl, rfl⟩)⟩
        case measure => simp [intOf]
    · go_wp2_with fail
      go_ret
      exact ⟨_, rfl, owns_lower HOW.out (Nat.le_succ _), HXR.out.below⟩
set_option maxHeartbeats 800000 in
set_option maxRecDepth 20000 in
theorem spec_NeighborsOn (n : Int) (g : Bool) (p : Int) (w : World) :
    Calls Try.prog 38 #[rd n g, .int .i64 p] w (OwnsB w.heap.size (nbR n g p).1 (nbR n g p).2 w) := by
  have HPL := Lib.hid (fun w => l2Place_any n g p w)
  have HX := Lib.hid (Boxed.first w n g 27)
  cases hp : placeB n g p
  · have HR := Lib.hid (nbR_no hp)
    have HQ := Lib.hid hp
    clear hp
    unfold rd at *
    go_enter Try.func38, Try.ntmps38
    go_wp2_with fail
    refine (HPL.out _).mono ?_
    rintro e w1 ⟨rfl, hb⟩
    have HX1 := Lib.hid (HX.out.next hb)
    have HO := Lib.hid (made_at w1 (w.heap.size + 1) w1.heap.size rfl (Nat.succ_le_of_lt HX1.out.size))
    clear hb
    rw [HQ.out]
    go_wp2_with fail
    go_ret2
    exact owns_R (zs := []) (b := false) HR.out (owns_out (HX1.out.next (below_new _ _)) HO.out)
  · have HR := Lib.hid (nbR_yes hp)
    have HQ := Lib.hid hp
    obtain ⟨hr, hp0, hp1⟩ := (placeB_iff n g p).1 hp
    have HNX := Lib.hid (fun w => l2Next_any n g p w hr ⟨hp0, hp1⟩)
    clear hp hr
    unfold rd at *
    go_enter Try.func38, Try.ntmps38
    go_wp2_with fail
    refine (HPL.out _).mono ?_
    rintro e w1 ⟨rfl, hb⟩
    have HX1 := Lib.hid (HX.out.next hb)
    have h0 := HX1.out.c0
    have h1 := HX1.out.c1
    clear hb
    rw [HQ.out]
    go_wp2_with fail
    refine (HNX.out _).mono ?_
    rintro e w2 ⟨v2, rfl, ho, hb⟩
    have HX2 := Lib.hid (HX1.out.next hb)
    have HO2 := Lib.hid (owns_lower ho (Nat.succ_le_of_lt HX1.out.size))
    clear ho hb h0 h1
    go_wp2_with fail
    go_ret2
    exact owns_R HR.out (owns_out HX2.out HO2.out)
def NbRel (n : Int) (g : Bool) (p : Int) (w : World) (v i : Value) (wr : World) : Prop :=
  Boxed w.heap.size n g w wr ∧ ∃ xs : List Int, wr.ownsRow (w.heap.size + 1) 3 1 v xs.length (xs.map iv) ∧ ((i = .int .i64 0 ∧ xs = []) ∨ (i = .int .i64 1 ∧ xs = nbA n g p) ∨ (i = .int .i64 2 ∧ xs = nbA n g p ++ nbB n g p))
set_option maxHeartbeats 1600000 in
set_option maxRecDepth 20000 in
theorem impl_NeighborsOn (n : Int) (g : Bool) (p : Int) (w : World) :
    Calls Try.prog 37 #[rd n g, .int .i64 p] w (OwnsB w.heap.size (nbR n g p).1 (nbR n g p).2 w) := by
  obtain ⟨i0, hi, hz0, hz1, hz2⟩ := info_parts infoInt
  have HP := Lib.hid (fun q v w hv => arePlaces_one n g q v w hv)
  have HX0 := Lib.hid (Boxed.first w n g 27)
  have HX := Lib.hid (HX0.out.next (below_new _ (.cells #[] 3)))
  have HO := Lib.hid (made_at (w.alloc (.cells #[.int .i64 n, .bool g] 27)) (w.heap.size + 1) (w.heap.size + 1) (by simp) (Nat.le_refl _))
  clear HX0
  cases hp : placeB n g p
  · have HR := Lib.hid (nbR_no hp)
    have HQ := Lib.hid hp
    clear hp
    unfold rd at *
    go_enter Try.func37, Try.ntmps37
    go_wp2_with fail
    refine (HP.out p _ _ (ints_one_at _ (by simp))).mono ?_
    rintro e w1 ⟨rfl, hb⟩
    have HX1 := Lib.hid ((HX.out.next (below_new _ _)).next hb)
    have HO1 := Lib.hid (owns_below (owns_below HO.out (below_new _ _)) hb)
    clear hb
    rw [HQ.out]
    go_wp2_with fail
    go_ret2
    exact owns_R (zs := []) (b := false) HR.out (owns_out HX1.out HO1.out)
  · have HR := Lib.hid (nbR_yes hp)
    have HQ := Lib.hid hp
    obtain ⟨hr, hp0, hp1⟩ := (placeB_iff n g p).1 hp
    obtain ⟨h2, h24, _⟩ := (roadB_iff n g).1 hr
    have HA := Lib.hid (fun w => after_any n g p w ⟨h2, h24⟩ ⟨hp0, hp1⟩)
    have HB := Lib.hid (fun w => before_any n g p w ⟨h2, h24⟩ ⟨hp0, hp1⟩)
    have hix0 := fun w => idx0 (.func (.func 62) #[] #[]) (.func (.func 61) #[] #[]) w
    have hix1 := fun w => idx1 (.func (.func 62) #[] #[]) (.func (.func 61) #[] #[]) w
    have HSAME := Lib.hid (nb_same hr ⟨hp0, hp1⟩)
    have HSRT := Lib.hid (fun v base w h => sort_any v (nbA n g p ++ nbB n g p) base w h (nb_pos hr ⟨hp0, hp1⟩) (by have := nb_short n g p; omega))
    clear hp hr
    unfold rd at *
    go_enter Try.func37, Try.ntmps37
    go_wp2_with fail
    refine (HP.out p _ _ (ints_one_at _ (by simp))).mono ?_
    rintro e w1 ⟨rfl, hb⟩
    have HX1 := Lib.hid ((HX.out.next (below_new _ _)).next hb)
    have HO1 := Lib.hid (owns_below (owns_below HO.out (below_new _ _)) hb)
    have h0 := HX1.out.c0
    have h1 := HX1.out.c1
    clear hb HX HO
    rw [HQ.out]
    go_wp2_with fail
    refine (headings_any _).mono ?_
    rintro e w2 ⟨rfl, hb⟩
    have HX2 := Lib.hid (HX1.out.next hb)
    have HO2 := Lib.hid (owns_below HO1.out hb)
    clear hb h0 h1 HX1 HO1
    go_wp2_with fail
    go_loopw [6, 18] (fun v i wr => NbRel n g p w v i wr) (fun _ i _ => 2 - (intOf i).toNat)
    case atStart => exact ⟨HX2.out, [], HO2.out, .inl ⟨rfl, rfl⟩⟩
    case round =>
      obtain ⟨hx, xs, hown, hi9⟩ := hrel
      have HX := Lib.hid hx
      have HOW := Lib.hid hown
      have hl2 : xs.length ≤ 2 := by
        have := nb_short n g p
        rw [List.length_append] at this
        rcases hi9 with ⟨_, rfl⟩ | ⟨_, rfl⟩ | ⟨_, rfl⟩ <;> simp <;> omega
      have h0 := HX.out.c0
      have h1 := HX.out.c1
      clear HX2 HO2 hx hown
      rcases hi9 with ⟨rfl, rfl⟩ | ⟨rfl, rfl⟩ | ⟨rfl, rfl⟩
      · go_wp2_with fail
        refine (HA.out _).mono ?_
        rintro e w3 ⟨rfl, hb⟩
        have HX3 := Lib.hid (HX.out.next hb)
        have HOW3 := Lib.hid (owns_below HOW.out hb)
        have h0 := HX3.out.c0
        have h1 := HX3.out.c1
        clear hb
        go_wp2_with fail
        refine (HP.out (afterI n g p) _ _ (ints_one_at _ rfl)).mono ?_
        rintro e w4 ⟨rfl, hb⟩
        have HX4 := Lib.hid ((HX3.out.next (below_new _ _)).next hb)
        have HOW4 := Lib.hid (owns_below (owns_below HOW3.out (below_new _ _)) hb)
        clear hb h0 h1
        cases hq : placeB n g (afterI n g p)
        · have HNB := Lib.hid (show nbA n g p = [] from by unfold nbA; simp [hq])
          go_wp2_with fail
          go_roundw
          case rel => exact ⟨HX4.out, nbA n g p, by rw [HNB.out]; exact HOW4.out, .inr (.inl ⟨rfl, rfl⟩)⟩
          case measure => simp [intOf]
        · have HNB := Lib.hid (show nbA n g p = [afterI n g p] from by unfold nbA; simp [hq])
          go_wp2_with (at_builtin; refine wpList_append_own _ rfl _ _ 24 rfl (w.heap.size + 1) 3 i0 (.int .i64 0) 1 8 Try.underlying24 hi hz0 hz1 hz2 rfl (by decide) _ _ _ rfl (HOW4.out.alloc _) ⟨w4.heap.size, 0, none⟩ 1 1 [.int .i64 (afterI n g p)] rfl rfl (cell_one_new _ _ _) ?c2 ?c3 ?c4 ?c5 ?_)
          case c2 => intro u hu; simp at hu; subst hu; rfl
          case c3 => unfold maxLen; omega
          case c4 => omega
          case c5 => have := HX4.out.size; simp; omega
          intro v' w9 hown' hgrow _
          have HXB := Lib.hid (boxed_append HX4.out hgrow (fun b hb => (owns_block HOW4.out b hb).1))
          have HOW' := Lib.hid hown'
          clear hgrow hown'
          go_wp2_with fail
          go_roundw
          case rel => exact ⟨HXB.out, nbA n g p, by rw [HNB.out]; exact HOW'.out, .inr (.inl ⟨rfl, rfl⟩)⟩
          case measure => simp [intOf]
      · go_wp2_with fail
        refine (HB.out _).mono ?_
        rintro e w3 ⟨rfl, hb⟩
        have HX3 := Lib.hid (HX.out.next hb)
        have HOW3 := Lib.hid (owns_below HOW.out hb)
        have h0 := HX3.out.c0
        have h1 := HX3.out.c1
        clear hb
        go_wp2_with fail
        refine (HP.out (beforeI n g p) _ _ (ints_one_at _ rfl)).mono ?_
        rintro e w4 ⟨rfl, hb⟩
        have HX4 := Lib.hid ((HX3.out.next (below_new _ _)).next hb)
        have HOW4 := Lib.hid (owns_below (owns_below HOW3.out (below_new _ _)) hb)
        clear hb h0 h1
        cases hq : placeB n g (beforeI n g p)
        · have HNB := Lib.hid (show nbB n g p = [] from by unfold nbB; simp [hq])
          go_wp2_with fail
          go_roundw
          case rel => exact ⟨HX4.out, nbA n g p ++ nbB n g p, by rw [HNB.out, List.append_nil]; exact HOW4.out, .inr (.inr ⟨rfl, rfl⟩)⟩
          case measure => simp [intOf]
        · have HNB := Lib.hid (show nbB n g p = [beforeI n g p] from by unfold nbB; simp [hq])
          go_wp2_with (at_builtin; refine wpList_append_own _ rfl _ _ 24 rfl (w.heap.size + 1) 3 i0 (.int .i64 0) 1 8 Try.underlying24 hi hz0 hz1 hz2 rfl (by decide) _ _ _ rfl (HOW4.out.alloc _) ⟨w4.heap.size, 0, none⟩ 1 1 [.int .i64 (beforeI n g p)] rfl rfl (cell_one_new _ _ _) ?c2 ?c3 ?c4 ?c5 ?_)
          case c2 => intro u hu; simp at hu; subst hu; rfl
          case c3 => unfold maxLen; omega
          case c4 => omega
          case c5 => have := HX4.out.size; simp; omega
          intro v' w9 hown' hgrow _
          have HXB := Lib.hid (boxed_append HX4.out hgrow (fun b hb => (owns_block HOW4.out b hb).1))
          have HOW' := Lib.hid hown'
          clear hgrow hown'
          go_wp2_with fail
          go_roundw
          case rel => exact ⟨HXB.out, nbA n g p ++ nbB n g p, by rw [HNB.out, List.length_append, List.map_append]; exact HOW'.out, .inr (.inr ⟨rfl, rfl⟩)⟩
          case measure => simp [intOf]
      · go_wp2_with fail
        refine (HSRT.out _ _ _ HOW.out).mono ?_
        rintro e w3 ⟨rfl, ho, hg⟩
        have HX3 := Lib.hid (HX.out.nextAt (Nat.lt_succ_self _) (below_grown hg (fun b hb => (owns_block HOW.out b hb).1) (Nat.succ_le_of_lt HX.out.size)))
        have HO3 := Lib.hid (show w3.ownsRow (w.heap.size + 1) 3 1 _ (nxL n g p).length ((nxL n g p).map iv) from by have h := ho; rw [HSAME.out] at h; rw [show (nxL n g p).length = (nbA n g p ++ nbB n g p).length by rw [← HSAME.out, sortI_len]]; exact h)
        clear ho hg h0 h1
        go_wp2_with fail
        go_ret2
        exact owns_R HR.out (owns_out HX3.out HO3.out)
end Go.Proofs.Ytebahfbegeoamab
