/-
  What is proved: DoublingSearch of the model and of the program. Conditions: none.
-/
import Derived.Test.YtnclfdfnhhicdaaSek
import Derived.RegionTactic
import Derived.ChangeAlike
namespace Go.Proofs.Ytnclfdfnhhicdaa
open Go.RowKit
set_option linter.unusedVariables false
set_option linter.unusedSimpArgs false

structure Db where
  g : Int
  lo : Int
  hi : Int
  r : Bool
  o : List Int
/-- whether the doubling goes on -/
def Db.on (n : Int) (s : Db) : Bool := decide (0 < s.lo) || decide (s.hi < n - 1)
def Db.next (n a : Int) (s : Db) : Db :=
  if s.r then (if s.hi < n - 1 then ⟨2 * s.g, s.lo, min (n - 1) (a + s.g), false, s.o ++ [min (n - 1) (a + s.g)]⟩ else ⟨2 * s.g, s.lo, s.hi, false, s.o⟩)
  else (if 0 < s.lo then ⟨2 * s.g, max 0 (a - s.g), s.hi, true, s.o ++ [max 0 (a - s.g)]⟩ else ⟨2 * s.g, s.lo, s.hi, true, s.o⟩)
def dbM (n a : Int) : Nat → Db
  | 0 => ⟨1, a, a, true, []⟩
  | k + 1 => if (dbM n a k).on n then (dbM n a k).next n a else dbM n a k
structure Dp where
  l : Int
  q : Int
  o : List Int
def Dp.on (n : Int) (s : Dp) : Bool := decide (0 < s.q) && decide (s.q < n - 1)
def Dp.next (n a : Int) (s : Dp) : Dp := ⟨s.l * (-2), max 0 (min (a + s.l) (n - 1)), s.o ++ [max 0 (min (a + s.l) (n - 1))]⟩
def dbP (n a : Int) : Nat → Dp
  | 0 => ⟨1, a, []⟩
  | k + 1 => if (dbP n a k).on n then (dbP n a k).next n a else dbP n a k
def okD (n a : Int) : Bool := !(dbM n a 12).on n && !(dbP n a 12).on n && decide (strT a (dbM n a 12).o (dbM n a 12).o.length = (dbP n a 12).o ++ [n - 1 - (dbP n a 12).q])
set_option maxRecDepth 100000 in
theorem table : ∀ n : Fin 25, ∀ a : Fin 25, 2 ≤ n.1 → a.1 < n.1 → okD (n.1 : Int) (a.1 : Int) = true := by decide +kernel

theorem dbM_next {n a : Int} {k : Nat} {s : Db} (h : dbM n a k = s) (ho : s.on n = true) : dbM n a (k + 1) = s.next n a := by
  show (if (dbM n a k).on n then (dbM n a k).next n a else dbM n a k) = _
  rw [h, if_pos ho]
theorem dbM_stop {n a : Int} {k : Nat} {s : Db} (h : dbM n a k = s) (ho : s.on n = false) : ∀ m, k ≤ m → dbM n a m = s
  | 0, hm => by
    obtain rfl : k = 0 := by omega
    exact h
  | m + 1, hm => by
    by_cases he : k = m + 1
    · rw [← he]
      exact h
    · show (if (dbM n a m).on n then (dbM n a m).next n a else dbM n a m) = _
      rw [dbM_stop h ho m (by omega), if_neg (by rw [ho]; exact Bool.false_ne_true)]
theorem dbP_next {n a : Int} {k : Nat} {s : Dp} (h : dbP n a k = s) (ho : s.on n = true) : dbP n a (k + 1) = s.next n a := by
  show (if (dbP n a k).on n then (dbP n a k).next n a else dbP n a k) = _
  rw [h, if_pos ho]
theorem dbP_stop {n a : Int} {k : Nat} {s : Dp} (h : dbP n a k = s) (ho : s.on n = false) : ∀ m, k ≤ m → dbP n a m = s
  | 0, hm => by
    obtain rfl : k = 0 := by omega
    exact h
  | m + 1, hm => by
    by_cases he : k = m + 1
    · rw [← he]
      exact h
    · show (if (dbP n a m).on n then (dbP n a m).next n a else dbP n a m) = _
      rw [dbP_stop h ho m (by omega), if_neg (by rw [ho]; exact Bool.false_ne_true)]
/-- what holds of the model's state -/
structure DbI (n a : Int) (k : Nat) (g lo hi : Int) (o : List Int) : Prop where
  g0 : 1 ≤ g
  g1 : g ≤ 2 ^ k
  l0 : 0 ≤ lo
  l1 : lo ≤ a
  h0 : a ≤ hi
  h1 : hi ≤ n - 1
  len : o.length ≤ k
theorem dbI_at {n a : Int} (ha : 0 ≤ a ∧ a < n) : ∀ k, DbI n a k (dbM n a k).g (dbM n a k).lo (dbM n a k).hi (dbM n a k).o
  | 0 => ⟨by show (1 : Int) ≤ 1; decide, by show (1 : Int) ≤ 2 ^ 0; decide, ha.1, Int.le_refl _, Int.le_refl _, by show a ≤ n - 1; omega, Nat.le_refl _⟩
  | k + 1 => by
    have h := dbI_at ha k
    rcases hs : dbM n a k with ⟨g, lo, hi, r, o⟩
    rw [hs] at h
    obtain ⟨h1, h2, h3, h4, h5, h6, h7⟩ := h
    have hp : (2 : Int) ^ (k + 1) = 2 ^ k * 2 := by rw [Int.pow_succ]
    dsimp only at h1 h2 h3 h4 h5 h6 h7
    generalize (2 : Int) ^ k = p at *
    cases ho : (Db.mk g lo hi r o).on n
    · rw [dbM_stop hs ho (k + 1) (by omega)]
      exact ⟨h1, by rw [hp]; dsimp only; omega, h3, h4, h5, h6, by dsimp only; omega⟩
    · rw [dbM_next hs ho]
      unfold Db.next
      dsimp only
      cases r
      · simp only [Bool.false_eq_true, if_false]
        split
        · exact ⟨by dsimp only; omega, by rw [hp]; dsimp only; omega, by dsimp only; omega, by dsimp only; omega, h5, h6, by simp; omega⟩
        · exact ⟨by dsimp only; omega, by rw [hp]; dsimp only; omega, h3, h4, h5, h6, by dsimp only; omega⟩
      · simp only [if_true]
        split
        · exact ⟨by dsimp only; omega, by rw [hp]; dsimp only; omega, h3, h4, by dsimp only; omega, by dsimp only; omega, by simp; omega⟩
        · exact ⟨by dsimp only; omega, by rw [hp]; dsimp only; omega, h3, h4, h5, h6, by dsimp only; omega⟩
structure DpI (n : Int) (k : Nat) (l q : Int) (o : List Int) : Prop where
  l0 : -(2 ^ k) ≤ l
  l1 : l ≤ 2 ^ k
  q0 : 0 ≤ q
  q1 : q ≤ n - 1
  len : o.length ≤ k
theorem dpI_at {n a : Int} (ha : 0 ≤ a ∧ a < n) : ∀ k, DpI n k (dbP n a k).l (dbP n a k).q (dbP n a k).o
  | 0 => ⟨by show -(2 ^ 0) ≤ (1 : Int); decide, by show (1 : Int) ≤ 2 ^ 0; decide, ha.1, by show a ≤ n - 1; omega, Nat.le_refl _⟩
  | k + 1 => by
    have h := dpI_at ha k
    rcases hs : dbP n a k with ⟨l, q, o⟩
    rw [hs] at h
    obtain ⟨h1, h2, h3, h4, h5⟩ := h
    have hp : (2 : Int) ^ (k + 1) = 2 ^ k * 2 := by rw [Int.pow_succ]
    have hp0 : (0 : Int) < 2 ^ k := Int.pow_pos (by decide)
    dsimp only at h1 h2 h3 h4 h5
    generalize (2 : Int) ^ k = p at *
    cases ho : (Dp.mk l q o).on n
    · rw [dbP_stop hs ho (k + 1) (by omega)]
      exact ⟨by rw [hp]; dsimp only; omega, by rw [hp]; dsimp only; omega, h3, h4, by dsimp only; omega⟩
    · rw [dbP_next hs ho]
      unfold Dp.next
      exact ⟨by rw [hp]; dsimp only; omega, by rw [hp]; dsimp only; omega, by dsimp only; omega, by dsimp only; omega, by simp; omega⟩
theorem okD_at {n a : Int} (hn : 2 ≤ n ∧ n ≤ 24) (ha : 0 ≤ a ∧ a < n) : okD n a = true := by
  have h := table ⟨n.toNat, by omega⟩ ⟨a.toNat, by omega⟩ (by dsimp only; omega) (by dsimp only; omega)
  dsimp only at h
  rw [Int.toNat_of_nonneg (by omega), Int.toNat_of_nonneg ha.1] at h
  exact h
theorem okD_parts {n a : Int} (h : okD n a = true) : (dbM n a 12).on n = false ∧ (dbP n a 12).on n = false ∧ strT a (dbM n a 12).o (dbM n a 12).o.length = (dbP n a 12).o ++ [n - 1 - (dbP n a 12).q] := by
  unfold okD at h
  rw [Bool.and_eq_true, Bool.and_eq_true] at h
  refine ⟨by simpa using h.1.1, by simpa using h.1.2, of_decide_eq_true h.2⟩
/-- what DoublingSearch answers -/
def doubR (n : Int) (g : Bool) (a : Int) : List Int × Bool := if lineB n g a then (strT a (dbM n a 12).o (dbM n a 12).o.length, true) else ([], false)
theorem doubR_no {n : Int} {g : Bool} {a : Int} (h : lineB n g a = false) : doubR n g a = ([], false) := by
  unfold doubR
  rw [if_neg (by rw [h]; exact Bool.false_ne_true)]
theorem doubR_yes {n : Int} {g : Bool} {a : Int} (h : lineB n g a = true) : doubR n g a = (strT a (dbM n a 12).o (dbM n a 12).o.length, true) := by
  unfold doubR
  exact if_pos h
theorem doubR_len (n : Int) (g : Bool) (a : Int) : (doubR n g a).1.length ≤ 1048576 := by
  cases h : lineB n g a
  · rw [doubR_no h]
    simp
  · rw [doubR_yes h]
    have hl := (lineB_iff n g a).1 h
    have h1 := strT_len a (dbM n a 12).o (dbM n a 12).o.length
    have h2 := (dbI_at (n := n) (a := a) ⟨hl.2.2.2.1, hl.2.2.2.2⟩ 12).len
    dsimp only
    omega
def DbR (n a : Int) (base : Nat) (w : World) (ov lv hv rv gv : Value) (wr : World) : Prop :=
  Boxed base n false w wr ∧ ∃ (k : Nat) (g lo hi : Int) (r : Bool) (o : List Int), k ≤ 12 ∧ dbM n a k = ⟨g, lo, hi, r, o⟩ ∧ lv = .int .i64 lo ∧ hv = .int .i64 hi ∧ rv = .bool r ∧ gv = .int .i64 g ∧ wr.ownsRow (base + 1) 3 1 ov o.length (o.map iv)
theorem reads_shapeD {w : World} {v : Value} {xs : List Int} (h : ReadsI w v xs) : ∃ a c, v = .slice a xs.length c := by
  obtain ⟨a, c, e, _⟩ := h
  exact ⟨a, c, e⟩
set_option maxHeartbeats 3200000 in
set_option maxRecDepth 20000 in
theorem spec_DoublingSearch (n : Int) (g : Bool) (a : Int) (w : World) :
    Calls Try.prog 31 #[rd n g, .int .i64 a] w (OwnsB w.heap.size (doubR n g a).1 (doubR n g a).2 w) := by
  obtain ⟨i0, hi, hz0, hz1, hz2⟩ := info_parts infoInt
  have HLI := Lib.hid (fun w => l3Line_any n g a w)
  have HST := Lib.hid (fun v xs w hv hl => l3Straight_any a v xs w hv hl)
  have HMO := Lib.hid (fun a b w => l1Most_any a b w)
  have HLE := Lib.hid (fun a b w => l1Least_any a b w)
  have HX0 := Lib.hid ((Boxed.first w n g 27).next (below_new _ (.cells #[] 3)))
  have HO0 := Lib.hid (made_at (w.alloc (.cells #[.int .i64 n, .bool g] 27)) (w.heap.size + 1) (w.heap.size + 1) (by simp) (Nat.le_refl _))
  unfold rd at *
  have h0 := HX0.out.c0
  have h1 := HX0.out.c1
  go_enter Try.func31, Try.ntmps31
  go_wp2_with fail
  refine (HLI.out _).mono ?_
  rintro e w1 ⟨rfl, hb⟩
  have HX := Lib.hid (HX0.out.next hb)
  have HO := Lib.hid (owns_below HO0.out hb)
  clear hb h0 h1 HX0 HO0
  cases hl : lineB n g a
  · have HR := Lib.hid (doubR_no hl)
    go_wp2_with fail
    go_ret2
    exact owns_R (zs := []) (b := false) HR.out (owns_out HX.out HO.out)
  · have HR := Lib.hid (doubR_yes hl)
    obtain ⟨hn1, hn2, hgf, ha0, ha1⟩ := (lineB_iff n g a).1 hl
    subst hgf
    have HDI := Lib.hid (fun k => dbI_at (n := n) (a := a) ⟨ha0, ha1⟩ k)
    have hok := okD_parts (okD_at (n := n) (a := a) ⟨hn1, hn2⟩ ⟨ha0, ha1⟩)
    have HOFF := Lib.hid hok.1
    clear hl hok
    go_wp2_with fail
    go_loopw [6, 7, 8, 9, 10] (fun ov lv hv rv gv wr => DbR n a w.heap.size w ov lv hv rv gv wr) (fun _ _ _ _ gv _ => (5000 - (intOf gv)).toNat)
    case atStart => exact ⟨HX.out, 0, 1, a, a, true, [], by decide, rfl, rfl, rfl, rfl, rfl, HO.out⟩
    case round =>
      obtain ⟨hx, k, g, lo, hi', r, o, hk, hs, rfl, rfl, rfl, rfl, hown⟩ := hrel
      clear HX HO
      have HX := Lib.hid hx
      have hdi := HDI.out k
      rw [hs] at hdi
      have hg0 := hdi.g0
      have hg1 := hdi.g1
      have hl0 := hdi.l0
      have hl1 := hdi.l1
      have hh0 := hdi.h0
      have hh1 := hdi.h1
      have hol := hdi.len
      dsimp only at hg0 hg1 hl0 hl1 hh0 hh1 hol
      have hp2 : (2 : Int) ^ k ≤ 4096 := by
        have h := Nat.pow_le_pow_right (show 0 < 2 by decide) hk
        have h2 : ((2 ^ k : Nat) : Int) ≤ ((2 ^ 12 : Nat) : Int) := by omega
        simpa using h2
      have hg2 : g ≤ 4096 := by omega
      have HOF := HOFF
      clear hx hdi hg1 hp2
      generalize hys : o.map iv = ys at hown
      have HYS := Lib.hid hys
      have HOW := Lib.hid hown
      clear hown hys
      have h0 := HX.out.c0
      by_cases hlo : 0 < lo
      · have hon : (Db.mk g lo hi' r o).on n = true := by simp [Db.on, hlo]
        have hk12 : k < 12 := by
          rcases Nat.lt_or_ge k 12 with h | h
          · exact h
          · obtain rfl : k = 12 := by omega
            have := HOFF.out
            rw [hs, hon] at this
            cases this
        clear HOF
        by_cases hhi : hi' < n - 1
        · cases r
          · have HN := Lib.hid (show dbM n a (k + 1) = ⟨2 * g, max 0 (a - g), hi', true, o ++ [max 0 (a - g)]⟩ by rw [dbM_next hs hon]; simp [Db.next, hlo])
            clear hs hon
            go_wp2_with fail
            refine (HMO.out _ _ _).mono ?_
            rintro e wq ⟨rfl, rfl⟩
            go_wp2_with (at_builtin; refine wpList_append_own _ rfl _ _ 24 rfl (w.heap.size + 1) 3 i0 (.int .i64 0) 1 8 Try.underlying24 hi hz0 hz1 hz2 rfl (by decide) _ _ _ rfl (HOW.out.alloc _) ⟨wr.heap.size, 0, none⟩ 1 1 [.int .i64 (max 0 (a - g))] rfl rfl (cell_one_new _ _ _) ?c2 ?c3 ?c4 ?c5 ?_)
            case c2 => first | (intro u hu; simp at hu; subst hu; rfl) | rfl
            case c3 => unfold maxLen; omega
            case c4 => omega
            case c5 => have := HX.out.size; simp; omega
            intro v' w9 hown' hgrow _
            have HXE := Lib.hid (boxed_append HX.out hgrow (fun b hb => (owns_block HOW.out b hb).1))
            have HOE := Lib.hid (show w9.ownsRow (w.heap.size + 1) 3 1 v' (o ++ [max 0 (a - g)]).length ((o ++ [max 0 (a - g)]).map iv) by rw [List.length_append, List.map_append, HYS.out]; exact hown')
            clear hgrow hown' h0
            have h0 := HXE.out.c0
            go_wp2_with fail
            go_roundw
            case rel => exact ⟨HXE.out, k + 1, 2 * g, max 0 (a - g), hi', true, o ++ [max 0 (a - g)], by omega, HN.out, rfl, rfl, rfl, rfl, HOE.out⟩
            case measure => simp [intOf]; omega
          · have HN := Lib.hid (show dbM n a (k + 1) = ⟨2 * g, lo, min (n - 1) (a + g), false, o ++ [min (n - 1) (a + g)]⟩ by rw [dbM_next hs hon]; simp [Db.next, hhi])
            clear hs hon
            go_wp2_with fail
            refine (HLE.out _ _ _).mono ?_
            rintro e wq ⟨rfl, rfl⟩
            go_wp2_with (at_builtin; refine wpList_append_own _ rfl _ _ 24 rfl (w.heap.size + 1) 3 i0 (.int .i64 0) 1 8 Try.underlying24 hi hz0 hz1 hz2 rfl (by decide) _ _ _ rfl (HOW.out.alloc _) ⟨wr.heap.size, 0, none⟩ 1 1 [.int .i64 (min (n - 1) (a + g))] rfl rfl (cell_one_new _ _ _) ?c2 ?c3 ?c4 ?c5 ?_)
            case c2 => first | (intro u hu; simp at hu; subst hu; rfl) | rfl
            case c3 => unfold maxLen; omega
            case c4 => omega
            case c5 => have := HX.out.size; simp; omega
            intro v' w9 hown' hgrow _
            have HXE := Lib.hid (boxed_append HX.out hgrow (fun b hb => (owns_block HOW.out b hb).1))
            have HOE := Lib.hid (show w9.ownsRow (w.heap.size + 1) 3 1 v' (o ++ [min (n - 1) (a + g)]).length ((o ++ [min (n - 1) (a + g)]).map iv) by rw [List.length_append, List.map_append, HYS.out]; exact hown')
            clear hgrow hown' h0
            have h0 := HXE.out.c0
            go_wp2_with fail
            go_roundw
            case rel => exact ⟨HXE.out, k + 1, 2 * g, lo, min (n - 1) (a + g), false, o ++ [min (n - 1) (a + g)], by omega, HN.out, rfl, rfl, rfl, rfl, HOE.out⟩
            case measure => simp [intOf]; omega
        · cases r
          · have HN := Lib.hid (show dbM n a (k + 1) = ⟨2 * g, max 0 (a - g), hi', true, o ++ [max 0 (a - g)]⟩ by rw [dbM_next hs hon]; simp [Db.next, hlo])
            clear hs hon
            go_wp2_with fail
            refine (HMO.out _ _ _).mono ?_
            rintro e wq ⟨rfl, rfl⟩
            go_wp2_with (at_builtin; refine wpList_append_own _ rfl _ _ 24 rfl (w.heap.size + 1) 3 i0 (.int .i64 0) 1 8 Try.underlying24 hi hz0 hz1 hz2 rfl (by decide) _ _ _ rfl (HOW.out.alloc _) ⟨wr.heap.size, 0, none⟩ 1 1 [.int .i64 (max 0 (a - g))] rfl rfl (cell_one_new _ _ _) ?c2 ?c3 ?c4 ?c5 ?_)
            case c2 => first | (intro u hu; simp at hu; subst hu; rfl) | rfl
            case c3 => unfold maxLen; omega
            case c4 => omega
            case c5 => have := HX.out.size; simp; omega
            intro v' w9 hown' hgrow _
            have HXE := Lib.hid (boxed_append HX.out hgrow (fun b hb => (owns_block HOW.out b hb).1))
            have HOE := Lib.hid (show w9.ownsRow (w.heap.size + 1) 3 1 v' (o ++ [max 0 (a - g)]).length ((o ++ [max 0 (a - g)]).map iv) by rw [List.length_append, List.map_append, HYS.out]; exact hown')
            clear hgrow hown' h0
            have h0 := HXE.out.c0
            go_wp2_with fail
            go_roundw
            case rel => exact ⟨HXE.out, k + 1, 2 * g, max 0 (a - g), hi', true, o ++ [max 0 (a - g)], by omega, HN.out, rfl, rfl, rfl, rfl, HOE.out⟩
            case measure => simp [intOf]; omega
          · have HN := Lib.hid (show dbM n a (k + 1) = ⟨2 * g, lo, hi', false, o⟩ by rw [dbM_next hs hon]; simp [Db.next, hhi])
            clear hs hon
            have HXE := Lib.hid HX.out
            have hoo := HOW.out
            rw [← HYS.out] at hoo
            have HOE := Lib.hid hoo
            clear hoo
            go_wp2_with fail
            go_roundw
            case rel => exact ⟨HXE.out, k + 1, 2 * g, lo, hi', false, o, by omega, HN.out, rfl, rfl, rfl, rfl, HOE.out⟩
            case measure => simp [intOf]; omega
      · by_cases hhi : hi' < n - 1
        · have hon : (Db.mk g lo hi' r o).on n = true := by simp [Db.on, hhi]
          have hk12 : k < 12 := by
            rcases Nat.lt_or_ge k 12 with h | h
            · exact h
            · obtain rfl : k = 12 := by omega
              have := HOFF.out
              rw [hs, hon] at this
              cases this
          clear HOF
          cases r
          · have HN := Lib.hid (show dbM n a (k + 1) = ⟨2 * g, lo, hi', true, o⟩ by rw [dbM_next hs hon]; simp [Db.next, hlo])
            clear hs hon
            have HXE := Lib.hid HX.out
            have hoo := HOW.out
            rw [← HYS.out] at hoo
            have HOE := Lib.hid hoo
            clear hoo
            go_wp2_with fail
            go_roundw
            case rel => exact ⟨HXE.out, k + 1, 2 * g, lo, hi', true, o, by omega, HN.out, rfl, rfl, rfl, rfl, HOE.out⟩
            case measure => simp [intOf]; omega
          · have HN := Lib.hid (show dbM n a (k + 1) = ⟨2 * g, lo, min (n - 1) (a + g), false, o ++ [min (n - 1) (a + g)]⟩ by rw [dbM_next hs hon]; simp [Db.next, hhi])
            clear hs hon
            go_wp2_with fail
            refine (HLE.out _ _ _).mono ?_
            rintro e wq ⟨rfl, rfl⟩
            go_wp2_with (at_builtin; refine wpList_append_own _ rfl _ _ 24 rfl (w.heap.size + 1) 3 i0 (.int .i64 0) 1 8 Try.underlying24 hi hz0 hz1 hz2 rfl (by decide) _ _ _ rfl (HOW.out.alloc _) ⟨wr.heap.size, 0, none⟩ 1 1 [.int .i64 (min (n - 1) (a + g))] rfl rfl (cell_one_new _ _ _) ?c2 ?c3 ?c4 ?c5 ?_)
            case c2 => first | (intro u hu; simp at hu; subst hu; rfl) | rfl
            case c3 => unfold maxLen; omega
            case c4 => omega
            case c5 => have := HX.out.size; simp; omega
            intro v' w9 hown' hgrow _
            have HXE := Lib.hid (boxed_append HX.out hgrow (fun b hb => (owns_block HOW.out b hb).1))
            have HOE := Lib.hid (show w9.ownsRow (w.heap.size + 1) 3 1 v' (o ++ [min (n - 1) (a + g)]).length ((o ++ [min (n - 1) (a + g)]).map iv) by rw [List.length_append, List.map_append, HYS.out]; exact hown')
            clear hgrow hown' h0
            have h0 := HXE.out.c0
            go_wp2_with fail
            go_roundw
            case rel => exact ⟨HXE.out, k + 1, 2 * g, lo, min (n - 1) (a + g), false, o ++ [min (n - 1) (a + g)], by omega, HN.out, rfl, rfl, rfl, rfl, HOE.out⟩
            case measure => simp [intOf]; omega
        · have hoff : (Db.mk g lo hi' r o).on n = false := by simp [Db.on, hlo, hhi]
          have HE := Lib.hid (dbM_stop hs hoff 12 hk)
          have hoo := HOW.out
          rw [← HYS.out] at hoo
          have hrd := owns_reads hoo (by unfold maxLen; omega)
          clear hoo
          have HRD := Lib.hid hrd
          clear hoff hs
          obtain ⟨oa, oc, hsh⟩ := reads_shapeD hrd
          subst hsh
          clear hrd
          go_wp2_with fail
          refine (HST.out _ o _ HRD.out (by omega)).mono ?_
          rintro e w2 ⟨u, rfl, ho, hb⟩
          have HX2 := Lib.hid (HX.out.next hb)
          have hsz := HX.out.size
          have HO2 := Lib.hid (owns_lower ho (Nat.le_of_lt hsz))
          clear ho hb
          go_wp2_with fail
          go_ret2
          refine owns_R (zs := strT a o o.length) (b := true) ?_ ⟨u, rfl, HO2.out, HX2.out.below⟩
          rw [HR.out, HE.out]

end Go.Proofs.Ytnclfdfnhhicdaa
