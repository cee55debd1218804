/-
  What is proved: impl.StraightWalk and the model's answer alike. Conditions: none.
-/
import Derived.Test.YtiokgnabiidlbaaFn9
import Derived.Test.YtiokgnabiidlbaaFn4
namespace Go.Proofs.Ytiokgnabiidlbaa
open Go.RowKit

/-- the place behind k steps of d from a -/
def posC (n : Int) (g : Bool) (a d : Int) (k : Nat) : Int := if g then (a + d * k) % n else max (min (a + d * k) (n - 1)) 0
theorem posC_zero {n : Int} {g : Bool} {a d : Int} (ha : 0 ≤ a ∧ a < n) : posC n g a d 0 = a := by
  unfold posC
  cases g
  · simp only [Bool.false_eq_true, if_false]
    simp
    omega
  · simp only [if_true]
    simp
    exact Int.emod_eq_of_lt ha.1 ha.2
theorem posC_range {n : Int} {g : Bool} {a d : Int} {k : Nat} (hn : 2 ≤ n) : 0 ≤ posC n g a d k ∧ posC n g a d k < n := by
  unfold posC
  cases g
  · simp only [Bool.false_eq_true, if_false]
    omega
  · simp only [if_true]
    exact ⟨Int.emod_nonneg _ (by omega), Int.emod_lt_of_pos _ (by omega)⟩
theorem posC_step {n : Int} {g : Bool} {a d : Int} {k : Nat} (hn : 2 ≤ n) (ha : 0 ≤ a ∧ a < n) (hd : d = 1 ∨ d = -1) : stepI n g (posC n g a d k) d = posC n g a d (k + 1) := by
  have e : a + d * ((k + 1 : Nat) : Int) = (a + d * k) + d := by rw [Int.natCast_succ, Int.mul_add, Int.mul_one]; omega
  unfold posC stepI
  cases g
  · simp only [Bool.false_eq_true, if_false]
    rw [e]
    rcases hd with rfl | rfl <;> omega
  · simp only [if_true]
    rw [e, Int.add_emod_right, Int.emod_add_emod]
/-- the list of the first m + 1 places -/
def wlk (f : Nat → Int) (m : Nat) : List Int := (List.range (m + 1)).map f
theorem wlk_len (f : Nat → Int) (m : Nat) : (wlk f m).length = m + 1 := by simp [wlk]
theorem wlk_at (f : Nat → Int) (m k : Nat) (h : k ≤ m) : (wlk f m)[k]? = some (f k) := by
  have h2 : k < m + 1 := by omega
  simp [wlk, h2]
theorem wlk_snoc (f : Nat → Int) (m : Nat) : (wlk f m).map iv ++ [Value.int .i64 (f (m + 1))] = (wlk f (m + 1)).map iv := by
  unfold wlk
  rw [List.range_succ (n := m + 1)]
  simp
theorem made_one (w : World) (base k : Nat) (a : Int) (hk : w.heap.size = k) (hb : base ≤ k) : (w.alloc (.cells #[.int .i64 a] 3)).ownsRow base 3 1 (.slice (some ⟨k, 0, none⟩) 1 1) 1 [iv a] := by
  subst hk
  exact ⟨by simp, .inr ⟨w.heap.size, 1, #[iv a], rfl, hb, heap_alloc_new w _, Nat.le_refl _, by decide, rfl, by simp⟩⟩
/-- the length of a slice -/
def lenOf : Value → Nat
  | .slice _ n _ => n
  | _ => 0
theorem owns_lenOf {w : World} {base n : Nat} {v : Value} {xs : List Value} (h : w.ownsRow base 3 1 v n xs) : lenOf v = n := by
  obtain ⟨a, c, rfl, _⟩ := owns_shape h
  rfl
def GoRel (n : Int) (g : Bool) (f : Nat → Int) (m base : Nat) (w : World) (p v : Value) (k : Nat) (wr : World) : Prop :=
  Boxed base n g w wr ∧ k ≤ m ∧ p = .int .i64 (f k) ∧ wr.ownsRow (base + 1) 3 1 v (k + 1) ((wlk f k).map iv)
theorem go_next {n : Int} {g : Bool} {f : Nat → Int} {m base k : Nat} {w wr : World} {v : Value} {ys : List Value} (hys : (wlk f k).map iv = ys) (hk : k < m) (h : Boxed base n g w wr) (ho : wr.ownsRow (base + 1) 3 1 v (k + 1 + 1) (ys ++ [Value.int .i64 (f (k + 1))])) : GoRel n g f m base w (.int .i64 (f (k + 1))) v (k + 1) wr := by
  subst hys
  refine ⟨h, hk, rfl, ?_⟩
  rw [← wlk_snoc]
  exact ho
set_option maxHeartbeats 800000 in
set_option maxRecDepth 20000 in
theorem l2Go_any (n : Int) (g : Bool) (a d : Int) (m : Nat) (w : World) (hn : 2 ≤ n ∧ n ≤ 24) (ha : 0 ≤ a ∧ a < n) (hd : d = 1 ∨ d = -1) (hm : m ≤ 60) :
    Calls Try.prog 79 #[rd n g, .int .i64 a, .int .i64 d, .int .i64 m] w (OwnsI w.heap.size (wlk (posC n g a d) m) w) := by
  obtain ⟨i0, hi, hz0, hz1, hz2⟩ := info_parts infoInt
  have HST := Lib.hid (fun p w hp => l2Step_any n g p d w hn hp (by omega))
  have HN := Lib.hid (fun k => posC_step (g := g) (k := k) hn.1 ha hd)
  have HRG := Lib.hid (fun k => posC_range (g := g) (a := a) (d := d) (k := k) hn.1)
  have HZ := Lib.hid (posC_zero (g := g) (d := d) ha)
  have HX := Lib.hid ((Boxed.first w n g 25).next (below_new _ (.cells #[.int .i64 a] 3)))
  have HO := Lib.hid (made_one (w.alloc (.cells #[.int .i64 n, .bool g] 25)) (w.heap.size + 1) (w.heap.size + 1) a (by simp) (Nat.le_refl _))
  clear hd hn ha
  unfold rd at *
  go_enter Try.func79, Try.ntmps79
  go_wp2_with fail
  go_loopw [1, 9, 10] (fun p v i wr => ∃ k : Nat, i = .int .i64 k ∧ GoRel n g (posC n g a d) m w.heap.size w p v k wr) (fun _ _ i _ => m - (intOf i).toNat)
  case atStart => exact ⟨0, rfl, HX.out, Nat.zero_le _, by rw [HZ.out], by unfold wlk; simp only [List.range_succ, List.range_zero, List.nil_append, List.map_cons, List.map_nil, HZ.out]; exact HO.out⟩
  case round =>
    obtain ⟨k, rfl, hx, hk, rfl, hown⟩ := hrel
    clear HX HO
    have HX := Lib.hid hx
    generalize hys : (wlk (posC n g a d) k).map iv = ys at hown
    have HYS := Lib.hid hys
    have HOW := Lib.hid hown
    have h0 := HX.out.c0
    have h1 := HX.out.c1
    clear hx hown hys
    by_cases hlt : k < m
    · have HST2 := Lib.hid (HST.out (posC n g a d k) · (HRG.out k))
      go_wp2_with fail
      refine (HST2.out _).mono ?_
      rintro e w2 ⟨rfl, hb⟩
      have HX := Lib.hid (HX.out.next hb)
      have HOW := Lib.hid (owns_below HOW.out hb)
      clear hb h0 h1
      rw [HN.out k]
      go_wp2_with (at_builtin; refine wpList_append_own _ rfl _ _ 26 rfl (w.heap.size + 1) 3 i0 (.int .i64 0) 1 8 Try.underlying26 hi hz0 hz1 hz2 rfl (by decide) _ _ _ rfl (HOW.out.alloc _) ⟨w2.heap.size, 0, none⟩ 1 1 [.int .i64 (posC n g a d (k + 1))] rfl rfl (cell_one_new _ _ _) ?c2 ?c3 ?c4 ?c5 ?_)
      case c2 => intro u hu; simp at hu; subst hu; rfl
      case c3 => unfold maxLen; omega
      case c4 => omega
      case c5 => have := HX.out.size; simp; omega
      intro v' w9 hown' hgrow _
      have HX := Lib.hid (boxed_append HX.out hgrow (fun b hb => (owns_block HOW.out b hb).1))
      have HOW' := Lib.hid hown'
      clear hgrow hown' HOW
      go_wp2_with fail
      go_roundw
      case rel => exact ⟨k + 1, by go_num, go_next HYS.out hlt HX.out HOW'.out⟩
      case measure => simp [intOf] <;> omega
    · have HE := Lib.hid (show k = m by omega)
      go_wp2_with fail
      go_ret
      refine ⟨_, rfl, ?_, HX.out.below⟩
      have hE := HE.out
      subst hE
      rw [wlk_len, HYS.out]
      exact owns_lower HOW.out (Nat.le_succ _)
set_option maxHeartbeats 800000 in
set_option maxRecDepth 20000 in
theorem walkTo_up (n : Int) (g : Bool) (a b : Int) (f : Nat → Int) (m : Nat) (w : World) (hn : 2 ≤ n ∧ n ≤ 24) (hm : m ≤ 60) (h0f : f 0 = a) (hin : ∀ k, k ≤ m → 0 ≤ f k ∧ f k < n) (hne : ∀ k, k < m → f k ≠ b) (hfm : f m = b) (hst : ∀ k, k < m → afterI n g (f k) = f (k + 1)) :
    Calls Try.prog 76 #[rd n g, .int .i64 a, .int .i64 b, .func (.func 78) #[] #[]] w (OwnsI w.heap.size (wlk f m) w) := by
  obtain ⟨i0, hi, hz0, hz1, hz2⟩ := info_parts infoInt
  have HST := Lib.hid (fun p w hp => after_any n g p w hn hp)
  have HIN := Lib.hid hin
  have HNE := Lib.hid hne
  have HFM := Lib.hid hfm
  have HS := Lib.hid hst
  have HZ := Lib.hid h0f
  have HX := Lib.hid ((Boxed.first w n g 25).next (below_new _ (.cells #[.int .i64 a] 3)))
  have HO := Lib.hid (made_one (w.alloc (.cells #[.int .i64 n, .bool g] 25)) (w.heap.size + 1) (w.heap.size + 1) a (by simp) (Nat.le_refl _))
  clear hin hne hfm hst h0f hn
  unfold rd at *
  go_enter Try.func76, Try.ntmps76
  go_wp2_with fail
  go_loopw [9, 10] (fun v p wr => ∃ k : Nat, GoRel n g f m w.heap.size w p v k wr) (fun v _ _ => m + 1 - lenOf v)
  case atStart => exact ⟨0, HX.out, Nat.zero_le _, by rw [HZ.out], by unfold wlk; simp only [List.range_succ, List.range_zero, List.nil_append, List.map_cons, List.map_nil, HZ.out]; exact HO.out⟩
  case round =>
    obtain ⟨k, hx, hk, rfl, hown⟩ := hrel
    clear HX HO
    have HX := Lib.hid hx
    have hl1 := owns_lenOf hown
    have HL1 := Lib.hid hl1
    generalize hys : (wlk f k).map iv = ys at hown
    have HYS := Lib.hid hys
    have HOW := Lib.hid hown
    have h0 := HX.out.c0
    have h1 := HX.out.c1
    clear hx hown hys hl1
    by_cases hlt : k < m
    · have hq := HNE.out k hlt
      have hqa : (f k == b) = false := by simp [hq]
      have hqb : (!(f k == b)) = true := by simp [hq]
      have HST2 := Lib.hid (HST.out (f k) · (HIN.out k hk))
      go_wp2_with fail
      refine (HST2.out _).mono ?_
      rintro e w2 ⟨rfl, hb⟩
      have HX := Lib.hid (HX.out.next hb)
      have HOW := Lib.hid (owns_below HOW.out hb)
      clear hb h0 h1 hq hqa hqb
      rw [HS.out k hlt]
      go_wp2_with (at_builtin; refine wpList_append_own _ rfl _ _ 26 rfl (w.heap.size + 1) 3 i0 (.int .i64 0) 1 8 Try.underlying26 hi hz0 hz1 hz2 rfl (by decide) _ _ _ rfl (HOW.out.alloc _) ⟨w2.heap.size, 0, none⟩ 1 1 [.int .i64 (f (k + 1))] rfl rfl (cell_one_new _ _ _) ?c2 ?c3 ?c4 ?c5 ?_)
      case c2 => intro u hu; simp at hu; subst hu; rfl
      case c3 => unfold maxLen; omega
      case c4 => omega
      case c5 => have := HX.out.size; simp; omega
      intro v' w9 hown' hgrow _
      have HX := Lib.hid (boxed_append HX.out hgrow (fun b hb => (owns_block HOW.out b hb).1))
      have HOW' := Lib.hid hown'
      clear hgrow hown' HOW
      have HL2 := Lib.hid (owns_lenOf HOW'.out)
      go_wp2_with fail
      go_roundw
      case rel => exact ⟨k + 1, go_next HYS.out hlt HX.out HOW'.out⟩
      case measure =>
        have h1 := HL1.out
        have h2 := HL2.out
        simp only [h1, h2]
        omega
    · have hE : k = m := by omega
      subst hE
      have hq := HFM.out
      have hqa : (f k == b) = true := by simp [hq]
      have hqb : (!(f k == b)) = false := by simp [hq]
      have HQ := Lib.hid hq
      clear hq
      go_wp2_with fail
      go_ret
      refine ⟨_, rfl, ?_, HX.out.below⟩
      rw [wlk_len, HYS.out]
      exact owns_lower HOW.out (Nat.le_succ _)
set_option maxHeartbeats 800000 in
set_option maxRecDepth 20000 in
theorem walkTo_down (n : Int) (g : Bool) (a b : Int) (f : Nat → Int) (m : Nat) (w : World) (hn : 2 ≤ n ∧ n ≤ 24) (hm : m ≤ 60) (h0f : f 0 = a) (hin : ∀ k, k ≤ m → 0 ≤ f k ∧ f k < n) (hne : ∀ k, k < m → f k ≠ b) (hfm : f m = b) (hst : ∀ k, k < m → beforeI n g (f k) = f (k + 1)) :
    Calls Try.prog 76 #[rd n g, .int .i64 a, .int .i64 b, .func (.func 77) #[] #[]] w (OwnsI w.heap.size (wlk f m) w) := by
  obtain ⟨i0, hi, hz0, hz1, hz2⟩ := info_parts infoInt
  have HST := Lib.hid (fun p w hp => before_any n g p w hn hp)
  have HIN := Lib.hid hin
  have HNE := Lib.hid hne
  have HFM := Lib.hid hfm
  have HS := Lib.hid hst
  have HZ := Lib.hid h0f
  have HX := Lib.hid ((Boxed.first w n g 25).next (below_new _ (.cells #[.int .i64 a] 3)))
  have HO := Lib.hid (made_one (w.alloc (.cells #[.int .i64 n, .bool g] 25)) (w.heap.size + 1) (w.heap.size + 1) a (by simp) (Nat.le_refl _))
  clear hin hne hfm hst h0f hn
  unfold rd at *
  go_enter Try.func76, Try.ntmps76
  go_wp2_with fail
  go_loopw [9, 10] (fun v p wr => ∃ k : Nat, GoRel n g f m w.heap.size w p v k wr) (fun v _ _ => m + 1 - lenOf v)
  case atStart => exact ⟨0, HX.out, Nat.zero_le _, by rw [HZ.out], by unfold wlk; simp only [List.range_succ, List.range_zero, List.nil_append, List.map_cons, List.map_nil, HZ.out]; exact HO.out⟩
  case round =>
    obtain ⟨k, hx, hk, rfl, hown⟩ := hrel
    clear HX HO
    have HX := Lib.hid hx
    have hl1 := owns_lenOf hown
    have HL1 := Lib.hid hl1
    generalize hys : (wlk f k).map iv = ys at hown
    have HYS := Lib.hid hys
    have HOW := Lib.hid hown
    have h0 := HX.out.c0
    have h1 := HX.out.c1
    clear hx hown hys hl1
    by_cases hlt : k < m
    · have hq := HNE.out k hlt
      have hqa : (f k == b) = false := by simp [hq]
      have hqb : (!(f k == b)) = true := by simp [hq]
      have HST2 := Lib.hid (HST.out (f k) · (HIN.out k hk))
      go_wp2_with fail
      refine (HST2.out _).mono ?_
      rintro e w2 ⟨rfl, hb⟩
      have HX := Lib.hid (HX.out.next hb)
      have HOW := Lib.hid (owns_below HOW.out hb)
      clear hb h0 h1 hq hqa hqb
      rw [HS.out k hlt]
      go_wp2_with (at_builtin; refine wpList_append_own _ rfl _ _ 26 rfl (w.heap.size + 1) 3 i0 (.int .i64 0) 1 8 Try.underlying26 hi hz0 hz1 hz2 rfl (by decide) _ _ _ rfl (HOW.out.alloc _) ⟨w2.heap.size, 0, none⟩ 1 1 [.int .i64 (f (k + 1))] rfl rfl (cell_one_new _ _ _) ?c2 ?c3 ?c4 ?c5 ?_)
      case c2 => intro u hu; simp at hu; subst hu; rfl
      case c3 => unfold maxLen; omega
      case c4 => omega
      case c5 => have := HX.out.size; simp; omega
      intro v' w9 hown' hgrow _
      have HX := Lib.hid (boxed_append HX.out hgrow (fun b hb => (owns_block HOW.out b hb).1))
      have HOW' := Lib.hid hown'
      clear hgrow hown' HOW
      have HL2 := Lib.hid (owns_lenOf HOW'.out)
      go_wp2_with fail
      go_roundw
      case rel => exact ⟨k + 1, go_next HYS.out hlt HX.out HOW'.out⟩
      case measure =>
        have h1 := HL1.out
        have h2 := HL2.out
        simp only [h1, h2]
        omega
    · have hE : k = m := by omega
      subst hE
      have hq := HFM.out
      have hqa : (f k == b) = true := by simp [hq]
      have hqb : (!(f k == b)) = false := by simp [hq]
      have HQ := Lib.hid hq
      clear hq
      go_wp2_with fail
      go_ret
      refine ⟨_, rfl, ?_, HX.out.below⟩
      rw [wlk_len, HYS.out]
      exact owns_lower HOW.out (Nat.le_succ _)
end Go.Proofs.Ytiokgnabiidlbaa
