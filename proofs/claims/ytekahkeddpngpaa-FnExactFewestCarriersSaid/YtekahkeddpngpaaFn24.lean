/-
  What is proved: plain facts on a walk that waits; math/bits.Mul at small numbers; slices.Repeat of one number. Conditions: those of each contract.
-/
import Derived.Test.YtekahkeddpngpaaFn19
import Derived.Laws.CopyOwn
import Derived.Laws.Bits64b
import Derived.Lib.Mul64
namespace Go.Proofs.Ytekahkeddpngpaa
open Go.RowKit
set_option linter.unusedVariables false
set_option linter.unusedSimpArgs false

theorem gap_same (n : Int) (g : Bool) (p : Int) : gapI n g p p ≤ 1 := by
  unfold gapI
  split <;> omega
/-- the list xs with m more of p at t -/
def waitL (xs : List Int) (t m : Nat) (p : Int) : List Int := xs.take t ++ (List.replicate m p ++ xs.drop t)
theorem waitL_len {xs : List Int} {t m : Nat} {p : Int} (h : t ≤ xs.length) : (waitL xs t m p).length = xs.length + m := by
  simp [waitL]
  omega
theorem drop_one {xs : List Int} {t : Nat} {p : Int} (h : xs[t]? = some p) : xs.drop t = p :: xs.drop (t + 1) := by
  obtain ⟨ht, rfl⟩ := List.getElem?_eq_some_iff.1 h
  exact List.drop_eq_getElem_cons ht
theorem take_one {xs : List Int} {t : Nat} {p : Int} (h : xs[t]? = some p) : xs.take (t + 1) = xs.take t ++ [p] := by
  obtain ⟨ht, rfl⟩ := List.getElem?_eq_some_iff.1 h
  exact List.take_succ_eq_append_getElem ht
theorem waitL_alt {xs : List Int} {t m : Nat} {p : Int} (h : xs[t]? = some p) : (xs.take (t + 1) ++ List.replicate m p) ++ xs.drop (t + 1) = waitL xs t m p := by
  unfold waitL
  rw [drop_one h, take_one h]
  simp only [List.append_assoc, List.singleton_append]
  rw [show p :: List.replicate m p = List.replicate m p ++ [p] from by rw [← List.replicate_succ, List.replicate_succ'], List.append_assoc]
  rfl
theorem waitL_at {xs : List Int} {t m : Nat} {p : Int} (ht : t ≤ xs.length) (k : Nat) : (waitL xs t m p)[k]? = if k < t then xs[k]? else if k < t + m then some p else xs[k - m]? := by
  unfold waitL
  have hl : (xs.take t).length = t := by simp; omega
  by_cases h1 : k < t
  · rw [if_pos h1, List.getElem?_append_left (by omega), List.getElem?_take, if_pos h1]
  · rw [if_neg h1, List.getElem?_append_right (by omega), hl]
    by_cases h2 : k < t + m
    · rw [if_pos h2, List.getElem?_append_left (by simp; omega), List.getElem?_replicate, if_pos (by omega)]
    · rw [if_neg h2, List.getElem?_append_right (by simp; omega), List.getElem?_drop, List.length_replicate]
      congr 1
      omega
theorem wait_walk {n : Int} {g : Bool} {xs : List Int} {t m : Nat} {p : Int} (hx : Walk n g xs) (hp : xs[t]? = some p) : Walk n g (waitL xs t m p) ↔ xs.length + m ≤ 61 := by
  obtain ⟨ht, _⟩ := List.getElem?_eq_some_iff.1 hp
  have hl := waitL_len (xs := xs) (t := t) (m := m) (p := p) (by omega)
  have hat := waitL_at (xs := xs) (t := t) (m := m) (p := p) (by omega)
  constructor
  · intro h
    rw [← hl]
    exact h.2.2.1
  · intro h
    have hx1 := hx.2.1
    refine ⟨hx.1, by omega, by omega, fun k q hk => ?_, fun k a b ha hb => ?_⟩
    · rw [hat] at hk
      split at hk
      · exact hx.2.2.2.1 k q hk
      · split at hk
        · cases hk
          exact hx.2.2.2.1 t p hp
        · exact hx.2.2.2.1 _ q hk
    · rw [hat] at ha hb
      by_cases c1 : k + 1 < t
      · rw [if_pos (by omega)] at ha
        rw [if_pos c1] at hb
        exact hx.2.2.2.2 k a b ha hb
      · rw [if_neg c1] at hb
        by_cases c2 : k < t
        · rw [if_pos c2] at ha
          have e : k + 1 = t := by omega
          by_cases c3 : k + 1 < t + m
          · rw [if_pos c3] at hb
            cases hb
            rw [← e] at hp
            exact hx.2.2.2.2 k a p ha hp
          · rw [if_neg c3, show k + 1 - m = k + 1 by omega] at hb
            exact hx.2.2.2.2 k a b ha hb
        · rw [if_neg c2] at ha
          by_cases c3 : k + 1 < t + m
          · rw [if_pos (by omega)] at ha
            rw [if_pos c3] at hb
            cases ha
            cases hb
            exact gap_same n g p
          · rw [if_neg c3] at hb
            by_cases c4 : k < t + m
            · rw [if_pos c4] at ha
              rw [show k + 1 - m = t by omega, hp] at hb
              cases ha
              cases hb
              exact gap_same n g p
            · rw [if_neg c4] at ha
              rw [show k + 1 - m = (k - m) + 1 by omega] at hb
              exact hx.2.2.2.2 (k - m) a b ha hb
open Classical in
/-- what WaitWalk answers -/
noncomputable def waitR (n : Int) (g : Bool) (xs : List Int) (t m : Int) : List Int × Bool := if Walk n g xs ∧ 0 ≤ t ∧ t < xs.length ∧ 0 ≤ m ∧ xs.length + m ≤ 61 then (waitL xs t.toNat m.toNat (xs.getD t.toNat 0), true) else ([], false)
theorem waitR_no {n : Int} {g : Bool} {xs : List Int} {t m : Int} (h : ¬ (Walk n g xs ∧ 0 ≤ t ∧ t < xs.length ∧ 0 ≤ m ∧ xs.length + m ≤ 61)) : waitR n g xs t m = ([], false) := by unfold waitR; rw [if_neg h]
theorem waitR_yes {n : Int} {g : Bool} {xs : List Int} {t m : Nat} {p : Int} (hx : Walk n g xs) (hp : xs[t]? = some p) (hm : xs.length + m ≤ 61) : waitR n g xs t m = (waitL xs t m p, true) := by
  obtain ⟨ht, _⟩ := List.getElem?_eq_some_iff.1 hp
  unfold waitR
  rw [if_pos ⟨hx, by omega, by omega, by omega, by omega⟩]
  simp [List.getD, hp]
theorem waitR_len (n : Int) (g : Bool) (xs : List Int) (t m : Int) (_h : xs.length ≤ 1048576) : (waitR n g xs t m).1.length ≤ 1048576 := by
  by_cases hq : Walk n g xs ∧ 0 ≤ t ∧ t < xs.length ∧ 0 ≤ m ∧ xs.length + m ≤ 61
  · unfold waitR
    rw [if_pos hq]
    show (waitL xs t.toNat m.toNat _).length ≤ _
    rw [waitL_len (by omega)]
    omega
  · rw [waitR_no hq]
    simp

theorem mask_small (y : Nat) (hy : y ≤ 1000) : bits .and .u64 (y : Int) 4294967295 = (y : Int) := by
  have h := bits_and_u64_nat y 4294967295 (by omega) (by omega)
  have e : y &&& 4294967295 = y % 4294967296 := Nat.and_two_pow_sub_one_eq_mod y 32
  rw [e, Nat.mod_eq_of_lt (by omega)] at h
  exact h
set_option maxHeartbeats 1000000 in
theorem mul64_one (y : Nat) (hy : y ≤ 1000) (w : World) :
    Calls Try.prog 99 #[.int .u64 1, .int .u64 y] w fun e w' => e = .returned (.tuple #[.int .u64 0, .int .u64 y]) ∧ w = w' := by
  have m1 : bits .and .u64 (1 : Int) 4294967295 = 1 := mask_small 1 (by omega)
  have m0 : bits .and .u64 (0 : Int) 4294967295 = 0 := mask_small 0 (by omega)
  have my := mask_small y hy
  have h1 : (y : Int) / 4294967296 = 0 := by omega
  have h2 : (1 : Int) / 4294967296 = 0 := by omega
  have h3 : (0 : Int) / 4294967296 = 0 := by omega
  have h4 : IntKind.u64.wrap (y : Int) = y := by rw [IntKind.wrap_u64]; omega
  go_enter Try.func99, Try.ntmps99
  go_wp2
  go_ret2
  first
    | exact ⟨rfl, rfl⟩
    | exact ⟨by simp [m1, m0, my, h1, h2, h3, h4], rfl⟩
theorem mul_one (y : Nat) (hy : y ≤ 1000) (w : World) :
    Calls Try.prog 84 #[.int .u64 1, .int .u64 y] w fun e w' => e = .returned (.tuple #[.int .u64 0, .int .u64 y]) ∧ w = w' := by
  have H := Lib.hid (fun w => mul64_one y hy w)
  go_enter Try.func84, Try.ntmps84
  go_wp2_with fail
  refine (H.out _).mono ?_
  rintro e w1 ⟨rfl, rfl⟩
  go_wp2_with fail
  go_ret2
  exact ⟨rfl, rfl⟩
/-- m cells of which the first k are p -/
def repC (m k : Nat) (p : Int) : List Value := List.replicate k (iv p) ++ List.replicate (m - k) (iv 0)
theorem repC_len {m k : Nat} {p : Int} (h : k ≤ m) : (repC m k p).length = m := by simp [repC]; omega
theorem repC_zero (m : Nat) (p : Int) : repC m 0 p = List.replicate m (iv 0) := by simp [repC]
theorem repC_all (m : Nat) (p : Int) : repC m m p = List.replicate m (iv p) := by simp [repC]
theorem repC_splice {m k d : Nat} {p : Int} (h : k + d ≤ m) : splice (repC m k p) k (List.replicate d (iv p)) = repC m (k + d) p := by
  unfold splice repC
  rw [List.take_left' (by simp), List.length_replicate, ← List.drop_drop, List.drop_left' (by simp), List.drop_replicate, ← List.append_assoc, List.replicate_append_replicate, show m - k - d = m - (k + d) by omega]
theorem repC_at {m k j : Nat} {p : Int} (h : j < k) : (repC m k p)[j]? = some (iv p) := by
  unfold repC
  rw [List.getElem?_append_left (by simpa using h), List.getElem?_replicate, if_pos h]
def RepAns (p : Int) (m : Nat) (w : World) (e : Ending) (w' : World) : Prop :=
  ∃ k, e = .returned (.slice (some ⟨k, 0, none⟩) m m) ∧ (∀ (i : Nat) x, (List.replicate m p)[i]? = some x → k < w'.heap.size ∧ w'.cell? ⟨k, 0 + i, none⟩ = some (.int .i64 x)) ∧ Below w.heap.size w w'
theorem rep_ans {p : Int} {m g : Nat} {w w' : World} {t : TypeId} (h : w'.heap[g]? = some (.cells (repC m m p).toArray t (0, 0))) (hb : Below w.heap.size w w') : RepAns p m w (.returned (.slice (some ⟨g, 0, none⟩) m m)) w' := by
  refine ⟨g, rfl, fun i x hx => ⟨(Array.getElem?_eq_some_iff.1 h).1, ?_⟩, hb⟩
  rw [List.getElem?_replicate] at hx
  split at hx
  · cases hx
    rename_i hi
    have hc : w'.cell? ⟨g, 0 + i, none⟩ = (repC m m p).toArray[0 + i]? := by simp [World.cell?, h]
    rw [hc, Nat.zero_add, List.getElem?_toArray, repC_at hi]
  · cases hx
abbrev RepS (g m : Nat) (p : Int) (k : Nat) (w wr : World) : Prop := wr.heap[g]? = some (.cells (repC m k p).toArray 3 (0, 0)) ∧ Below w.heap.size w wr
def RepRel (g m : Nat) (p : Int) (w : World) (i : Value) (wr : World) : Prop :=
  ∃ k : Nat, 1 ≤ k ∧ k ≤ m ∧ i = .int .i64 k ∧ RepS g m p k w wr
def RepRaw (p : Int) (m : Nat) (w : World) (e : Ending) (w' : World) : Prop :=
  ∃ g, e = .returned (.slice (some ⟨g, 0, none⟩) m m) ∧ w.heap.size ≤ g ∧ w'.heap[g]? = some (.cells (repC m m p).toArray 3 (0, 0)) ∧ Below w.heap.size w w'
theorem rep_raw {p : Int} {m : Nat} {w w' : World} (h : w'.heap[w.heap.size]? = some (.cells (repC m m p).toArray 3 (0, 0))) (hb : Below w.heap.size w w') : RepRaw p m w (.returned (.slice (some ⟨w.heap.size, 0, none⟩) m m)) w' := ⟨_, rfl, Nat.le_refl _, h, hb⟩
set_option maxHeartbeats 1600000 in
set_option maxRecDepth 20000 in
theorem repeat_raw (b o : Nat) (p : Int) (m : Nat) (w : World) (hb : b < w.heap.size) (hp : w.cell? ⟨b, o, none⟩ = some (.int .i64 p)) (hm : m ≤ 64) :
    Calls Try.prog 57 #[.slice (some ⟨b, o, none⟩) 1 1, .int .i64 m] w (RepRaw p m w) := by
  obtain ⟨i0, hi, hz0, hz1, hz2⟩ := info_parts infoInt
  have hszi : (Try.prog.info? 3).map (·.size) = some 1 := by kernel_rfl
  have HM := Lib.hid (fun w => mul_one m (by omega) w)
  have HP := Lib.hid hp
  clear hp
  go_enter Try.func57, Try.ntmps57
  go_wp2_with fail
  refine (HM.out _).mono ?_
  rintro e w1 ⟨rfl, rfl⟩
  go_wp2_with (at_make; refine wpList_make_full _ rfl _ _ 24 rfl w.heap.size 3 i0 (.int .i64 0) 1 Try.underlying24 hi hz0 hz1 .i64 .i64 _ _ m rfl rfl rfl rfl ?c1 ?c2 ?c3 ?_)
  case c1 => rw [hz2]; omega
  case c2 => unfold maxLen; omega
  case c3 => exact Nat.le_refl _
  intro w1 hown hgrow
  have hb1 : Below w.heap.size w w1 := (Below.refl _ _).grown hgrow (Nat.le_refl _) (fun k e => by cases e)
  have hrow : w1.heap[w.heap.size]? = some (.cells (repC m 0 p).toArray 3 (0, 0)) := by
    rcases hown.2 with ⟨h, _⟩ | ⟨g, cap, cur, h, _, hblk, hnc, hcm, hcs, ht⟩
    · cases h
    · cases h
      rw [hblk]
      have hcur : cur.toList = List.replicate m (iv 0) := by
        rw [List.take_of_length_le (by simp; omega)] at ht
        rw [ht]
        apply List.ext_getElem?
        intro j
        by_cases hj : j < m
        · simp [madeCells, hj, Nat.mod_one]
        · simp [madeCells, hj]
      rw [repC_zero, ← hcur]
  have HROW := Lib.hid hrow
  have HB1 := Lib.hid hb1
  have HPC := Lib.hid ((hb1.cell (p := ⟨b, o, none⟩) hb).trans HP.out)
  clear hrow hb1 hgrow hown
  by_cases hm0 : m = 0
  · subst hm0
    go_wp2_with (with_reducible refine wpList_copy_splice rfl _ _ _ _ rfl 3 Try.underlying24 hszi _ _ _ _ _ _ rfl rfl w.heap.size 0 (repC 0 0 p) 3 HROW.out [] ?e1 ?e2 ?e3 ?e4 w.heap.size w HB1.out (Nat.le_refl _) ?_)
    case e1 => simp
    case e3 => simp
    case e4 => intro v hv; simp at hv
    intro w2 hG2 hB2
    have HB2 := Lib.hid hB2
    clear hB2
    go_wp2_with fail
    go_loop [8] (fun i => i = .int .i64 0) (fun _ => 0)
    case atStart => rfl
    case round =>
      subst hrel
      go_wp2_with fail
      go_ret
      exact rep_raw (by have h := hG2.out; simpa [splice, repC] using h) HB2.out
  · have hm1 : 1 ≤ m := by omega
    go_wp2_with (with_reducible refine wpList_copy_splice rfl _ _ _ _ rfl 3 Try.underlying24 hszi _ _ _ _ _ _ rfl rfl w.heap.size 0 (repC m 0 p) 3 HROW.out [iv p] ?f1 ?f2 ?f3 ?f4 w.heap.size w HB1.out (Nat.le_refl _) ?_)
    case f1 => exact (Nat.min_eq_left (by omega)).symm
    case f2 =>
      intro j v hj
      match j, hj with
      | 0, hj => cases hj; exact HPC.out
      | j + 1, hj => simp at hj
    case f3 => rw [repC_len (by omega)]; simp; omega
    case f4 => intro v hv; simp at hv; subst hv; rfl
    intro w2 hG2 hB2
    have hS1 : RepS w.heap.size m p 1 w w2 := ⟨by have h := hG2.out; rw [show [iv p] = List.replicate 1 (iv p) from rfl, repC_splice (by omega)] at h; exact h, hB2⟩
    have HS1 := Lib.hid hS1
    clear hS1 hB2 hG2 HROW HB1
    go_wp2_with fail
    go_loopw [8] (fun i wr => RepRel w.heap.size m p w i wr) (fun i _ => m - (intOf i).toNat)
    case atStart => exact ⟨1, Nat.le_refl _, hm1, rfl, HS1.out⟩
    case round =>
      obtain ⟨k, hk1, hk, rfl, hS⟩ := hrel
      have HS := Lib.hid hS
      clear hS
      by_cases hlt : k < m
      · have hne : ¬ m = k := by omega
        have hk0 : 0 ≤ (k : Int) := by omega
        have hkm : (k : Int) ≤ m := by omega
        have hkm2 : (k : Int) < m := by omega
        obtain ⟨d, hd⟩ : ∃ d, d = Nat.min k (m - k) := ⟨_, rfl⟩
        have hd1 : d ≤ k := by rw [hd]; exact Nat.min_le_left _ _
        have hd2 : d ≤ m - k := by rw [hd]; exact Nat.min_le_right _ _
        have hd3 : 1 ≤ d := by rw [hd]; exact Nat.le_min.2 ⟨by omega, by omega⟩
        have HD := Lib.hid hd
        clear hd
        go_wp2_with fail
        refine wp_region_noPanic ?_
        refine wp_region_held_drew (S := fun w' => Below w.heap.size w w') (by kernel_rfl) (HS.out.2.trans ((below_drewN _ 1).mono HS.out.2.size)) (fun hHeld => ?_)
        have HR := Lib.hid (show wr.drew.heap[w.heap.size]? = some (.cells (repC m k p).toArray 3 (0, 0)) from HS.out.1)
        refine wpAnyH_take (i := 0) (oi := _) (v := ?_) rfl (by kernel_rfl) (by kernel_rfl) (by kernel_rfl) (fun _ _ _ h => h) (Or.inl ⟨by rfl, ?_⟩) (by assumption) ?_
        rotate_left
        · (intro w hSw; (try dsimp only at hSw); (first | (go_simp; done) | (go_simp; with_reducible rfl)))
        simp only [Act.put, List.getElem_toArray, List.getElem_cons_succ, List.getElem_cons_zero, List.setIfInBounds_toArray, List.set_cons_zero, List.set_cons_succ]
        refine wpAnyH_take (i := 1) (oi := _) (v := ?_) rfl (by kernel_rfl) (by kernel_rfl) (by kernel_rfl) (fun _ _ _ h => h) (Or.inl ⟨by rfl, ?_⟩) (by assumption) ?_
        rotate_left
        · (intro w hSw; (try dsimp only at hSw); (first | (go_simp; done) | (go_simp; with_reducible rfl)))
        simp only [Act.put, List.getElem_toArray, List.getElem_cons_succ, List.getElem_cons_zero, List.setIfInBounds_toArray, List.set_cons_zero, List.set_cons_succ]
        refine wpAnyH_take (i := 2) (oi := _) (v := ?_) rfl (by kernel_rfl) (by kernel_rfl) (by kernel_rfl) (fun _ _ _ h => h) (Or.inl ⟨by rfl, ?_⟩) (by assumption) ?_
        rotate_left
        · (intro w hSw; (try dsimp only at hSw); (first | (go_simp; done) | (go_simp; with_reducible rfl)))
        simp only [Act.put, List.getElem_toArray, List.getElem_cons_succ, List.getElem_cons_zero, List.setIfInBounds_toArray, List.set_cons_zero, List.set_cons_succ]
        refine wpAnyH_take (i := 3) (oi := _) (v := ?_) rfl (by kernel_rfl) (by kernel_rfl) (by kernel_rfl) (fun _ _ _ h => h) (Or.inl ⟨by rfl, ?_⟩) (by assumption) ?_
        rotate_left
        · (intro w hSw; (try dsimp only at hSw); (first | (go_simp; done) | (go_simp; with_reducible rfl)))
        simp only [Act.put, List.getElem_toArray, List.getElem_cons_succ, List.getElem_cons_zero, List.setIfInBounds_toArray, List.set_cons_zero, List.set_cons_succ]
        refine wpAnyH_take (i := 4) (oi := _) (v := ?_) rfl (by kernel_rfl) (by kernel_rfl) (by kernel_rfl) (fun _ _ _ h => h) (Or.inl ⟨by rfl, ?_⟩) (by assumption) ?_
        rotate_left
        · (intro w hSw; (try dsimp only at hSw); (first | (go_simp; done) | (go_simp; with_reducible rfl)))
        simp only [Act.put, List.getElem_toArray, List.getElem_cons_succ, List.getElem_cons_zero, List.setIfInBounds_toArray, List.set_cons_zero, List.set_cons_succ]
        refine wpAnyH_take (i := 5) (oi := _) (v := ?_) rfl (by kernel_rfl) (by kernel_rfl) (by kernel_rfl) (fun _ _ _ h => h) (Or.inl ⟨by rfl, ?_⟩) (by assumption) ?_
        rotate_left
        · (intro w hSw; (try dsimp only at hSw); (first | (go_simp; done) | (go_simp; with_reducible rfl)))
        simp only [Act.put, List.getElem_toArray, List.getElem_cons_succ, List.getElem_cons_zero, List.setIfInBounds_toArray, List.set_cons_zero, List.set_cons_succ]
        refine wpAnyH_take (i := 6) (oi := _) (v := ?_) rfl (by kernel_rfl) (by kernel_rfl) (by kernel_rfl) (fun _ _ _ h => h) (Or.inl ⟨by rfl, ?_⟩) (by assumption) ?_
        rotate_left
        · (intro w hSw; (try dsimp only at hSw); (first | (go_simp; done) | (go_simp; with_reducible rfl)))
        simp only [Act.put, List.getElem_toArray, List.getElem_cons_succ, List.getElem_cons_zero, List.setIfInBounds_toArray, List.set_cons_zero, List.set_cons_succ]
        refine wpAnyH_ready (rs := [7]) (by kernel_rfl) (by simp) ?_
        refine AllReadyH.cons rfl (fun K hK => ?_) AllReadyH.nil
        refine step_copy_splice (by rfl) _ _ _ _ (by rfl) 3 Try.underlying24 hszi _ _ _ _ _ _ (by rfl) (by rfl) w.heap.size k (repC m k p) 3 HR.out (List.replicate d (iv p)) ?g1 ?g2 ?g3 ?g4 w.heap.size w hHeld (Nat.le_refl _) ?_
        case g1 => rw [List.length_replicate]; exact HD.out
        case g2 => exact fun _ => ⟨rfl, _, rfl, fun j v hj => by
          rw [List.getElem?_replicate] at hj
          split at hj
          · cases hj
            rename_i hj2
            have ha : (⟨w.heap.size, 0, none⟩ : Addr).add j = ⟨w.heap.size, j, none⟩ := by
              unfold Addr.add
              by_cases h : j = 0 <;> simp [h]
            rw [ha]
            have h2 := HR.out
            simp only [World.cell?, h2]
            exact (List.getElem?_toArray).trans (repC_at (by omega))
          · cases hj⟩
        case g3 => rw [repC_len hk, List.length_replicate]; omega
        case g4 => intro v hv; rw [List.mem_replicate] at hv; rw [hv.2]; rfl
        intro w4 hG4 hB4
        have HS4 := Lib.hid (show RepS w.heap.size m p (k + d) w w4 from ⟨by have h := hG4.out; rw [repC_splice (by omega)] at h; exact h, hB4⟩)
        clear hG4 hHeld
        refine hK.out _ _ (hB4) (fun hHeld => ?_)
        clear hK K
        refine wpAnyH_take (i := 8) (oi := _) (v := ?_) rfl (by kernel_rfl) (by kernel_rfl) (by kernel_rfl) (fun _ _ _ h => h) (Or.inl ⟨by rfl, ?_⟩) (by assumption) ?_
        rotate_left
        · (intro w hSw; (try dsimp only at hSw); (first | (go_simp; done) | (go_simp; with_reducible rfl)))
        simp only [Act.put, List.getElem_toArray, List.getElem_cons_succ, List.getElem_cons_zero, List.setIfInBounds_toArray, List.set_cons_zero, List.set_cons_succ]
        refine wpAnyH_take (i := 9) (oi := _) (v := ?_) rfl (by kernel_rfl) (by kernel_rfl) (by kernel_rfl) (fun _ _ _ h => h) (Or.inl ⟨by rfl, ?_⟩) (by assumption) ?_
        rotate_left
        · (intro w hSw; (try dsimp only at hSw); (first | (go_simp; done) | (go_simp; with_reducible rfl)))
        simp only [Act.put, List.getElem_toArray, List.getElem_cons_succ, List.getElem_cons_zero, List.setIfInBounds_toArray, List.set_cons_zero, List.set_cons_succ]
        refine wpAnyH_done (by kernel_rfl) ?_ _
        refine NoPanic.normal ?_
        have hwr9 : IntKind.i64.wrap ((k : Int) + (d : Int)) = (k : Int) + (d : Int) := IntWalk.i64_in _ (by omega)
        rw [hwr9]
        clear hwr9
        go_wp2_with fail
        go_roundw
        case rel => exact ⟨k + d, by omega, by omega, by go_num, HS4.out⟩
        case measure => simp [intOf]; omega
      · have hE : k = m := by omega
        subst hE
        go_wp2_with fail
        go_ret
        exact rep_raw HS.out.1 HS.out.2
theorem repeat_one (b o : Nat) (p : Int) (m : Nat) (w : World) (hb : b < w.heap.size) (hp : w.cell? ⟨b, o, none⟩ = some (.int .i64 p)) (hm : m ≤ 64) :
    Calls Try.prog 57 #[.slice (some ⟨b, o, none⟩) 1 1, .int .i64 m] w (RepAns p m w) :=
  (repeat_raw b o p m w hb hp hm).mono fun _ _ ⟨_, he, _, h, hb⟩ => he ▸ rep_ans h hb
theorem repeat_owns (b o : Nat) (p : Int) (m : Nat) (w : World) (hb : b < w.heap.size) (hp : w.cell? ⟨b, o, none⟩ = some (.int .i64 p)) (hm : m ≤ 64) :
    Calls Try.prog 57 #[.slice (some ⟨b, o, none⟩) 1 1, .int .i64 m] w fun e w' => ∃ g, e = .returned (.slice (some ⟨g, 0, none⟩) m m) ∧ w'.ownsRow w.heap.size 3 1 (.slice (some ⟨g, 0, none⟩) m m) m ((List.replicate m p).map iv) ∧ Below w.heap.size w w' := by
  refine (repeat_raw b o p m w hb hp hm).mono ?_
  rintro e w' ⟨g, rfl, hg, h, hbl⟩
  refine ⟨g, rfl, ⟨by simp, Or.inr ⟨g, m, _, rfl, hg, h, Nat.le_refl _, by unfold maxLen; omega, ?_, ?_⟩⟩, hbl⟩
  · simp [repC]
  · rw [repC_all]
    simp
end Go.Proofs.Ytekahkeddpngpaa
