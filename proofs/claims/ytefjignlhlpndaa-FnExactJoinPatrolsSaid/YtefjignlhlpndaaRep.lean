/-
  What is proved: the contract of slices.Repeat of a list of numbers. Conditions: a list of 1 to 60 numbers, repeated 1 to 60 times.
-/
import Derived.Test.YtefjignlhlpndaaTbc
import Derived.Laws.CopyOwn
import Derived.Laws.Bits64b
import Derived.Lib.Mul64
namespace Go.Proofs.Ytefjignlhlpndaa
open Go.RowKit
set_option linter.unusedVariables false
set_option linter.unusedSimpArgs false

theorem mask_low (y : Nat) (hy : y ≤ 1000000) : bits .and .u64 (y : Int) 4294967295 = (y : Int) := by
  have h := bits_and_u64_nat y 4294967295 (by omega) (by omega)
  have e : y &&& 4294967295 = y % 4294967296 := Nat.and_two_pow_sub_one_eq_mod y 32
  rw [e, Nat.mod_eq_of_lt (by omega)] at h
  exact h
theorem mul_bound {x y : Nat} (hx : x ≤ 60) (hy : y ≤ 60) : x * y ≤ 3600 := Nat.le_trans (Nat.mul_le_mul hx hy) (by decide)
set_option maxHeartbeats 1000000 in
theorem mul64_low (x y : Nat) (hx : x ≤ 60) (hy : y ≤ 60) (w : World) :
    Calls Try.prog 113 #[.int .u64 x, .int .u64 y] w fun e w' => e = .returned (.tuple #[.int .u64 0, .int .u64 (x * y : Nat)]) ∧ w = w' := by
  have mx := mask_low x (by omega)
  have my := mask_low y (by omega)
  have m0 : bits .and .u64 (0 : Int) 4294967295 = 0 := mask_low 0 (by omega)
  have hp := mul_bound hx hy
  obtain ⟨p, hpe⟩ : ∃ p, p = x * y := ⟨_, rfl⟩
  rw [← hpe] at hp ⊢
  have hxy : (x : Int) * (y : Int) = (p : Int) := by rw [hpe]; push_cast; rfl
  have h1 : (x : Int) / 4294967296 = 0 := by omega
  have h2 : (y : Int) / 4294967296 = 0 := by omega
  have h3 : (0 : Int) / 4294967296 = 0 := by omega
  have h4 : IntKind.u64.wrap (p : Int) = p := by rw [IntKind.wrap_u64]; omega
  have h5 : (p : Int) / 4294967296 = 0 := by omega
  clear hpe
  go_enter Try.func113, Try.ntmps113
  go_wp2
  go_ret2
  first
    | exact ⟨rfl, rfl⟩
    | exact ⟨by simp [mx, my, m0, h1, h2, h3, h4, h5, hxy], rfl⟩
theorem mul_low (x y : Nat) (hx : x ≤ 60) (hy : y ≤ 60) (w : World) :
    Calls Try.prog 105 #[.int .u64 x, .int .u64 y] w fun e w' => e = .returned (.tuple #[.int .u64 0, .int .u64 (x * y : Nat)]) ∧ w = w' := by
  have H := Lib.hid (fun w => mul64_low x y hx hy w)
  go_enter Try.func105, Try.ntmps105
  go_wp2_with fail
  refine (H.out _).mono ?_
  rintro e w1 ⟨rfl, rfl⟩
  go_wp2_with fail
  go_ret2
  exact ⟨rfl, rfl⟩
/-- a list over and over -/
def cycF (xs : List Int) (i : Nat) : Int := xs.getD (i % xs.length) 0
theorem cycF_add {xs : List Int} {k : Nat} (h : k % xs.length = 0) (i : Nat) : cycF xs (k + i) = cycF xs i := by
  unfold cycF
  rw [Nat.add_mod, h, Nat.zero_add, Nat.mod_mod]
theorem rowF_add (f : Nat → Int) (k d : Nat) : rowF f (k + d) = rowF f k ++ rowF (fun i => f (k + i)) d := by
  unfold rowF
  rw [List.range_add, List.map_append, List.map_map]
  rfl
theorem cyc_more {xs : List Int} {k d : Nat} (h : k % xs.length = 0) : rowF (cycF xs) (k + d) = rowF (cycF xs) k ++ rowF (cycF xs) d := by
  rw [rowF_add]
  congr 1
  exact List.map_congr_left fun i _ => cycF_add h i
theorem cyc_once (xs : List Int) : rowF (cycF xs) xs.length = xs := by
  apply List.ext_getElem?
  intro j
  by_cases hj : j < xs.length
  · rw [rowF_at _ _ _ hj]
    unfold cycF
    rw [Nat.mod_eq_of_lt hj]
    simp [List.getD, hj]
  · rw [List.getElem?_eq_none (by rw [rowF_len]; omega), List.getElem?_eq_none (by omega)]
/-- m cells of which the first k go over and over a list -/
def cycC (xs : List Int) (m k : Nat) : List Value := (rowF (cycF xs) k).map iv ++ List.replicate (m - k) (iv 0)
theorem cycC_len {xs : List Int} {m k : Nat} (h : k ≤ m) : (cycC xs m k).length = m := by simp [cycC, rowF_len]; omega
theorem cycC_zero (xs : List Int) (m : Nat) : cycC xs m 0 = List.replicate m (iv 0) := by simp [cycC, rowF]
theorem cycC_all (xs : List Int) (m : Nat) : cycC xs m m = (rowF (cycF xs) m).map iv := by simp [cycC]
theorem cycC_splice {xs : List Int} {m k d : Nat} (h : k + d ≤ m) (hk : k % xs.length = 0) : splice (cycC xs m k) k ((rowF (cycF xs) d).map iv) = cycC xs m (k + d) := by
  unfold splice cycC
  have hl : ((rowF (cycF xs) k).map iv).length = k := by simp [rowF_len]
  have hld : ((rowF (cycF xs) d).map iv).length = d := by simp [rowF_len]
  rw [List.take_left' hl, hld, ← List.drop_drop, List.drop_left' hl, List.drop_replicate, ← List.append_assoc, ← List.map_append, ← cyc_more hk, show m - k - d = m - (k + d) by omega]
theorem cycC_at {xs : List Int} {m k j : Nat} (h : j < k) : (cycC xs m k)[j]? = some (iv (cycF xs j)) := by
  unfold cycC
  rw [List.getElem?_append_left (by simp [rowF_len]; exact h), List.getElem?_map, rowF_at _ _ _ h]
  rfl
abbrev CycS (g m : Nat) (xs : List Int) (k : Nat) (w wr : World) : Prop := wr.heap[g]? = some (.cells (cycC xs m k).toArray 3 (0, 0)) ∧ Below w.heap.size w wr
def CycRel (g m : Nat) (xs : List Int) (w : World) (i : Value) (wr : World) : Prop :=
  ∃ k : Nat, 1 ≤ k ∧ k ≤ m ∧ k % xs.length = 0 ∧ i = .int .i64 k ∧ CycS g m xs k w wr
theorem cyc_own {xs : List Int} {m : Nat} {w w' : World} (hm : m ≤ 3600) (h : w'.heap[w.heap.size]? = some (.cells (cycC xs m m).toArray 3 (0, 0))) (hb : Below w.heap.size w w') : OwnsI w.heap.size (rowF (cycF xs) m) w (.returned (.slice (some ⟨w.heap.size, 0, none⟩) m m)) w' := by
  have hl := rowF_len (cycF xs) m
  refine ⟨_, rfl, ⟨by simp [hl], Or.inr ⟨w.heap.size, m, _, by rw [hl], Nat.le_refl _, h, by rw [hl]; exact Nat.le_refl _, by unfold maxLen; omega, ?_, ?_⟩⟩, hb⟩
  · rw [List.size_toArray, cycC_len (Nat.le_refl _)]; omega
  · rw [cycC_all]
    show List.take _ ((rowF (cycF xs) m).map iv) = _
    exact List.take_of_length_le (by simp [hl])
theorem mod_more {L k d m : Nat} (hk : k % L = 0) (hm : m % L = 0) (hd : d = Nat.min k (m - k)) (hkm : k ≤ m) : (k + d) % L = 0 := by
  by_cases h : k ≤ m - k
  · have e : d = k := by rw [hd]; exact Nat.min_eq_left h
    rw [e, Nat.add_mod, hk]
    simp
  · have e : k + d = m := by
      have : d = m - k := by rw [hd]; exact Nat.min_eq_right (by omega)
      omega
    rw [e]
    exact hm
set_option maxHeartbeats 1600000 in
set_option maxRecDepth 20000 in
theorem repeat_list (v : Value) (xs : List Int) (c : Nat) (w : World) (hv : ReadsI w v xs) (hl : 1 ≤ xs.length ∧ xs.length ≤ 60) (hc : 1 ≤ c ∧ c ≤ 60) :
    Calls Try.prog 97 #[v, .int .i64 c] w (OwnsI w.heap.size (rowF (cycF xs) (xs.length * c)) w) := by
  obtain ⟨i0, hi, hz0, hz1, hz2⟩ := info_parts infoInt
  have hszi : (Try.prog.info? 3).map (·.size) = some 1 := by kernel_rfl
  obtain ⟨hl1, hl60⟩ := hl
  obtain ⟨hc1, hc60⟩ := hc
  have hmb := mul_bound hl60 hc60
  have hmL : xs.length ≤ xs.length * c := Nat.le_mul_of_pos_right _ hc1
  have HMM := Lib.hid (Nat.mul_mod_right xs.length c)
  have HM := Lib.hid (fun w => mul_low xs.length c hl60 hc60 w)
  obtain ⟨va, vc, rfl, hvc, _, hx⟩ := hv
  obtain ⟨x0, hx0⟩ := get_some (xs := xs) (k := 0) (by omega)
  obtain ⟨b, o, rfl, hb, _⟩ := hx 0 x0 hx0
  have HP := Lib.hid (fun (j : Nat) x (hj : xs[j]? = some x) => show w.cell? ⟨b, o + j, none⟩ = some (.int .i64 x) from by obtain ⟨b', o', e, _, h⟩ := hx j x hj; cases e; exact h)
  clear hx hx0
  obtain ⟨m, hm⟩ : ∃ m, m = xs.length * c := ⟨_, rfl⟩
  rw [← hm] at hmb hmL HMM HM ⊢
  have HMQ := Lib.hid hm
  clear hm
  have hmu : IntKind.i64.wrap (m : Int) = (m : Int) := IntWalk.i64_in _ (by omega)
  have hml : ¬ (9223372036854775807 : Int) < (m : Int) := by omega
  have hlu : IntKind.u64.wrap (xs.length : Int) = (xs.length : Int) := by rw [IntKind.wrap_u64]; omega
  have hcu : IntKind.u64.wrap (c : Int) = (c : Int) := by rw [IntKind.wrap_u64]; omega
  have hm1 : 1 ≤ m := by omega
  go_enter Try.func97, Try.ntmps97
  go_wp2_with fail
  refine (HM.out _).mono ?_
  rintro e w1 ⟨rfl, rfl⟩
  go_wp2_with (at_make; refine wpList_make_full _ rfl _ _ 43 rfl w.heap.size 3 i0 (.int .i64 0) 1 Try.underlying43 hi hz0 hz1 .i64 .i64 _ _ m rfl rfl rfl rfl ?c1 ?c2 ?c3 ?_)
  case c1 => rw [hz2]; omega
  case c2 => unfold maxLen; omega
  case c3 => exact Nat.le_refl _
  intro w1 hown hgrow
  have hb1 : Below w.heap.size w w1 := (Below.refl _ _).grown hgrow (Nat.le_refl _) (fun k e => by cases e)
  have hrow : w1.heap[w.heap.size]? = some (.cells (cycC xs m 0).toArray 3 (0, 0)) := by
    rcases hown.2 with ⟨h, _⟩ | ⟨g, cap, cur, h, _, hblk, hnc, hcm, hcs, ht⟩
    · cases h
    · cases h
      rw [hblk]
      have hcur : cur.toList = List.replicate m (iv 0) := by
        rw [List.take_of_length_le (by simp; omega)] at ht
        rw [ht]
        apply List.ext_getElem?
        intro j
        by_cases hj : j < m
        · simp [madeCells, hj, Nat.mod_one]
        · simp [madeCells, hj]
      rw [cycC_zero, ← hcur]
  have HROW := Lib.hid hrow
  have HB1 := Lib.hid hb1
  have HPC := Lib.hid (fun (j : Nat) x (hj : xs[j]? = some x) => (hb1.cell (p := ⟨b, o + j, none⟩) hb).trans (HP.out j x hj))
  clear hrow hb1 hgrow hown

  go_wp2_with (with_reducible refine wpList_copy_splice rfl _ _ _ _ rfl 3 Try.underlying43 hszi _ _ _ _ _ _ rfl rfl w.heap.size 0 (cycC xs m 0) 3 HROW.out (xs.map iv) ?f1 ?f2 ?f3 ?f4 w.heap.size w HB1.out (Nat.le_refl _) ?_)
  case f1 => rw [List.length_map]; first | exact (Nat.min_eq_left (by omega)).symm | exact (Nat.min_eq_right (by omega)).symm
  case f2 => exact fun _ j a ha => HPC.out j a ha
  case f3 => rw [cycC_len (by omega)]; simp; omega
  case f4 => intro v hv; rw [List.mem_map] at hv; obtain ⟨x, _, rfl⟩ := hv; rfl
  intro w2 hG2 hB2
  have hS1 : CycS w.heap.size m xs xs.length w w2 := ⟨by have h := hG2.out; rw [show xs.map iv = (rowF (cycF xs) xs.length).map iv by rw [cyc_once], cycC_splice (by omega) (Nat.zero_mod _), Nat.zero_add] at h; exact h, hB2⟩
  have HS1 := Lib.hid hS1
  clear hS1 hB2 hG2 HROW HB1
  go_wp2_with fail
  go_loopw [8] (fun i wr => CycRel w.heap.size m xs w i wr) (fun i _ => m - (intOf i).toNat)
  case atStart => exact ⟨xs.length, hl1, by omega, Nat.mod_self _, rfl, HS1.out⟩
  case round =>
    obtain ⟨k, hk1, hk, hkm0, rfl, hS⟩ := hrel
    have HKM := Lib.hid hkm0
    clear hkm0
    have HS := Lib.hid hS
    clear hS
    by_cases hlt : k < m
    · have hne : ¬ m = k := by omega
      have hk0 : 0 ≤ (k : Int) := by omega
      have hkm : (k : Int) ≤ m := by omega
      have hkm2 : (k : Int) < m := by omega
      obtain ⟨d, hd⟩ : ∃ d, d = Nat.min k (m - k) := ⟨_, rfl⟩
      have hd1 : d ≤ k := by rw [hd]; exact Nat.min_le_left _ _
      have hd2 : d ≤ m - k := by rw [hd]; exact Nat.min_le_right _ _
      have hd3 : 1 ≤ d := by rw [hd]; exact Nat.le_min.2 ⟨by omega, by omega⟩
      have HD := Lib.hid hd
      clear hd
      go_wp2_with fail
      refine wp_region_noPanic ?_
      refine wp_region_held_drew (S := fun w' => Below w.heap.size w w') (by kernel_rfl) (HS.out.2.trans ((below_drewN _ 1).mono HS.out.2.size)) (fun hHeld => ?_)
      have HR := Lib.hid (show wr.drew.heap[w.heap.size]? = some (.cells (cycC xs m k).toArray 3 (0, 0)) from HS.out.1)
      refine wpAnyH_take (i := 0) (oi := _) (v := ?_) rfl (by kernel_rfl) (by kernel_rfl) (by kernel_rfl) (fun _ _ _ h => h) (Or.inl ⟨by rfl, ?_⟩) (by assumption) ?_
      rotate_left
      · (intro w hSw; (try dsimp only at hSw); (first | (go_simp; done) | (go_simp; with_reducible rfl)))
      simp only [Act.put, List.getElem_toArray, List.getElem_cons_succ, List.getElem_cons_zero, List.setIfInBounds_toArray, List.set_cons_zero, List.set_cons_succ]
      refine wpAnyH_take (i := 1) (oi := _) (v := ?_) rfl (by kernel_rfl) (by kernel_rfl) (by kernel_rfl) (fun _ _ _ h => h) (Or.inl ⟨by rfl, ?_⟩) (by assumption) ?_
      rotate_left
      · (intro w hSw; (try dsimp only at hSw); (first | (go_simp; done) | (go_simp; with_reducible rfl)))
      simp only [Act.put, List.getElem_toArray, List.getElem_cons_succ, List.getElem_cons_zero, List.setIfInBounds_toArray, List.set_cons_zero, List.set_cons_succ]
      refine wpAnyH_take (i := 2) (oi := _) (v := ?_) rfl (by kernel_rfl) (by kernel_rfl) (by kernel_rfl) (fun _ _ _ h => h) (Or.inl ⟨by rfl, ?_⟩) (by assumption) ?_
      rotate_left
      · (intro w hSw; (try dsimp only at hSw); (first | (go_simp; done) | (go_simp; with_reducible rfl)))
      simp only [Act.put, List.getElem_toArray, List.getElem_cons_succ, List.getElem_cons_zero, List.setIfInBounds_toArray, List.set_cons_zero, List.set_cons_succ]
      refine wpAnyH_take (i := 3) (oi := _) (v := ?_) rfl (by kernel_rfl) (by kernel_rfl) (by kernel_rfl) (fun _ _ _ h => h) (Or.inl ⟨by rfl, ?_⟩) (by assumption) ?_
      rotate_left
      · (intro w hSw; (try dsimp only at hSw); (first | (go_simp; done) | (go_simp; with_reducible rfl)))
      simp only [Act.put, List.getElem_toArray, List.getElem_cons_succ, List.getElem_cons_zero, List.setIfInBounds_toArray, List.set_cons_zero, List.set_cons_succ]
      refine wpAnyH_take (i := 4) (oi := _) (v := ?_) rfl (by kernel_rfl) (by kernel_rfl) (by kernel_rfl) (fun _ _ _ h => h) (Or.inl ⟨by rfl, ?_⟩) (by assumption) ?_
      rotate_left
      · (intro w hSw; (try dsimp only at hSw); (first | (go_simp; done) | (go_simp; with_reducible rfl)))
      simp only [Act.put, List.getElem_toArray, List.getElem_cons_succ, List.getElem_cons_zero, List.setIfInBounds_toArray, List.set_cons_zero, List.set_cons_succ]
      refine wpAnyH_take (i := 5) (oi := _) (v := ?_) rfl (by kernel_rfl) (by kernel_rfl) (by kernel_rfl) (fun _ _ _ h => h) (Or.inl ⟨by rfl, ?_⟩) (by assumption) ?_
      rotate_left
      · (intro w hSw; (try dsimp only at hSw); (first | (go_simp; done) | (go_simp; with_reducible rfl)))
      simp only [Act.put, List.getElem_toArray, List.getElem_cons_succ, List.getElem_cons_zero, List.setIfInBounds_toArray, List.set_cons_zero, List.set_cons_succ]
      refine wpAnyH_take (i := 6) (oi := _) (v := ?_) rfl (by kernel_rfl) (by kernel_rfl) (by kernel_rfl) (fun _ _ _ h => h) (Or.inl ⟨by rfl, ?_⟩) (by assumption) ?_
      rotate_left
      · (intro w hSw; (try dsimp only at hSw); (first | (go_simp; done) | (go_simp; with_reducible rfl)))
      simp only [Act.put, List.getElem_toArray, List.getElem_cons_succ, List.getElem_cons_zero, List.setIfInBounds_toArray, List.set_cons_zero, List.set_cons_succ]
      refine wpAnyH_ready (rs := [7]) (by kernel_rfl) (by simp) ?_
      refine AllReadyH.cons rfl (fun K hK => ?_) AllReadyH.nil
      refine step_copy_splice (by rfl) _ _ _ _ (by rfl) 3 Try.underlying43 hszi _ _ _ _ _ _ (by rfl) (by rfl) w.heap.size k (cycC xs m k) 3 HR.out ((rowF (cycF xs) d).map iv) ?g1 ?g2 ?g3 ?g4 w.heap.size w hHeld (Nat.le_refl _) ?_
      case g1 => rw [List.length_map, rowF_len]; exact HD.out
      case g2 => exact fun _ => ⟨rfl, _, rfl, fun j v hj => by
        have hj2 : j < d := by have := (List.getElem?_eq_some_iff.1 hj).1; simpa [rowF_len] using this
        rw [List.getElem?_map, rowF_at _ _ _ hj2] at hj
        cases hj
        have ha : (⟨w.heap.size, 0, none⟩ : Addr).add j = ⟨w.heap.size, j, none⟩ := by
          unfold Addr.add
          by_cases h : j = 0 <;> simp [h]
        rw [ha]
        have h2 := HR.out
        simp only [World.cell?, h2]
        exact (List.getElem?_toArray).trans (cycC_at (by omega))⟩
      case g3 => rw [cycC_len hk, List.length_map, rowF_len]; omega
      case g4 => intro v hv; rw [List.mem_map] at hv; obtain ⟨x, _, rfl⟩ := hv; rfl
      intro w4 hG4 hB4
      have HS4 := Lib.hid (show CycS w.heap.size m xs (k + d) w w4 from ⟨by have h := hG4.out; rw [cycC_splice (by omega) HKM.out] at h; exact h, hB4⟩)
      clear hG4 hHeld
      refine hK.out _ _ (hB4) (fun hHeld => ?_)
      clear hK K
      refine wpAnyH_take (i := 8) (oi := _) (v := ?_) rfl (by kernel_rfl) (by kernel_rfl) (by kernel_rfl) (fun _ _ _ h => h) (Or.inl ⟨by rfl, ?_⟩) (by assumption) ?_
      rotate_left
      · (intro w hSw; (try dsimp only at hSw); (first | (go_simp; done) | (go_simp; with_reducible rfl)))
      simp only [Act.put, List.getElem_toArray, List.getElem_cons_succ, List.getElem_cons_zero, List.setIfInBounds_toArray, List.set_cons_zero, List.set_cons_succ]
      refine wpAnyH_take (i := 9) (oi := _) (v := ?_) rfl (by kernel_rfl) (by kernel_rfl) (by kernel_rfl) (fun _ _ _ h => h) (Or.inl ⟨by rfl, ?_⟩) (by assumption) ?_
      rotate_left
      · (intro w hSw; (try dsimp only at hSw); (first | (go_simp; done) | (go_simp; with_reducible rfl)))
      simp only [Act.put, List.getElem_toArray, List.getElem_cons_succ, List.getElem_cons_zero, List.setIfInBounds_toArray, List.set_cons_zero, List.set_cons_succ]
      refine wpAnyH_done (by kernel_rfl) ?_ _
      refine NoPanic.normal ?_
      have hwr9 : IntKind.i64.wrap ((k : Int) + (d : Int)) = (k : Int) + (d : Int) := IntWalk.i64_in _ (by omega)
      simp only [rowF_len]
      rw [hwr9]
      clear hwr9
      go_wp2_with fail
      go_roundw
      case rel => exact ⟨k + d, by omega, by omega, mod_more HKM.out HMM.out HD.out hk, by go_num, HS4.out⟩
      case measure => simp [intOf]; omega
    · have hE : k = m := by omega
      subst hE
      go_wp2_with fail
      go_ret
      exact cyc_own (by omega) HS.out.1 HS.out.2
end Go.Proofs.Ytefjignlhlpndaa
