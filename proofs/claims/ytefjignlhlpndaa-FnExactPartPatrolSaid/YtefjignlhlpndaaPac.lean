/-
  What is proved: the contract of impl.partRound. Conditions: a part of a valid line.
-/
import Derived.Test.YtefjignlhlpndaaPaa
import Derived.Test.YtefjignlhlpndaaFn12
namespace Go.Proofs.Ytefjignlhlpndaa
open Go.RowKit
set_option linter.unusedVariables false
set_option linter.unusedSimpArgs false

theorem readsN_parts {w w' : World} {xs ys : List Int} {b o c b2 o3 c3 l : Nat} {t : TypeId} (k : Nat) (hk : w'.heap.size = k) (hb : Below w.heap.size w w') (h : ReadsI w (.slice (some ⟨b, o, none⟩) l c) xs) (hlx : xs.length = l) (hc3 : ys.length ≤ c3) (m : Nat) (hm : ys.length = m)
    (h2 : ∀ (i : Nat) x, ys[i]? = some x → b2 < w.heap.size ∧ w.cell? ⟨b2, o3 + i, none⟩ = some (.int .i64 x)) :
    ReadsN (w'.alloc (.cells #[.slice (some ⟨b, o, none⟩) l c, .slice (some ⟨b2, o3, none⟩) m c3] t)) (.slice (some ⟨k, 0, none⟩) 2 2) [xs, ys] := by
  subst hk hm hlx
  obtain ⟨y9, c9, e9, hc9, _, hx9⟩ := h
  cases e9
  have hl8 := hb.size
  refine ⟨_, 2, rfl, Nat.le_refl _, by simp [maxLen], fun j zs hj => ?_⟩
  match j, hj with
  | 0, hj =>
    cases hj
    refine ⟨_, 0, b, o, c, rfl, by simp, by rw [cell_new]; rfl, hc9, fun i z hz => ?_⟩
    obtain ⟨b9, o9, e9, hl9, hc8⟩ := hx9 i z hz
    cases e9
    exact ⟨by simp; omega, ((below_new w' _).cell (p := ⟨b, o + i, none⟩) (by show b < w'.heap.size; omega)).trans ((hb.cell (p := ⟨b, o + i, none⟩) hl9).trans hc8)⟩
  | 1, hj =>
    cases hj
    refine ⟨_, 0, b2, o3, c3, rfl, by simp, by rw [cell_new]; rfl, hc3, fun i z hz => ?_⟩
    obtain ⟨hl9, hc8⟩ := h2 i z hz
    exact ⟨by simp; omega, ((below_new w' _).cell (p := ⟨b2, o3 + i, none⟩) (by show b2 < w'.heap.size; omega)).trans ((hb.cell (p := ⟨b2, o3 + i, none⟩) hl9).trans hc8)⟩
theorem parts_cat (xs ys : List Int) : catL [xs, ys] 2 = xs ++ ys := by
  show ([] ++ xs) ++ ys = _
  rw [List.nil_append]
theorem concat_two (v : Value) (xs ys : List Int) (w : World) (hv : ReadsN w v [xs, ys]) (h0 : 0 < xs.length) (h1 : xs.length + ys.length ≤ 1048576) :
    Calls Try.prog 65 #[v] w (OwnsI w.heap.size (xs ++ ys) w) := by
  have hs : sumL [xs, ys] 2 = xs.length + ys.length := by show 0 + xs.length + ys.length = _; omega
  have h := concat_any v [xs, ys] w hv (by show 0 < sumL [xs, ys] 2; rw [hs]; omega) (by show sumL [xs, ys] 2 ≤ 1048576; rw [hs]; exact h1)
  have e : catL [xs, ys] [xs, ys].length = xs ++ ys := parts_cat xs ys
  rw [e] at h
  exact h
theorem row_some {w : World} {base n : Nat} {v : Value} {xs : List Int} (h : w.ownsRow base 3 1 v n (xs.map iv)) (hn : 1 ≤ n) : ∃ b c, v = .slice (some ⟨b, 0, none⟩) n c ∧ n ≤ c ∧ c ≤ maxLen ∧ b < w.heap.size := by
  obtain ⟨a, c, rfl, h1, h2, h3⟩ := row_shape h
  obtain ⟨g, rfl, _, hg⟩ := h3 hn
  exact ⟨g, c, rfl, h1, h2, hg⟩
set_option maxHeartbeats 3200000 in
set_option maxRecDepth 20000 in
theorem partRound_any (N a M lg : Nat) (w : World) (hn : 2 ≤ N ∧ N ≤ 24) (hM : 1 ≤ M) (ha : a + M ≤ N) :
    Calls Try.prog 60 #[rd N false, .int .i64 a, .int .i64 M, .int .i64 lg] w (OwnsI w.heap.size (sweepT a M (!decide (M = lg))) w) := by
  have HX := Lib.hid (Boxed.first w N false 28)
  have HUP := Lib.hid (fun w => show Calls Try.prog 85 #[rd N false, .int .i64 a, .int .i64 ((a : Int) + M - 1), .func (.func 87) #[] #[]] w (OwnsI w.heap.size (rowF (upF a) M) w) from by
    have h := walkTo_up N false a ((a : Int) + M - 1) (upF a) (M - 1) w ⟨by omega, by omega⟩ (by omega) (by simp [upF]) (fun k hk => by unfold upF; omega) (fun k hk => by unfold upF; omega) (by unfold upF; omega) (fun k hk => by unfold afterI upF; rw [if_neg (by simp)]; push_cast; omega)
    have e : wlk (upF a) (M - 1) = rowF (upF a) M := by unfold wlk rowF; rw [show M - 1 + 1 = M by omega]
    rw [e] at h
    exact h)
  have HDN := Lib.hid (fun w => show Calls Try.prog 85 #[rd N false, .int .i64 ((a : Int) + M - 1), .int .i64 a, .func (.func 86) #[] #[]] w (OwnsI w.heap.size (rowF (dnF a M) M) w) from by
    have h := walkTo_down N false ((a : Int) + M - 1) a (dnF a M) (M - 1) w ⟨by omega, by omega⟩ (by omega) (by simp [dnF]) (fun k hk => by unfold dnF; omega) (fun k hk => by unfold dnF; omega) (by unfold dnF; omega) (fun k hk => by unfold beforeI dnF; rw [if_neg (by simp)]; push_cast; omega)
    have e : wlk (dnF a M) (M - 1) = rowF (dnF a M) M := by unfold wlk rowF; rw [show M - 1 + 1 = M by omega]
    rw [e] at h
    exact h)
  have HLU := Lib.hid (rowF_len (upF a) M)
  have HLD := Lib.hid (rowF_len (dnF a M) M)
  have HCC := Lib.hid (fun v xs ys w hv h0 h1 => concat_two v xs ys w hv h0 h1)
  have HSE := Lib.hid (show sweepT a M true = rowF (upF a) M ++ rowF (dnF a M) M from rfl)
  have HSG := Lib.hid (show sweepT a M false = rowF (upF a) M ++ ((rowF (dnF a M) M).drop 1).take (M - 2) from rfl)
  obtain ⟨hn2, hn24⟩ := hn
  have hM24 : M ≤ 24 := by omega
  have hwl : IntKind.i64.wrap ((a : Int) + M) = (a : Int) + M := IntWalk.i64_in _ (by omega)
  have hwl1 : IntKind.i64.wrap ((a : Int) + M - 1) = (a : Int) + M - 1 := IntWalk.i64_in _ (by omega)
  unfold rd at *
  go_enter Try.func60, Try.ntmps60
  go_wp2_with fail
  refine (HUP.out _).mono ?_
  rintro e w1 ⟨v1, rfl, ho1, hb⟩
  have HX := Lib.hid (HX.out.next hb)
  have HO1 := Lib.hid ho1
  have hx0 := HX.out.c0
  have hx1 := HX.out.c1
  clear ho1 hb
  go_wp2_with fail
  refine (HDN.out _).mono ?_
  rintro e w2 ⟨v2, rfl, ho2, hb⟩
  have HX := Lib.hid (HX.out.next hb)
  have HO1 := Lib.hid (row_below HO1.out hb)
  have HO2 := Lib.hid ho2
  clear ho2 hb hx0 hx1 hwl hwl1
  generalize rowF (upF a) M = xs at *
  generalize rowF (dnF a M) M = ys at *
  have HR1 := Lib.hid (owns_reads HO1.out (by rw [HLU.out]; unfold maxLen; omega))
  have HR2 := Lib.hid (owns_reads HO2.out (by rw [HLD.out]; unfold maxLen; omega))
  have ho1 := HO1.out
  have ho2 := HO2.out
  rw [HLU.out] at ho1
  rw [HLD.out] at ho2
  obtain ⟨b1, c1, rfl, hc1, hm1, _⟩ := row_some ho1 hM
  obtain ⟨b2, c2, rfl, hc2, hm2, hb2⟩ := row_some ho2 hM
  have HQ2 := Lib.hid (fun (i : Nat) x (hi : ys[i]? = some x) => show b2 < w2.heap.size ∧ w2.cell? ⟨b2, 0 + i, none⟩ = some (.int .i64 x) from by
    obtain ⟨_, _, e, _, _, hx⟩ := HR2.out
    cases e
    obtain ⟨b9, o9, e9, hl9, hc9⟩ := hx i x hi
    cases e9
    exact ⟨hl9, hc9⟩)
  unfold maxLen at hm1 hm2
  clear ho1 ho2
  by_cases hml : M = lg
  · have HD := Lib.hid (show (!decide (M = lg)) = false by simp [hml])
    have hb1 : ((M : Int) == (lg : Int)) = true := by rw [hml]; simp
    have hb3 : (M : Int) = (lg : Int) := by rw [hml]
    have HML := Lib.hid hml
    clear hml hb3
    by_cases h1 : M = 1
    · have hmax : max (1 : Int) ((M : Int) - 1) = 1 := by omega
      have HYE := Lib.hid (show (ys.drop 1).take (M - 2) = [] by rw [h1]; rfl)
      have hle : (M : Int) - 1 ≤ 1 := by omega
      have hlt : (M : Int) - 1 < 1 := by omega
      have hM2 : M - 2 = 0 := by omega
      have hwm : IntKind.i64.wrap ((M : Int) - 1) = (M : Int) - 1 := IntWalk.i64_in _ (by omega)
      clear h1
      have hc1i : (1 : Int) ≤ (c2 : Int) := by omega
      have hc1n : 1 ≤ c2 := by omega
      clear hM2
      by_cases hcc : c2 = 1
      · have hcb : (c2 == 1) = true := by rw [hcc]; rfl
        have HZ := Lib.hid HX.out.below.size
        go_wp2_with fail
        refine (HCC.out _ xs [] _ (readsN_parts (t := 43) _ rfl (Below.refl _ _) HR1.out HLU.out (by simp) _ (by first | rfl | (simp; omega)) (fun i z hz => by simp at hz)) (by rw [HLU.out]; omega) (by rw [HLU.out]; simp; omega)).mono ?_
        rintro e w3 ⟨u, rfl, ho, hb⟩
        have HX := Lib.hid ((HX.out.next (below_new _ _)).next hb)
        have HO := Lib.hid ho
        clear ho hb
        go_wp2_with fail
        go_ret
        rw [HD.out, HSG.out, HYE.out]
        exact ⟨u, rfl, owns_lower HO.out (by have := HZ.out; simp; omega), HX.out.below⟩
      · have hcb : (c2 == 1) = false := by rw [beq_eq_false_iff_ne]; exact hcc
        have HZ := Lib.hid HX.out.below.size
        go_wp2_with fail
        refine (HCC.out _ xs [] _ (readsN_parts (t := 43) _ rfl (Below.refl _ _) HR1.out HLU.out (by simp) _ (by first | rfl | (simp; omega)) (fun i z hz => by simp at hz)) (by rw [HLU.out]; omega) (by rw [HLU.out]; simp; omega)).mono ?_
        rintro e w3 ⟨u, rfl, ho, hb⟩
        have HX := Lib.hid ((HX.out.next (below_new _ _)).next hb)
        have HO := Lib.hid ho
        clear ho hb
        go_wp2_with fail
        go_ret
        rw [HD.out, HSG.out, HYE.out]
        exact ⟨u, rfl, owns_lower HO.out (by have := HZ.out; simp; omega), HX.out.below⟩
    · have hle : ¬ (M : Int) - 1 < 1 := by omega
      have hcc : ¬ c2 = 1 := by omega
      have hcb : (c2 == 1) = false := by rw [beq_eq_false_iff_ne]; exact hcc
      have hge : (1 : Int) ≤ (M : Int) - 1 := by omega
      have hwm : IntKind.i64.wrap ((M : Int) - 1) = (M : Int) - 1 := IntWalk.i64_in _ (by omega)
      have hmax : max (1 : Int) ((M : Int) - 1) = (M : Int) - 1 := by omega
      have hc1i : (M : Int) - 1 ≤ (c2 : Int) := by omega
      have hc2i : (1 : Int) ≤ (c2 : Int) := by omega
      have HZ := Lib.hid HX.out.below.size
      go_wp2_with fail
      refine (HCC.out _ xs ((ys.drop 1).take (M - 2)) _ (readsN_parts (t := 43) _ rfl (Below.refl _ _) HR1.out HLU.out (by rw [List.length_take, List.length_drop, HLD.out]; omega) _ (by rw [List.length_take, List.length_drop, HLD.out]; omega) (fun i z hz => by
        rw [List.getElem?_take] at hz
        split at hz
        · rw [List.getElem?_drop] at hz
          have h := HQ2.out (1 + i) z hz
          rw [Nat.zero_add] at h
          exact h
        · cases hz)) (by rw [HLU.out]; omega) (by rw [List.length_take, List.length_drop, HLU.out, HLD.out]; omega)).mono ?_
      rintro e w3 ⟨u, rfl, ho, hb⟩
      have HX := Lib.hid ((HX.out.next (below_new _ _)).next hb)
      have HO := Lib.hid ho
      clear ho hb
      go_wp2_with fail
      go_ret
      rw [HD.out, HSG.out]
      exact ⟨u, rfl, owns_lower HO.out (by have := HZ.out; simp; omega), HX.out.below⟩
  · have HD := Lib.hid (show (!decide (M = lg)) = true by simp [hml])
    have hb1 : ((M : Int) == (lg : Int)) = false := by rw [beq_eq_false_iff_ne]; omega
    have hb3 : ¬ (M : Int) = (lg : Int) := by omega
    have HZ := Lib.hid HX.out.below.size
    go_wp2_with fail
    refine (HCC.out _ xs ys _ (readsN_parts (t := 43) _ rfl (Below.refl _ _) HR1.out HLU.out (by rw [HLD.out]; exact hc2) _ HLD.out HQ2.out) (by rw [HLU.out]; omega) (by rw [HLU.out, HLD.out]; omega)).mono ?_
    rintro e w3 ⟨u, rfl, ho, hb⟩
    have HX := Lib.hid ((HX.out.next (below_new _ _)).next hb)
    have HO := Lib.hid ho
    clear ho hb
    go_wp2_with fail
    go_ret
    rw [HD.out, HSE.out]
    exact ⟨u, rfl, owns_lower HO.out (by have := HZ.out; simp; omega), HX.out.below⟩
end Go.Proofs.Ytefjignlhlpndaa
