/-
  What is proved: for every slice of strings and every separator, impl.JoinStrings answers as the model does and its argument reads as before (the statement of the law FnExactJoinStrings). Conditions: none beyond the row's own.
-/
import Derived.Test.YtokpgdojcjmliaaRows
import Derived.Test.YtokpgdojcjmliaaJoin
import Derived.ProofKit
import Derived.OpenShut
import Derived.ShutString
import Derived.ChangeOld
import Derived.SliceStrings
namespace Go.Proofs.Ytokpgdojcjmliaa.fnExactJoinStrings
open Go.ChangeShapes Go.WideShapes Go.ChangeAt Go.RowKit
open Go.ChangeMaps (open_string shut_string)
set_option linter.unusedVariables false

theorem own : ownKnob Try.prog.godebug = none := by kernel_rfl
theorem laidOut : laidOutB Try.prog = true := by kernel_rfl
theorem below_drewN (w : World) (m : Nat) : Below w.heap.size w (w.drewN m) := ⟨rfl, rfl, rfl, Nat.le_refl _, fun _ _ => rfl⟩
theorem ne_same (z : ByteArray) : (z.toList == z.toList) = true := by simp
set_option maxHeartbeats 800000 in
theorem law_two (v : Value) (xs : List ByteArray) (sep z : ByteArray) (b : Bool) (w : World) (hv : ReadsS w v xs) (hsep : sep.size ≤ 1048576) (hfit : (xs.length : Int) + sumS xs ≤ 1048576)
    (hm : ∀ v w, ReadsS w v xs → Calls Try.prog 13 #[v, .string sep] w fun e w' => e = .returned (.tuple #[.string z, .bool b]) ∧ Below w.heap.size w w')
    (hi : ∀ v w, ReadsS w v xs → Calls Try.prog 12 #[v, .string sep] w fun e w' => e = .returned (.tuple #[.string z, .bool b]) ∧ Below w.heap.size w w') :
    Calls Try.prog 5 #[v, .string sep] w fun e w' => e = .returned (.bool true) ∧ Below w.heap.size w w' := by
  have HV := Lib.hid hv
  have HM := Lib.hid hm
  have HI := Lib.hid hi
  have hn : xs.length ≤ 1048576 := by omega
  have hnm : xs.length ≤ maxLen := by unfold maxLen; omega
  have Hnm := Lib.hid hnm
  have h0 : 0 ≤ 1048576 - (xs.length : Int) - sumS xs := by omega
  have hzz := ne_same z
  clear hv hm hi hnm
  go_enter Try.func5, Try.ntmps5
  go_wp2_with fail
  refine (sz_yes v xs 1048576 _ HV.out (by omega) hfit).mono ?_
  rintro e w' ⟨rfl, rfl⟩
  go_wp2_with fail
  refine (toS_any v xs _ HV.out hn).mono ?_
  rintro e w1 ⟨v1, rfl, ho1, hb1⟩
  have HR1 := Lib.hid (owns_reads ho1 Hnm.out)
  have HV1 := Lib.hid (HV.out.below hb1)
  have HB1 := Lib.hid hb1
  clear ho1 hb1
  go_wp2_with fail
  refine (HM.out v1 _ HR1.out).mono ?_
  rintro e w2 ⟨rfl, hb2⟩
  have HB2 := Lib.hid (HB1.out.trans (hb2.mono HB1.out.size))
  have HV2 := Lib.hid (HV1.out.below hb2)
  clear hb2
  go_wp2_with fail
  refine (toS_any v xs _ HV2.out hn).mono ?_
  rintro e w3 ⟨v2, rfl, ho3, hb3⟩
  have HR3 := Lib.hid (owns_reads ho3 Hnm.out)
  have HV3 := Lib.hid (HV2.out.below hb3)
  have HB3 := Lib.hid (HB2.out.trans (hb3.mono HB2.out.size))
  clear ho3 hb3
  go_wp2_with fail
  refine (HI.out v2 _ HR3.out).mono ?_
  rintro e w4 ⟨rfl, hb4⟩
  have HV4 := Lib.hid (HV3.out.below hb4)
  have HR4 := Lib.hid (HR3.out.below hb4)
  have HB4 := Lib.hid (HB3.out.trans (hb4.mono HB3.out.size))
  clear hb4
  cases b
  all_goals
    go_wp2_with fail
    refine (toS_any v xs _ HV4.out hn).mono ?_
    rintro e w5 ⟨v3, rfl, ho5, hb5⟩
    have HR5 := Lib.hid (owns_reads ho5 Hnm.out)
    have HR6 := Lib.hid (HR4.out.below hb5)
    have HB5 := Lib.hid (HB4.out.trans (hb5.mono HB4.out.size))
    clear ho5 hb5
    go_wp2_with fail
    refine (eqS_yes v2 v3 xs _ HR6.out HR5.out).mono ?_
    rintro e w6 ⟨rfl, m, rfl⟩
    go_wp2_with fail
    go_ret
    exact ⟨rfl, HB5.out.trans ((below_drewN _ m).mono HB5.out.size)⟩
theorem walk (v : Value) (xs : List ByteArray) (sep : ByteArray) (w : World) (hv : ReadsS w v xs) (hsx : ∀ x ∈ xs, x.size ≤ maxLen) (ws : sep.size ≤ maxLen) :
    Calls Try.prog 5 #[v, .string sep] w fun e w' => e = .returned (.bool true) ∧ Below w.heap.size w w' := by
  by_cases h0 : sep.size ≤ 1048576
  · by_cases hfit : (xs.length : Int) + sumS xs ≤ 1048576
    · have hsz : ∀ x ∈ xs, x.size ≤ 1048576 := by
        intro x hx
        obtain ⟨k, hk⟩ := List.getElem?_of_mem hx
        have h1 := sumS_take xs k x hk
        have h2 := sumS_take_le xs (k + 1)
        omega
      by_cases hs : sep.size < 1 ∨ 1 < sep.size
      · refine law_two v xs sep ⟨#[]⟩ false w hv h0 hfit (fun v w hr => (model_join_sep v xs sep w hr h0 hs).mono fun _ _ ⟨he, hw⟩ => ⟨he, hw ▸ Below.refl _ _⟩) (fun v w hr => ?_)
        by_cases hn : 0 < xs.length
        · exact impl_join_sep v xs sep w hr hn h0 hs
        · obtain rfl : xs = [] := List.length_eq_zero_iff.1 (by omega)
          exact impl_join_none v sep w hr
      · by_cases hn : 0 < xs.length
        · have hm := fun v w (hr : ReadsS w v xs) => model_join v xs sep w hr (by omega) (by omega) hn hsz
          have hi := fun v w (hr : ReadsS w v xs) => impl_join v xs sep w hr (by omega) (by omega) hn (by omega) hsz
          cases hg : joinGood (sep[0]'(by omega)) xs
          · have hres : joinRes (sep[0]'(by omega)) xs = .tuple #[.string ⟨#[]⟩, .bool false] := by unfold joinRes; rw [hg]; rfl
            exact law_two v xs sep ⟨#[]⟩ false w hv h0 hfit (fun v w hr => (hm v w hr).mono fun _ _ ⟨he, m, hw⟩ => ⟨by rw [he, hres], hw ▸ below_drewN _ m⟩) (fun v w hr => (hi v w hr).mono fun _ _ ⟨he, hw⟩ => ⟨by rw [he, hres], hw⟩)
          · have hres : joinRes (sep[0]'(by omega)) xs = .tuple #[.string (jn (sep[0]'(by omega)) xs), .bool true] := by unfold joinRes; rw [hg]; rfl
            exact law_two v xs sep _ true w hv h0 hfit (fun v w hr => (hm v w hr).mono fun _ _ ⟨he, m, hw⟩ => ⟨by rw [he, hres], hw ▸ below_drewN _ m⟩) (fun v w hr => (hi v w hr).mono fun _ _ ⟨he, hw⟩ => ⟨by rw [he, hres], hw⟩)
        · obtain rfl : xs = [] := List.length_eq_zero_iff.1 (by omega)
          exact law_two v [] sep ⟨#[]⟩ false w hv h0 hfit (fun v w hr => (model_join_none v sep w hr (by omega) (by omega)).mono fun _ _ ⟨he, hw⟩ => ⟨he, hw ▸ Below.refl _ _⟩) (fun v w hr => impl_join_none v sep w hr)
    · have hno := Lib.hid (fun w (hv : ReadsS w v xs) => sz_no v xs 1048576 w hv (by omega) (by omega) hsx (by omega))
      have HV := Lib.hid hv
      clear hv hsx hfit
      go_enter Try.func5, Try.ntmps5
      go_wp2_with fail
      refine (hno.out _ HV.out).mono ?_
      rintro e w' ⟨rfl, rfl⟩
      go_wp2_with fail
      go_ret
      exact ⟨rfl, Below.refl _ _⟩
  · unfold maxLen at ws
    clear hv hsx
    go_enter Try.func5, Try.ntmps5
    go_wp2_with fail
    go_ret
    exact ⟨rfl, Below.refl _ _⟩

/-- a row of cells of strings reads as a list of strings -/
theorem reads_of_cells {W : World} {x : Addr} {l c : Nat} {ss : List ByteArray} (hl : l ≤ c) (hm : c ≤ maxLen) (hz : ss.length = c) (hcell : ∀ i, i < ss.length → W.cell? (x.add i) = some (.string (ss.getD i ByteArray.empty)))
    (hss : ∀ s ∈ ss, s.size ≤ maxLen) : ∃ xs, ReadsS W (.slice (some x) l c) xs ∧ ∀ y ∈ xs, y.size ≤ maxLen := by
  have hlen : (ss.take l).length = l := by rw [List.length_take]; omega
  refine ⟨ss.take l, ⟨some x, c, by rw [hlen], by omega, by omega, fun j y hj => ?_⟩, fun y hy => hss y (List.mem_of_mem_take hy)⟩
  obtain ⟨hj2, hy⟩ := List.getElem?_eq_some_iff.1 hj
  have hjl : j < ss.length := by omega
  have hc := hcell j hjl
  have hy2 : ss.getD j ByteArray.empty = y := by
    rw [← hy, List.getElem_take]
    simp [List.getD, List.getElem?_eq_getElem hjl]
  rw [hy2] at hc
  obtain ⟨b, o, sp⟩ := x
  have hsp : sp = none := by
    have := World.cell?_spot (hcell 0 (by omega))
    simpa [Addr.add] using this
  subst hsp
  have ha : (⟨b, o, none⟩ : Addr).add j = ⟨b, o + j, none⟩ := by
    unfold Addr.add
    by_cases h : j = 0 <;> simp [h]
  rw [ha] at hc
  exact ⟨b, o, rfl, World.block_lt_of_cell? _ _ hc, hc⟩

set_option maxRecDepth 100000 in
theorem lifted (os : Os) (started : os.Started) (H : Type) (enc : TypeId × Value → H) :
    ReturnsInHanded {} Try.checked os 5 .any (Rows.fnExactJoinStringsSpec.pre6 enc Try.prog Try.f5 Rows.fnExactJoinStringsRow.domain false) (Rows.fnExactJoinStringsSpec.post enc Try.prog Try.f5 false true false false) := by
  refine returnsInHanded_of_change (C := Try.checked) own started (by kernel_rfl) Try.func5
    (ChangeSpec.witness6 (enc := enc) (C := Try.checked) false ⟨#[], #[.slice none 0 0, .string ByteArray.empty], []⟩ 8 (by kernel_rfl) (by kernel_rfl) (by kernel_rfl) (by kernel_rfl)) ?_
  intro W base args ds gs before hval0 hW hcnd _
  have hval : ∀ (j : Nat) t v, Try.f5.params[j]? = some t → args[j]? = some v → Value.okWide Try.prog W .any base t v := hval0
  have hW' := hW
  obtain ⟨p, q, hA0, hV, rfl, hfz, hnd⟩ := hW
  have hA : DataW.TrodAll enc Try.prog W 0 (fun _ => true) true Try.f5.params.toList args.toList ds p := hA0
  rw [Try.params5] at hA hval
  obtain ⟨v0, vs0, d0, ds0, p0, q0, hargs, rfl, rfl, h0, r0⟩ := trodAll_cons hA
  obtain ⟨v1, vs1, d1, ds1, p1, q1, rfl, rfl, rfl, h1, r1⟩ := trodAll_cons r0
  obtain ⟨rfl, rfl, rfl⟩ := trodAll_nil r1
  obtain rfl : args = #[v0, v1] := by cases args; simp_all
  obtain ⟨rfl, rfl⟩ := trodVars_none hV
  obtain ⟨a0, len0, cap0, rfl⟩ := okWide_slice Try.underlying26 (hval 0 26 v0 rfl rfl)
  have k0 := h0
  have lt0 : ∀ x ∈ p0, x.block < W.heap.size := by obtain ⟨m, hm⟩ := k0; exact DataW.trod_lt m _ _ _ hm
  obtain ⟨xs, hr, hsx⟩ : ∃ xs, ReadsS W (.slice a0 len0 cap0) xs ∧ ∀ x ∈ xs, x.size ≤ maxLen := by
    obtain ⟨fuel, hf⟩ := h0
    rcases open_strings Try.underlying26 Try.underlying9 (by kernel_rfl) hf with ⟨hcs, _⟩ | ⟨x, l, c, ss, hcs, _, hl, hm, hz, _, hcell, hss⟩
    · simp [Value.cells] at hcs
      obtain ⟨rfl, rfl, rfl⟩ := hcs
      exact ⟨[], ⟨none, 0, rfl, Nat.le_refl _, by simp, fun j x hj => by simp at hj⟩, fun x hx => by simp at hx⟩
    · simp [Value.cells] at hcs
      obtain ⟨rfl, rfl, rfl⟩ := hcs
      exact reads_of_cells hl hm (by simpa using hz) hcell hss
  obtain ⟨a1, rfl, rfl, rfl, w1⟩ := open_string Try.underlying9 (hval 1 9 v1 rfl rfl) h1
  clear hA0 hval0
  refine (walk _ xs a1 W hr hsx w1).mono fun e W' ⟨he, bel⟩ => ?_
  subst he
  exact ⟨_, rfl, _, _, _, [], _, [], hW', trodAll_mk1 (shut_bool Try.underlying4 _), (trodAll_cons_mk (Below.trod laidOut (by kernel_rfl) (of_decide_eq_true (by kernel_rfl)) k0 bel lt0) (trodAll_cons_mk (shut_string Try.underlying9 w1) trodAll_mk0)), rfl, bel.frame _, fun h => by cases h⟩

theorem over : Rows.fnExactJoinStringsRow.holds Try.pinned (OpenSpec.ofChange Rows.fnExactJoinStringsSpec) :=
  OpenClaim.holds_of_wide 5 Try.f5 rfl rfl rfl rfl rfl rfl rfl ⟨rfl, rfl, rfl, rfl, rfl⟩ rfl rfl rfl rfl rfl (by kernel_rfl) Try.func5 (by kernel_rfl)
    (of_decide_eq_true (by kernel_rfl)) (by unfold Func.isWrapper; first | (rw [if_pos (by decide +kernel)]; kernel_rfl) | (rw [if_neg (by decide +kernel)]; exact ⟨rfl, rfl⟩))
    (fun os started H enc _ => lifted os started H enc)
end Go.Proofs.Ytokpgdojcjmliaa.fnExactJoinStrings
namespace Go.Proofs.Ytokpgdojcjmliaa
theorem fnExactJoinStrings_holds : Rows.FnExactJoinStringsSaid := fnExactJoinStrings.over
#print axioms fnExactJoinStrings_holds
end Go.Proofs.Ytokpgdojcjmliaa
