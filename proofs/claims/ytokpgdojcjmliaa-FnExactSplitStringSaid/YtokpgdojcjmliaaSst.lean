/-
  What is proved: for every text and every separator, impl.SplitString answers as the model does, and its answer is memory of its own (the statement of the law FnExactSplitString). Conditions: none beyond the row's own.
-/
import Derived.Test.YtokpgdojcjmliaaRows
import Derived.Test.YtokpgdojcjmliaaMrk
import Derived.WalkKit
import Derived.ProofKit
import Derived.OpenShut
import Derived.ShutString
namespace Go.Proofs.Ytokpgdojcjmliaa.fnExactSplitString
open Go.ChangeShapes Go.WideShapes Go.ChangeAt Go.RowKit
open Go.ChangeMaps (open_string shut_string)
set_option linter.unusedVariables false

theorem own : ownKnob Try.prog.godebug = none := by kernel_rfl

theorem mark_one (v : Value) (xs : List ByteArray) (base : Nat) (w : World) (ho : w.ownsRow base 9 1 v xs.length (xs.map .string)) (hn : xs.length ≤ 4001) (hbase : base ≤ w.heap.size) :
    Calls Try.prog 19 #[v, .int .i64 1] w fun e w' => e = .returned (.int .i64 (1 + (xs.length : Int))) ∧ w'.ownsRow base 9 1 v xs.length ((mts 1 xs.length).map .string) ∧ Below base w w' := by
  have hl : (xs.map Value.string).length = xs.length := by simp
  have := mark_any v (xs.map .string) base 1 w (by rw [hl]; exact ho) (by omega) (by omega) (by omega) hbase
  rw [hl] at this
  exact this.mono fun _ _ ⟨he, h1, h2⟩ => ⟨by rw [he]; exact ret_int (by omega), h1, h2⟩
theorem held_one (v : Value) (n : Nat) (w : World) (hv : ReadsS w v (mts 1 n)) (hn : n ≤ 4001) :
    Calls Try.prog 20 #[v, .int .i64 1] w fun e w' => e = .returned (.int .i64 (1 + (n : Int))) ∧ Below w.heap.size w w' :=
  (held_any v n 1 w hv (by omega) (by omega) (by omega)).mono fun _ _ ⟨he, h2⟩ => ⟨by rw [he]; exact ret_int (by omega), h2⟩
theorem below_drewN (w : World) (m : Nat) : Below w.heap.size w (w.drewN m) := ⟨rfl, rfl, rfl, Nat.le_refl _, fun _ _ => rfl⟩
theorem owns_marks {base n : Nat} {v : Value} {w : World} (h : w.ownsRow base 9 1 v n ((mts 1 n).map .string)) (hn : n ≤ 4001) : ReadsS w v (mts 1 n) :=
  owns_reads (by rw [mts_len]; exact h) (by rw [mts_len]; unfold maxLen; omega)
set_option maxHeartbeats 1600000 in
theorem law_two (s sep : ByteArray) (xs : List ByteArray) (b : Bool) (w : World) (hs : s.size ≤ 1048576) (hp : sep.size ≤ 1048576) (hn : xs.length ≤ 4001)
    (hm : ∀ w, Calls Try.prog 17 #[.string s, .string sep] w (OwnsB w.heap.size xs b w))
    (hi : ∀ w, Calls Try.prog 10 #[.string s, .string sep] w (OwnsB w.heap.size xs b w)) :
    Calls Try.prog 4 #[.string s, .string sep] w fun e w' => e = .returned (.bool true) ∧ Below w.heap.size w w' := by
  have HM := Lib.hid hm
  have HI := Lib.hid hi
  have hnm : xs.length ≤ maxLen := by unfold maxLen; omega
  have Hnm := Lib.hid hnm
  clear hm hi hnm
  go_enter Try.func4, Try.ntmps4
  go_wp2_with fail
  refine (HM.out _).mono ?_
  rintro e w1 ⟨v0, rfl, ho0, hb0⟩
  have HR0 := Lib.hid (owns_reads ho0 Hnm.out)
  have HB1 := Lib.hid hb0
  clear ho0 hb0
  go_wp2_with fail
  refine (HI.out _).mono ?_
  rintro e w2 ⟨g0, rfl, hog, hbg⟩
  have HC2 := Lib.hid hbg
  have HG2 := Lib.hid hog
  clear hog hbg
  go_wp2_with fail
  refine (eqS_yes g0 v0 xs _ (owns_reads HG2.out Hnm.out) (HR0.out.below HC2.out)).mono ?_
  rintro e w3 ⟨rfl, m, rfl⟩
  have HC3 : Hid (Below w1.heap.size w1 (w2.drewN m)) := Lib.hid (HC2.out.trans ((below_drewN w2 m).mono HC2.out.size))
  have HG3 : Hid ((w2.drewN m).ownsRow w1.heap.size 9 1 g0 xs.length (xs.map .string)) := HG2
  generalize w2.drewN m = w3 at *
  cases b
  all_goals
    go_wp2_with fail
    refine (mark_one g0 xs w1.heap.size w3 HG3.out hn HC3.out.size).mono ?_
    rintro e w4 ⟨rfl, ho4, hb4⟩
    have HM4 := Lib.hid (owns_marks ho4 hn)
    have HC4 := Lib.hid (HC3.out.trans hb4)
    clear ho4 hb4
    go_wp2_with fail
    refine (held_one g0 xs.length w4 HM4.out hn).mono ?_
    rintro e w5 ⟨rfl, hb5⟩
    have HC5 := Lib.hid (HC4.out.trans (hb5.mono HC4.out.size))
    have HD5 := Lib.hid hb5
    clear hb5
    go_wp2_with fail
    refine (HI.out _).mono ?_
    rintro e w6 ⟨h0, rfl, hoh, hbh⟩
    have HH6 := Lib.hid (owns_reads hoh Hnm.out)
    have HC6 := Lib.hid (HC5.out.trans (hbh.mono HC5.out.size))
    have HD6 := Lib.hid (HD5.out.trans (hbh.mono HD5.out.size))
    clear hoh hbh
    go_wp2_with fail
    refine (eqS_yes h0 v0 xs _ HH6.out (HR0.out.below HC6.out)).mono ?_
    rintro e w7 ⟨rfl, k, rfl⟩
    have HC7 : Hid (Below w1.heap.size w1 (w6.drewN k)) := Lib.hid (HC6.out.trans ((below_drewN w6 k).mono HC6.out.size))
    have HD7 : Hid (Below w4.heap.size w4 (w6.drewN k)) := Lib.hid (HD6.out.trans ((below_drewN w6 k).mono HD6.out.size))
    generalize w6.drewN k = w7 at *
    go_wp2_with fail
    refine (held_one g0 xs.length w7 (HM4.out.below HD7.out) hn).mono ?_
    rintro e w8 ⟨rfl, hb8⟩
    have HC8 := Lib.hid (HB1.out.trans ((HC7.out.trans (hb8.mono HC7.out.size)).mono HB1.out.size))
    clear hb8
    go_wp2_with fail
    go_ret
    exact ⟨rfl, HC8.out⟩
theorem walk (a0 : ByteArray) (a1 : ByteArray) (w0 : a0.size ≤ maxLen) (w1 : a1.size ≤ maxLen) (w : World) :
    Calls Try.prog 4 #[.string a0, .string a1] w fun e w' => e = .returned (.bool true) ∧ Below w.heap.size w w' := by
  by_cases h0 : a0.size ≤ 1048576
  · by_cases h1 : a1.size ≤ 1048576
    · by_cases h : 4000 < a0.size ∨ a1.size < 1 ∨ 1 < a1.size
      · exact law_two a0 a1 [] false w h0 h1 (by simp) (fun w => model_split_no a0 a1 w h0 h1 h) (fun w => impl_split_no a0 a1 w h0 h1 h)
      · have hz := splitB_size (a1[0]'(by omega)) a0
        exact law_two a0 a1 (splitB (a1[0]'(by omega)) a0) true w h0 h1 (by omega) (fun w => model_split_yes a0 a1 w (by omega) (by omega) (by omega)) (fun w => impl_split_yes a0 a1 w (by omega) (by omega) (by omega))
    · unfold maxLen at w0 w1
      go_enter Try.func4, Try.ntmps4
      go_wp2
      go_ret
      exact ⟨rfl, Below.refl _ _⟩
  · unfold maxLen at w0 w1
    go_enter Try.func4, Try.ntmps4
    go_wp2
    go_ret
    exact ⟨rfl, Below.refl _ _⟩

set_option maxRecDepth 100000 in
theorem lifted (os : Os) (started : os.Started) (H : Type) (enc : TypeId × Value → H) :
    ReturnsInHanded {} Try.checked os 4 .any (Rows.fnExactSplitStringSpec.pre6 enc Try.prog Try.f4 Rows.fnExactSplitStringRow.domain false) (Rows.fnExactSplitStringSpec.post enc Try.prog Try.f4 false true false false) := by
  refine returnsInHanded_of_change (C := Try.checked) own started (by kernel_rfl) Try.func4
    (ChangeSpec.witness6 (enc := enc) (C := Try.checked) false ⟨#[], #[.string ByteArray.empty, .string ByteArray.empty], []⟩ 8 (by kernel_rfl) (by kernel_rfl) (by kernel_rfl) (by kernel_rfl)) ?_
  intro W base args ds gs before hval0 hW hcnd _
  have hval : ∀ (j : Nat) t v, Try.f4.params[j]? = some t → args[j]? = some v → Value.okWide Try.prog W .any base t v := hval0
  have hW' := hW
  obtain ⟨p, q, hA0, hV, rfl, hfz, hnd⟩ := hW
  have hA : DataW.TrodAll enc Try.prog W 0 (fun _ => true) true Try.f4.params.toList args.toList ds p := hA0
  rw [Try.params4] at hA hval
  obtain ⟨v0, vs0, d0, ds0, p0, q0, hargs, rfl, rfl, h0, r0⟩ := trodAll_cons hA
  obtain ⟨v1, vs1, d1, ds1, p1, q1, rfl, rfl, rfl, h1, r1⟩ := trodAll_cons r0
  obtain ⟨rfl, rfl, rfl⟩ := trodAll_nil r1
  obtain rfl : args = #[v0, v1] := by cases args; simp_all
  obtain ⟨rfl, rfl⟩ := trodVars_none hV
  obtain ⟨a0, rfl, rfl, rfl, w0⟩ := open_string Try.underlying9 (hval 0 9 v0 rfl rfl) h0
  obtain ⟨a1, rfl, rfl, rfl, w1⟩ := open_string Try.underlying9 (hval 1 9 v1 rfl rfl) h1
  clear hA0 hval0
  refine (walk a0 a1 w0 w1 W).mono fun e W' ⟨he, bel⟩ => ?_
  subst he
  exact ⟨_, rfl, _, _, _, [], _, [], hW', trodAll_mk1 (shut_bool Try.underlying4 _), (trodAll_cons_mk (shut_string Try.underlying9 w0) (trodAll_cons_mk (shut_string Try.underlying9 w1) trodAll_mk0)), rfl, bel.frame _, fun h => by cases h⟩

theorem over : Rows.fnExactSplitStringRow.holds Try.pinned (OpenSpec.ofChange Rows.fnExactSplitStringSpec) :=
  OpenClaim.holds_of_wide 4 Try.f4 rfl rfl rfl rfl rfl rfl rfl ⟨rfl, rfl, rfl, rfl, rfl⟩ rfl rfl rfl rfl rfl (by kernel_rfl) Try.func4 (by kernel_rfl)
    (of_decide_eq_true (by kernel_rfl)) (by unfold Func.isWrapper; first | (rw [if_pos (by decide +kernel)]; kernel_rfl) | (rw [if_neg (by decide +kernel)]; exact ⟨rfl, rfl⟩))
    (fun os started H enc _ => lifted os started H enc)

end Go.Proofs.Ytokpgdojcjmliaa.fnExactSplitString
namespace Go.Proofs.Ytokpgdojcjmliaa
theorem fnExactSplitString_holds : Rows.FnExactSplitStringSaid := fnExactSplitString.over
#print axioms fnExactSplitString_holds
end Go.Proofs.Ytokpgdojcjmliaa
