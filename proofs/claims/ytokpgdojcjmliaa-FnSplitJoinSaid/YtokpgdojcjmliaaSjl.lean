/-
  What is proved: at every draw, splitting and joining are inverse, joining answers as the model does, and the order of texts is strict (the statement of the law FnSplitJoin). Conditions: none beyond the row's own.
-/
import Derived.Test.YtokpgdojcjmliaaRows
import Derived.Test.YtokpgdojcjmliaaRnd
import Derived.WalkKit
import Derived.ProofKit
import Derived.OpenShut
import Derived.ShutString
import Derived.ChangeOld
import Derived.Below
namespace Go.Proofs.Ytokpgdojcjmliaa.fnSplitJoin
open Go.ChangeShapes Go.WideShapes Go.ChangeAt Go.RowKit
open Go.ChangeMaps (open_string shut_string)
set_option linter.unusedVariables false

theorem own : ownKnob Try.prog.godebug = none := by kernel_rfl
theorem laidOut : laidOutB Try.prog = true := by kernel_rfl

/-- WHAT THE WALK IS TOLD OF A SLICE OF INTEGERS THAT CAME IN: it is nil; or it leads to a row of 'cap' cells, the numbers 'zs' (the first 'len' are its elements, the rest its spare room), each fitting its kind. -/
def IsRow (k : IntKind) (w : World) (a : Option Addr) (len cap : Nat) (zs : List Int) : Prop :=
  (a = none ∧ len = 0 ∧ cap = 0 ∧ zs = []) ∨
  ∃ x, a = some x ∧ len ≤ cap ∧ cap ≤ maxLen ∧ zs.length = cap ∧ (∀ i, i < zs.length → w.cell? (x.add i) = some (.int k (zs.getD i 0))) ∧ ∀ n ∈ zs, (Lit.int k n).wf = true

theorem code_of_row {w : World} {a0 : Option Addr} {len0 cap0 : Nat} {z0 : List Int} (h : IsRow .u8 w a0 len0 cap0 z0) : CodeOK w (.slice a0 len0 cap0) := by
  rcases h with ⟨rfl, rfl, rfl, rfl⟩ | ⟨x, rfl, hl, hm, hz, hcell, hwz⟩
  · exact ⟨none, 0, 0, rfl, by simp, fun j hj => by omega⟩
  · refine ⟨some x, len0, cap0, rfl, by omega, fun j hj => ?_⟩
    have hjl : j < z0.length := by omega
    have hc := hcell j hjl
    have hb := bounds_u8 (hwz (z0.getD j 0) (by
      have e : z0.getD j 0 = z0[j] := by simp [List.getD, List.getElem?_eq_getElem hjl]
      rw [e]; exact List.getElem_mem hjl))
    obtain ⟨b, o, sp⟩ := x
    have hsp : sp = none := by
      have := World.cell?_spot (hcell 0 (by omega))
      simpa [Addr.add] using this
    subst hsp
    have ha : (⟨b, o, none⟩ : Addr).add j = ⟨b, o + j, none⟩ := by
      unfold Addr.add
      by_cases h : j = 0 <;> simp [h]
    rw [ha] at hc
    exact ⟨b, o, _, rfl, World.block_lt_of_cell? _ _ hc, hc, hb.1, hb.2⟩
theorem below_drewN (w : World) (m : Nat) : Below w.heap.size w (w.drewN m) := ⟨rfl, rfl, rfl, Nat.le_refl _, fun _ _ => rfl⟩
/-- both ways of joining answer alike -/
def BothJoin (xs : List ByteArray) (y z : ByteArray) (b : Bool) : Prop :=
  (∀ v w, ReadsS w v xs → Calls Try.prog 12 #[v, .string y] w fun e w' => e = .returned (.tuple #[.string z, .bool b]) ∧ Below w.heap.size w w') ∧
  (∀ v w, ReadsS w v xs → Calls Try.prog 13 #[v, .string y] w fun e w' => e = .returned (.tuple #[.string z, .bool b]) ∧ Below w.heap.size w w')
theorem both_join (xs : List ByteArray) (y : ByteArray) (hn4 : xs.length ≤ 1048576) (hsz : ∀ x ∈ xs, x.size ≤ 1048576) (hy : y.size ≤ 1048576) : ∃ z b, BothJoin xs y z b := by
  by_cases hs : y.size < 1 ∨ 1 < y.size
  · refine ⟨⟨#[]⟩, false, fun v w hr => ?_, fun v w hr => (model_join_sep v xs y w hr hy hs).mono fun _ _ ⟨he, hw⟩ => ⟨he, hw ▸ Below.refl _ _⟩⟩
    by_cases hn : 0 < xs.length
    · exact impl_join_sep v xs y w hr hn hy hs
    · obtain rfl : xs = [] := List.length_eq_zero_iff.1 (by omega)
      exact impl_join_none v y w hr
  · by_cases hn : 0 < xs.length
    · have hm := fun v w (hr : ReadsS w v xs) => model_join v xs y w hr (by omega) (by omega) hn hsz
      have hi := fun v w (hr : ReadsS w v xs) => impl_join v xs y w hr (by omega) (by omega) hn hn4 hsz
      cases hg : joinGood (y[0]'(by omega)) xs
      · have hres : joinRes (y[0]'(by omega)) xs = .tuple #[.string ⟨#[]⟩, .bool false] := by unfold joinRes; rw [hg]; rfl
        exact ⟨_, _, fun v w hr => (hi v w hr).mono fun _ _ ⟨he, hw⟩ => ⟨by rw [he, hres], hw⟩, fun v w hr => (hm v w hr).mono fun _ _ ⟨he, m, hw⟩ => ⟨by rw [he, hres], hw ▸ below_drewN _ m⟩⟩
      · have hres : joinRes (y[0]'(by omega)) xs = .tuple #[.string (jn (y[0]'(by omega)) xs), .bool true] := by unfold joinRes; rw [hg]; rfl
        exact ⟨_, _, fun v w hr => (hi v w hr).mono fun _ _ ⟨he, hw⟩ => ⟨by rw [he, hres], hw⟩, fun v w hr => (hm v w hr).mono fun _ _ ⟨he, m, hw⟩ => ⟨by rw [he, hres], hw ▸ below_drewN _ m⟩⟩
    · obtain rfl : xs = [] := List.length_eq_zero_iff.1 (by omega)
      exact ⟨⟨#[]⟩, false, fun v w hr => impl_join_none v y w hr, fun v w hr => (model_join_none v y w hr (by omega) (by omega)).mono fun _ _ ⟨he, hw⟩ => ⟨he, hw ▸ Below.refl _ _⟩⟩
theorem same_str2 (z : ByteArray) : (z.toList == z.toList) = true := by simp
set_option maxHeartbeats 3200000 in
theorem law_small (v : Value) (w : World) (hv : CodeOK w v) (hn : ∀ a k c, v = .slice a k c → k ≤ 65536) :
    Calls Try.prog 3 #[v] w fun e w' => e = .returned (.bool true) ∧ Below w.heap.size w w' := by
  have HV := Lib.hid hv
  obtain ⟨a, k, c, rfl, _, _⟩ := hv
  have hk := hn a k c rfl
  clear hn
  go_enter Try.func3, Try.ntmps3
  go_wp2_with fail
  refine (vBig_no a k c w hk).mono ?_
  rintro e w0 ⟨rfl, rfl⟩
  go_wp2_with fail
  refine (drawSplit_any _ w HV.out).mono ?_
  rintro e w1 ⟨s, sep, rfl, hs, hp, hb1⟩
  have HB1 := Lib.hid hb1
  have HV1 := Lib.hid (HV.out.below hb1)
  clear hb1
  obtain ⟨xs0, b0, hsplit, hcase⟩ : ∃ (xs : List ByteArray) (b : Bool), (∀ w, Calls Try.prog 10 #[.string s, .string sep] w (OwnsB w.heap.size xs b w)) ∧ ((b = false ∧ xs = [] ∧ (sep.size < 1 ∨ 1 < sep.size)) ∨ (b = true ∧ ∃ h : 0 < sep.size, sep.size ≤ 1 ∧ xs = splitB sep[0] s)) := by
    by_cases h : sep.size < 1 ∨ 1 < sep.size
    · exact ⟨[], false, fun w => impl_split_no s sep w (by omega) (by omega) (.inr h), .inl ⟨rfl, rfl, h⟩⟩
    · exact ⟨_, true, fun w => impl_split_yes s sep w (by omega) (by omega) (by omega), .inr ⟨rfl, by omega, by omega, rfl⟩⟩
  have HSp := Lib.hid hsplit
  have HCase := Lib.hid hcase
  clear hsplit hcase
  go_wp2_with fail
  refine (HSp.out w1).mono ?_
  rintro e w2 ⟨l, rfl, hol, hb2⟩
  have hl0 : xs0.length ≤ 4001 := by
    rcases HCase.out with ⟨_, h2, _⟩ | ⟨_, h0, _, h2⟩
    · rw [h2]; simp
    · have := splitB_size sep[0] s; rw [h2]; omega
  have HRl := Lib.hid (owns_reads hol (by unfold maxLen; omega))
  have HV2 := Lib.hid (HV1.out.below hb2)
  have HB2 := Lib.hid (HB1.out.trans (hb2.mono HB1.out.size))
  clear hol hb2
  go_wp2_with fail
  refine (drawJoin_any _ w2 HV2.out).mono ?_
  rintro e w3 ⟨kv, xs, mark, rfl, hrk, hxl, hxs, hmk, hb3⟩
  have HRk := Lib.hid hrk
  have HV3 := Lib.hid (HV2.out.below hb3)
  have HRl3 := Lib.hid (HRl.out.below hb3)
  have HB3 := Lib.hid (HB2.out.trans (hb3.mono HB2.out.size))
  obtain ⟨z, bz, hbj⟩ := both_join xs mark (by omega) (fun x hx => by have := hxs x hx; omega) (by omega)
  have HJ := Lib.hid hbj
  have hzz := same_str2 z
  clear hrk hb3 hxs hbj
  go_wp2_with fail
  refine (HJ.out.1 kv w3 HRk.out).mono ?_
  rintro e w4 ⟨rfl, hb4⟩
  have HRk4 := Lib.hid (HRk.out.below hb4)
  have HV4 := Lib.hid (HV3.out.below hb4)
  have HRl4 := Lib.hid (HRl3.out.below hb4)
  have HB4 := Lib.hid (HB3.out.trans (hb4.mono HB3.out.size))
  clear hb4
  go_wp2_with fail
  refine (HJ.out.2 kv w4 HRk4.out).mono ?_
  rintro e w5 ⟨rfl, hb5⟩
  have HV5 := Lib.hid (HV4.out.below hb5)
  have HRl5 := Lib.hid (HRl4.out.below hb5)
  have HB5 := Lib.hid (HB4.out.trans (hb5.mono HB4.out.size))
  clear hb5
  go_wp2_with fail
  refine (drawLess_any _ w5 HV5.out).mono ?_
  rintro e w6 ⟨x, y, rfl, _, _, hb6⟩
  have HRl6 := Lib.hid (HRl5.out.below hb6)
  have HB6 := Lib.hid (HB5.out.trans (hb6.mono HB5.out.size))
  have Hxy := Lib.hid (less_impl x y)
  have Hyx := Lib.hid (less_impl y x)
  have Hmod := Lib.hid (less_model x y)
  have hst := less_strict x.toList y.toList
  clear hb6
  generalize Op.bytesLess x.toList y.toList = l1 at *
  generalize Op.bytesLess y.toList x.toList = l2 at *
  have Hst := Lib.hid hst
  clear hst
  have hss := same_str2 s
  rcases HCase.out with ⟨rfl, rfl, hsep⟩ | ⟨rfl, hp0, hp1, rfl⟩
  · have t1 : ((sep.size : Int) == 1) = false := by rw [beq_eq_false_iff_ne]; omega
    have t3 : ¬ ((sep.size : Int) = 1) := by omega
    have t5 : ((sep.size : Int) != 1) = true := by rw [bne_iff_ne]; omega
    obtain ⟨la, lc, rfl, _, _, _⟩ := HRl6.out
    clear hsep
    cases bz
    all_goals
      cases l1
      · go_wp2_with (first | (go_at_call 15; refine (Hxy.out _).mono ?_; rintro e w' ⟨rfl, rfl⟩) | (go_at_call 16; refine (Hmod.out _).mono ?_; rintro e w' ⟨rfl, rfl⟩))
        go_ret
        exact ⟨rfl, HB6.out⟩
      · have h2 : l2 = false := Hst.out rfl
        subst h2
        go_wp2_with fail
        refine (Hxy.out _).mono ?_
        rintro e w' ⟨rfl, rfl⟩
        go_wp2_with fail
        refine (Hmod.out _).mono ?_
        rintro e w' ⟨rfl, rfl⟩
        go_wp2_with fail
        refine (Hxy.out _).mono ?_
        rintro e w' ⟨rfl, rfl⟩
        go_wp2_with fail
        refine (Hyx.out _).mono ?_
        rintro e w' ⟨rfl, rfl⟩
        go_wp2_with fail
        go_ret
        exact ⟨rfl, HB6.out⟩
  · have t1 : ((sep.size : Int) == 1) = true := by rw [beq_iff_eq]; omega
    have t3 : (sep.size : Int) = 1 := by omega
    have hfin : Calls Try.prog 12 #[l, .string sep] w6 fun e w' => e = .returned (.tuple #[.string s, .bool true]) ∧ Below w6.heap.size w6 w' := by
      have hne := split_ne sep[0] s
      have hres : joinRes sep[0] (splitB sep[0] s) = .tuple #[.string s, .bool true] := by unfold joinRes; rw [good_split sep[0] s (by omega), jn_split]; rfl
      have := impl_join l (splitB sep[0] s) sep w6 HRl6.out hp0 hp1 (by cases hh : splitB sep[0] s with | nil => exact absurd hh hne | cons _ _ => simp) (by omega) (part_small sep[0] s (by omega))
      rw [hres] at this
      exact this
    have HF := Lib.hid hfin
    clear hfin hl0 HRl HRl3 HRl4 HRl5 HCase HSp
    cases bz
    all_goals
      cases l1
      · go_wp2_with (first | (go_at_call 15; refine (Hxy.out _).mono ?_; rintro e w' ⟨rfl, rfl⟩) | (go_at_call 16; refine (Hmod.out _).mono ?_; rintro e w' ⟨rfl, rfl⟩) | (go_at_call 12; refine HF.out.mono ?_; rintro e w' ⟨rfl, hb7⟩))
        go_ret
        exact ⟨rfl, HB6.out.trans (hb7.mono HB6.out.size)⟩
      · have h2 : l2 = false := Hst.out rfl
        subst h2
        go_wp2_with fail
        refine (Hxy.out _).mono ?_
        rintro e w' ⟨rfl, rfl⟩
        go_wp2_with fail
        refine (Hmod.out _).mono ?_
        rintro e w' ⟨rfl, rfl⟩
        go_wp2_with fail
        refine (Hxy.out _).mono ?_
        rintro e w' ⟨rfl, rfl⟩
        go_wp2_with fail
        refine (Hyx.out _).mono ?_
        rintro e w' ⟨rfl, rfl⟩
        go_wp2_with fail
        refine HF.out.mono ?_
        rintro e w' ⟨rfl, hb7⟩
        go_wp2_with fail
        go_ret
        exact ⟨rfl, HB6.out.trans (hb7.mono HB6.out.size)⟩
theorem walk (a0 : Option Addr) (len0 cap0 : Nat) (z0 : List Int) (w : World) (w0 : IsRow .u8 w a0 len0 cap0 z0) :
    Calls Try.prog 3 #[.slice a0 len0 cap0] w fun e w' => e = .returned (.bool true) ∧ Below w.heap.size w w' := by
  have hc := code_of_row w0
  by_cases h : len0 ≤ 65536
  · exact law_small _ w hc (fun a k c e => by cases e; exact h)
  · obtain ⟨a, k, c, he, hm, _⟩ := hc
    cases he
    go_enter Try.func3, Try.ntmps3
    go_wp2_with fail
    refine (vBig_yes _ _ _ w (by omega) hm).mono ?_
    rintro e w' ⟨rfl, rfl⟩
    go_wp2_with fail
    go_ret
    exact ⟨rfl, Below.refl _ _⟩
set_option maxRecDepth 100000 in
theorem lifted (os : Os) (started : os.Started) (H : Type) (enc : TypeId × Value → H) :
    ReturnsInHanded {} Try.checked os 3 .any (Rows.fnSplitJoinSpec.pre6 enc Try.prog Try.f3 Rows.fnSplitJoinRow.domain false) (Rows.fnSplitJoinSpec.post enc Try.prog Try.f3 false true false false) := by
  refine returnsInHanded_of_change (C := Try.checked) own started (by kernel_rfl) Try.func3
    (ChangeSpec.witness6 (enc := enc) (C := Try.checked) false ⟨#[], #[.slice none 0 0], []⟩ 8 (by kernel_rfl) (by kernel_rfl) (by kernel_rfl) (by kernel_rfl)) ?_
  intro W base args ds gs before hval0 hW hcnd _
  have hval : ∀ (j : Nat) t v, Try.f3.params[j]? = some t → args[j]? = some v → Value.okWide Try.prog W .any base t v := hval0
  have hW' := hW
  obtain ⟨p, q, hA0, hV, rfl, hfz, hnd⟩ := hW
  have hA : DataW.TrodAll enc Try.prog W 0 (fun _ => true) true Try.f3.params.toList args.toList ds p := hA0
  rw [Try.params3] at hA hval
  obtain ⟨v0, vs0, d0, ds0, p0, q0, hargs, rfl, rfl, h0, r0⟩ := trodAll_cons hA
  obtain ⟨rfl, rfl, rfl⟩ := trodAll_nil r0
  obtain rfl : args = #[v0] := by cases args; simp_all
  obtain ⟨rfl, rfl⟩ := trodVars_none hV
  obtain ⟨a0, len0, cap0, rfl⟩ := okWide_slice Try.underlying22 (hval 0 22 v0 rfl rfl)
  have k0 := h0
  have lt0 : ∀ x ∈ p0, x.block < W.heap.size := by obtain ⟨m, hm⟩ := k0; exact DataW.trod_lt m _ _ _ hm
  obtain ⟨z0, w0⟩ : ∃ zs, IsRow .u8 W a0 len0 cap0 zs := by
    obtain ⟨fuel, hf⟩ := h0
    rcases open_ints Try.underlying22 Try.underlying5 (by kernel_rfl) hf with ⟨hcs, _⟩ | ⟨x, l, c, zs, hcs, _, hl, hm, hz, _, hcell, hwz⟩
    · simp [Value.cells] at hcs
      obtain ⟨rfl, rfl, rfl⟩ := hcs
      exact ⟨[], .inl ⟨rfl, rfl, rfl, rfl⟩⟩
    · simp [Value.cells] at hcs
      obtain ⟨rfl, rfl, rfl⟩ := hcs
      exact ⟨zs, .inr ⟨_, rfl, hl, hm, by simpa using hz, hcell, hwz⟩⟩
  clear hA0 hval0
  refine (walk a0 len0 cap0 z0 W w0).mono fun e W' ⟨he, bel⟩ => ?_
  subst he
  exact ⟨_, rfl, _, _, _, [], _, [], hW', trodAll_mk1 (shut_bool Try.underlying4 _), (trodAll_cons_mk (Below.trod laidOut (by kernel_rfl) (of_decide_eq_true (by kernel_rfl)) k0 bel lt0) trodAll_mk0), rfl, bel.frame _, fun h => by cases h⟩

theorem over : Rows.fnSplitJoinRow.holds Try.pinned (OpenSpec.ofChange Rows.fnSplitJoinSpec) :=
  OpenClaim.holds_of_wide 3 Try.f3 rfl rfl rfl rfl rfl rfl rfl ⟨rfl, rfl, rfl, rfl, rfl⟩ rfl rfl rfl rfl rfl (by kernel_rfl) Try.func3 (by kernel_rfl)
    (of_decide_eq_true (by kernel_rfl)) (by unfold Func.isWrapper; first | (rw [if_pos (by decide +kernel)]; kernel_rfl) | (rw [if_neg (by decide +kernel)]; exact ⟨rfl, rfl⟩))
    (fun os started H enc _ => lifted os started H enc)

end Go.Proofs.Ytokpgdojcjmliaa.fnSplitJoin
namespace Go.Proofs.Ytokpgdojcjmliaa
theorem fnSplitJoin_holds : Rows.FnSplitJoinSaid := fnSplitJoin.over
#print axioms fnSplitJoin_holds
end Go.Proofs.Ytokpgdojcjmliaa
