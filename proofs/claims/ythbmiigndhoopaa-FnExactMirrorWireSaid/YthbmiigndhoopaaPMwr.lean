/-
  What is proved: for every input impl.MirrorWire answers as the model does, its arguments read as before, and its answer is memory of its own (the statement of the law FnExactMirrorWire). Conditions: none beyond the row's own.
-/
import Derived.Test.YthbmiigndhoopaaFrl
import Derived.Test.YthbmiigndhoopaaFrx
import Derived.Test.YthbmiigndhoopaaWMwr
namespace Go.Proofs.Ythbmiigndhoopaa.fnExactMirrorWire
open Go.ChangeShapes Go.WideShapes Go.ChangeAt Go.RowKit
open Go.ChangeMaps (open_string shut_string)
set_option linter.unusedVariables false

set_option maxRecDepth 100000 in
theorem lifted (os : Os) (started : os.Started) (H : Type) (enc : TypeId × Value → H) :
    ReturnsInHanded {} Try.checked os 18 .any (Rows.fnExactMirrorWireSpec.pre6 enc Try.prog Try.f18 Rows.fnExactMirrorWireRow.domain false) (Rows.fnExactMirrorWireSpec.post enc Try.prog Try.f18 false true false false) := by
  refine returnsInHanded_of_change (C := Try.checked) own started (by kernel_rfl) Try.func18
    (ChangeSpec.witness6 (enc := enc) (C := Try.checked) false ⟨#[], #[.agg #[.int .i64 0, .slice none 0 0, .slice none 0 0]], []⟩ 8 (by kernel_rfl) (by kernel_rfl) (by kernel_rfl) (by kernel_rfl)) ?_
  intro W base args ds gs before hval0 hW hcnd _
  have hval : ∀ (j : Nat) t v, Try.f18.params[j]? = some t → args[j]? = some v → Value.okWide Try.prog W .any base t v := hval0
  have hW' := hW
  obtain ⟨p, q, hA0, hV, rfl, hfz, hnd⟩ := hW
  have hA : DataW.TrodAll enc Try.prog W 0 (fun _ => true) true Try.f18.params.toList args.toList ds p := hA0
  rw [Try.params18] at hA hval
  obtain ⟨v0, vs0, d0, ds0, p0, q0, hargs, rfl, rfl, h0, r0⟩ := trodAll_cons hA
  obtain ⟨rfl, rfl, rfl⟩ := trodAll_nil r0
  obtain rfl : args = #[v0] := by cases args; simp_all
  obtain ⟨rfl, rfl⟩ := trodVars_none hV
  have k0 := h0
  have lt0 : ∀ x ∈ p0, x.block < W.heap.size := by obtain ⟨m, hm⟩ := k0; exact DataW.trod_lt m _ _ _ hm
  obtain ⟨L0, vp0, vd0, xp0, xd0, rfl, hr0, hs0⟩ := open_wire (fun _ => rfl) (hval 0 36 v0 rfl rfl) h0
  clear hA0 hval0
  refine (walk L0 vp0 vd0 xp0 xd0 W hr0 hs0).mono fun e W' ⟨he, bel⟩ => ?_
  subst he
  exact ⟨_, rfl, _, _, _, [], _, [], hW', trodAll_mk1 (shut_bool Try.underlying4 _), (trodAll_cons_mk (Below.trod laidOut (by kernel_rfl) (of_decide_eq_true (by kernel_rfl)) k0 bel lt0) trodAll_mk0), rfl, bel.frame _, fun h => by cases h⟩

set_option maxHeartbeats 1600000 in
theorem closed : joinedFacts Try.pinned.checked.prog 18 Try.f18 Rows.fnExactMirrorWireSpec Rows.fnExactMirrorWireRow = true := by
  unfold joinedFacts
  repeat' with_reducible refine and_of ?_ ?_
  all_goals first
    | with_reducible exact may_enter
    | (rw [lifts_final]; kernel_rfl)
    | (rw [made_so]; kernel_rfl)
    | kernel_rfl
theorem over : Rows.fnExactMirrorWireRow.holds Try.pinned (OpenSpec.ofChange Rows.fnExactMirrorWireSpec) :=
  OpenClaim.holds_of_wide 18 Try.f18 rfl rfl rfl rfl rfl rfl rfl ⟨rfl, rfl, rfl, rfl, rfl⟩ rfl rfl rfl rfl rfl (by kernel_rfl) Try.func18 closed
    (of_decide_eq_true (by kernel_rfl)) (by unfold Func.isWrapper; first | (rw [if_pos (by decide +kernel)]; kernel_rfl) | (rw [if_neg (by decide +kernel)]; exact ⟨rfl, rfl⟩))
    (fun os started H enc _ => lifted os started H enc)
end Go.Proofs.Ythbmiigndhoopaa.fnExactMirrorWire
namespace Go.Proofs.Ythbmiigndhoopaa
theorem fnExactMirrorWire_holds : Rows.FnExactMirrorWireSaid := fnExactMirrorWire.over
#print axioms fnExactMirrorWire_holds
end Go.Proofs.Ythbmiigndhoopaa
