/-
  What is proved: for every string, impl.VerifyChecksum answers as the model does (the card of the law FnExactVerifyChecksum). Conditions: none beyond the card's own.
-/
import Derived.Test.YtokpgdojcjmliaaDoorCards
import Derived.Test.YtokpgdojcjmliaaDoorTie
import Derived.Test.YtokpgdojcjmliaaDoorVer
namespace Go.Proofs.YtokpgdojcjmliaaDoor.fnExactVerifyChecksum
open Go.ChangeShapes Go.WideShapes Go.ChangeAt Go.RowKit
open Go.ChangeMaps (open_string shut_string)
theorem law_two (s z : ByteArray) (b : Bool) (w : World) (h : s.size ≤ 1048576)
    (hm : Calls Tryd.prog 20 #[.string s] w fun e w' => e = .returned (.tuple #[.string z, .bool b]) ∧ Below w.heap.size w w')
    (hi : ∀ w', Below w.heap.size w w' → Calls Tryd.prog 18 #[.string s] w' fun e w2 => e = .returned (.tuple #[.string z, .bool b]) ∧ Below w'.heap.size w' w2) :
    Calls Tryd.prog 7 #[.string s] w fun e w' => e = .returned (.bool true) ∧ Below w.heap.size w w' := by
  have Hm := Lib.hid hm
  have Hi := Lib.hid hi
  clear hm hi
  go_enter Tryd.func7, Tryd.ntmps7
  go_wp2_with fail
  refine Hm.out.mono ?_
  rintro e w1 ⟨rfl, hb⟩
  go_wp2_with fail
  refine (Hi.out _ hb).mono ?_
  rintro e w2 ⟨rfl, hg⟩
  cases b
  all_goals
    go_wp2_with fail
    go_ret
    exact ⟨rfl, hb.trans (hg.mono hb.size)⟩
theorem law_any (s : ByteArray) (w : World) (hL : laidMetH Tryd.prog Rows.fnExactVerifyChecksumRow.laid w) (hsh : w.ShapedOpen Tryd.prog) (ws : s.size ≤ maxLen) :
    Calls Tryd.prog 7 #[.string s] w fun e w' => e = .returned (.bool true) ∧ Below w.heap.size w w' := by
  have htab : PowTab w := pow_of_laid _ (by kernel_rfl) hL
  have hmax := maxIs_shaped w hsh
  clear hL hsh
  by_cases h0 : s.size ≤ 1048576
  · have hts := textOf_size s
    have hth := textOf_has s
    have hx : ∀ w' : World, Below w.heap.size w w' → PowTab w' ∧ MaxIs w' := fun w' hb => ⟨pow_below htab hb, max_below hmax hb⟩
    by_cases h1 : s.size ≤ 4000 ∧ sealOf (textOf s) = s
    · obtain ⟨h1, he⟩ := h1
      have hhas : hasB s 35 = true := has_of_seal he
      have hz : (sealOf (textOf s)).size ≤ 4000 := by rw [he]; exact h1
      refine law_two s (textOf s) true w h0 (model_ver_yes s w h1 he) (fun w' hb => impl_ver_yes s w' h0 (hx w' hb).2 hhas fun n => ?_)
      have h4 := impl_seal_yes (textOf s) (w'.drewN n) (by omega) hth hz (tab_drewN n (hx w' hb).1)
      rwa [he] at h4
    · have hm : Calls Tryd.prog 20 #[.string s] w fun e w' => e = .returned (.tuple #[.string ⟨#[]⟩, .bool false]) ∧ Below w.heap.size w w' := by
        by_cases h2 : s.size ≤ 4000
        · exact model_ver_no s w h2 (fun e => h1 ⟨h2, e⟩)
        · exact model_ver_long s w (by omega) h0
      refine law_two s ⟨#[]⟩ false w h0 hm (fun w' hb => ?_)
      obtain ⟨hp, hmx⟩ := hx w' hb
      cases h3 : hasB s 35
      · exact impl_ver_miss s w' h0 hmx h3
      · by_cases h4 : (textOf s).size ≤ 4000
        · by_cases h5 : (sealOf (textOf s)).size ≤ 4000
          · refine impl_ver_other s (sealOf (textOf s)) w' h0 hmx h3 (fun e => h1 ⟨by rw [e] at h5; exact h5, e⟩) fun n => ?_
            exact impl_seal_yes (textOf s) (w'.drewN n) h4 hth h5 (tab_drewN n hp)
          · exact impl_ver_fail s w' h0 hmx h3 fun n => impl_seal_wide (textOf s) (w'.drewN n) h4 hth (by omega) (tab_drewN n hp)
        · exact impl_ver_fail s w' h0 hmx h3 fun n => impl_seal_long (textOf s) (w'.drewN n) (by omega) (by unfold maxLen; omega)
  · unfold maxLen at ws
    clear htab hmax
    go_enter Tryd.func7, Tryd.ntmps7
    go_wp2
    go_ret
    exact ⟨rfl, Below.refl _ _⟩

theorem laid_met (os : Os) : laidMetH Tryd.prog Rows.fnExactVerifyChecksumRow.laid ((World.doorLaid Tryd.prog 400 os).forCall (fun _ _ => 0) ⟨#[], #[.string ByteArray.empty], []⟩).memory :=
  laidMetH_of_parts3 (fuel := 8) (laidMet_of_run' 8 (by kernel_rfl) (by kernel_rfl)) (by kernel_rfl) (by kernel_rfl)
theorem reads (os : Os) {H : Type} (enc : TypeId × Value → H) : ∃ places, DataW.whole enc Tryd.prog ((World.doorLaid Tryd.prog 400 os).forCall (fun _ _ => 0) ⟨#[], #[.string ByteArray.empty], []⟩).memory Tryd.f7.params.toList Rows.fnExactVerifyChecksumSpec.vars false #[Value.string ByteArray.empty].toList 8 = some ([.lit (.string [])], [], places) :=
  ⟨[], by kernel_rfl⟩

theorem contract (H : Type) (enc : TypeId × Value → H) (W : World) (base : Nat) (args : Array Value) (ds gs : List (DataW H)) (before : List MemPlace)
    (hval : ∀ (j : Nat) t v, Tryd.f7.params[j]? = some t → args[j]? = some v → Value.okWide Tryd.prog W .any base t v)
    (hW : DataW.Whole enc Tryd.prog Tryd.f7.params.toList Rows.fnExactVerifyChecksumSpec.vars false W args.toList ds gs before) (hL : laidMetH Tryd.prog Rows.fnExactVerifyChecksumRow.laid W) (hsh : W.ShapedOpen Tryd.prog) :
    Calls Tryd.prog 7 args W fun e W' => ∃ v, e = .returned v ∧ Rows.fnExactVerifyChecksumSpec.post enc Tryd.prog Tryd.f7 false true false false W args v W' := by
  have hW' := hW
  obtain ⟨p, q, hA0, hV, rfl, hfz, hnd⟩ := hW
  have hA : DataW.TrodAll enc Tryd.prog W 0 (fun _ => true) true Tryd.f7.params.toList args.toList ds p := hA0
  rw [Tryd.params7] at hA hval
  obtain ⟨v0, vs0, d0, ds0, p0, q0, hargs, rfl, rfl, h0, r0⟩ := trodAll_cons hA
  obtain ⟨rfl, rfl, rfl⟩ := trodAll_nil r0
  obtain rfl : args = #[v0] := by cases args; simp_all
  obtain ⟨rfl, rfl⟩ := trodVars_none hV
  obtain ⟨a0, rfl, rfl, rfl, w0⟩ := open_string Tryd.underlying9 (hval 0 9 v0 rfl rfl) h0
  clear hA0
  refine (law_any a0 W hL hsh w0).mono fun e W' ⟨he, bel⟩ => ?_
  subst he
  exact ⟨_, rfl, _, _, _, [], _, [], hW', trodAll_mk1 (shut_bool Tryd.underlying4 _), (trodAll_cons_mk (shut_string Tryd.underlying9 w0) trodAll_mk0), rfl, bel.frame _, fun h => by cases h⟩

set_option maxRecDepth 100000 in
theorem lifted (os : Os) (started : os.Started) (H : Type) (enc : TypeId × Value → H) (F : Stop.Interp) :
    ReturnsInHanded {} Tryd.checked os 7 .any ((OpenSpec.ofChange Rows.fnExactVerifyChecksumSpec).preRow enc Tryd.prog Tryd.f7 Rows.fnExactVerifyChecksumRow.domain false Rows.fnExactVerifyChecksumRow.laid) (((OpenSpec.ofChange Rows.fnExactVerifyChecksumSpec).at F).post enc Tryd.prog Tryd.f7 false true false false) := by
  obtain ⟨places, hx⟩ := reads os enc
  refine returnsInHanded_of_row (C := Tryd.checked) (s := OpenSpec.ofChange Rows.fnExactVerifyChecksumSpec) own started (by kernel_rfl) Tryd.func7
    (witness_row_atRef (enc := enc) (C := Tryd.checked) false (World.doorLaid Tryd.prog 400 os) #[.string ByteArray.empty] rfl (by kernel_rfl) (by kernel_rfl) (by kernel_rfl)
      (OpenSpec.preRow_of_cond 8 hx (by kernel_rfl) (fun k hk => by cases hk) (by kernel_rfl) (laid_met os))) ?_
  intro W base args ds gs before hval hW _ _ _ hL hsh _
  exact contract H enc W base args ds gs before hval hW hL hsh

theorem said : Rows.FnExactVerifyChecksumSaid :=
  OpenClaim.holds_of_cond 7 Tryd.f7 rfl rfl rfl rfl rfl rfl rfl ⟨rfl, rfl, rfl, rfl, rfl⟩ rfl rfl rfl rfl rfl (by kernel_rfl) Tryd.func7 (by kernel_rfl)
    (of_decide_eq_true (by kernel_rfl)) (by unfold Func.isWrapper; first | (rw [if_pos (by decide +kernel)]; kernel_rfl) | (rw [if_neg (by decide +kernel)]; exact ⟨rfl, rfl⟩))
    (fun os started H enc _ F => by rw [OpenClaim.pre_eq_preRow]; exact lifted os started H enc F)

theorem plain (f : FuncId) (fn : Func) (hf : Tryd.pinned.checked.prog.funcNamed "loop.example/g01148/laws.FnExactVerifyChecksum" = some f) (hfn : Tryd.pinned.checked.prog.funcs[f]? = some fn) :
    true = Tryd.pinned.checked.prog.looks [] ∧ ∀ (j : Nat) t, fn.params[j]? = some t → Tryd.pinned.checked.prog.wantsStandIn t = false := by
  obtain rfl : f = 7 := Option.some.inj ((show Tryd.prog.funcNamed "loop.example/g01148/laws.FnExactVerifyChecksum" = some 7 by kernel_rfl).symm.trans hf) |>.symm
  obtain rfl : fn = Tryd.f7 := (Option.some.inj (Tryd.func7.symm.trans hfn)).symm
  refine ⟨by kernel_rfl, fun j t ht => ?_⟩
  rw [Tryd.params7] at ht
  obtain rfl : t = 9 := by simpa using Array.mem_of_getElem? ht
  exact (show Tryd.prog.wantsStandIn 9 = false by kernel_rfl)

theorem card : Rows.FnExactVerifyChecksumCardSaid :=
  Claim7.holds_tied_plain_at .later [] _ _ _ _ said (fun _ h => by cases h) (by kernel_rfl) (fun _ h => by cases h) fnExactVerifyChecksum_row_tie rfl ⟨rfl, rfl⟩ (by kernel_rfl) rfl plain (by kernel_rfl)
end Go.Proofs.YtokpgdojcjmliaaDoor.fnExactVerifyChecksum
namespace Go.Proofs.YtokpgdojcjmliaaDoor
theorem fnExactVerifyChecksum_card : Rows.FnExactVerifyChecksumCardSaid := fnExactVerifyChecksum.card
#print axioms fnExactVerifyChecksum_card
end Go.Proofs.YtokpgdojcjmliaaDoor
