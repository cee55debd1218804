/-
  What is proved: sort.Search with a function of the program's that answers by a property that grows. Conditions: those of each contract.
-/
import Derived.Test.YtgchodielkodeaaRlx
import Derived.Test.YtgchodielkodeaaRlw
namespace Go.Proofs.Ytgchodielkodeaa
open Go.RowKit
set_option linter.unusedVariables false
set_option linter.unusedSimpArgs false

def Ss_ext (p : Nat → Bool) (N : Nat) (w : World) (i j : Value) (wr : World) : Prop :=
  Below w.heap.size w wr ∧ ∃ lo hi : Nat, i = .int .i64 lo ∧ j = .int .i64 hi ∧ lo ≤ hi ∧ hi ≤ N ∧ (∀ t, t < lo → p t = false) ∧ (∀ t, hi ≤ t → t < N → p t = true)
set_option maxHeartbeats 1600000 in
set_option maxRecDepth 20000 in
theorem search_ext (p : Nat → Bool) (N : Nat) (u v : Value) (w : World) (hN : N ≤ 1000000)
    (hf : ∀ (W : World) (i : Nat), Below w.heap.size w W → i < N → Calls Try.prog 98 #[.int .i64 i, u, v] W fun e W' => e = .returned (.bool (p i)) ∧ Below W.heap.size W W')
    (hmono : ∀ a b, a ≤ b → p a = true → p b = true) :
    Calls Try.prog 97 #[.int .i64 N, .func (.func 98) #[] #[u, v]] w fun e w' => e = .returned (.int .i64 (lst p N)) ∧ Below w.heap.size w w' := by
  have HF := Lib.hid hf
  have HM := Lib.hid hmono
  have HLI := Lib.hid (fun m h1 h2 h3 => lst_is (p := p) (k := N) (m := m) h1 h2 h3)
  clear hf hmono
  go_enter Try.func97, Try.ntmps97
  go_wp2_with fail
  go_loopw [5, 6] (fun i j wr => Ss_ext p N w i j wr) (fun i j _ => (intOf j).toNat - (intOf i).toNat)
  case atStart => exact ⟨Below.refl _ _, 0, N, rfl, rfl, Nat.zero_le _, Nat.le_refl _, fun t ht => by omega, fun t h1 h2 => by omega⟩
  case round =>
    obtain ⟨hb, lo, hi, rfl, rfl, hlh, hhN, hf0, hf1⟩ := hrel
    have HB := Lib.hid hb
    have H0 := Lib.hid hf0
    have H1 := Lib.hid hf1
    clear hb hf0 hf1
    by_cases hlt : (lo : Int) < hi
    · obtain ⟨md, hmd⟩ : ∃ md : Nat, (lo + hi) / 2 = md := ⟨_, rfl⟩
      have hm1 : lo ≤ md := by omega
      have hm2 : md < hi := by omega
      have hmi : ((lo : Int) + hi) / 2 = (md : Int) := by omega
      have HMD := Lib.hid hmi
      clear hmd
      have w1 : IntKind.i64.wrap ((lo : Int) + hi) = (lo : Int) + hi := IntWalk.i64_in _ (by omega)
      go_wp2_with fail
      refine (HF.out _ md HB.out (by omega)).mono ?_
      generalize hpm : p md = pm
      have HPM := Lib.hid hpm
      clear hpm
      rintro e w2 ⟨rfl, hb⟩
      have HB2 := Lib.hid (HB.out.trans (hb.mono HB.out.size))
      clear hb
      cases pm
      · have HNF := Lib.hid (fun t (ht : t < md + 1) => show p t = false from by
          cases hpt : p t
          · rfl
          · have := HM.out t md (by omega) hpt
            rw [HPM.out] at this
            cases this)
        go_wp2_with fail
        go_roundw
        case rel => exact ⟨HB2.out, md + 1, hi, by go_num, rfl, by omega, hhN, HNF.out, H1.out⟩
        case measure => simp [intOf]; omega
      · have HNT := Lib.hid (fun t (h1 : md ≤ t) (_ : t < N) => HM.out md t h1 HPM.out)
        go_wp2_with fail
        go_roundw
        case rel => exact ⟨HB2.out, lo, md, rfl, by go_num, hm1, by omega, H0.out, HNT.out⟩
        case measure => simp [intOf]; omega
    · have hle : lo = hi := by omega
      subst hle
      have HE := Lib.hid (HLI.out lo hhN H0.out (fun h => H1.out lo (Nat.le_refl _) h))
      go_wp2_with fail
      go_ret
      exact ⟨ret_int (by rw [HE.out]), HB.out⟩
def Ss_bud (p : Nat → Bool) (N : Nat) (w : World) (i j : Value) (wr : World) : Prop :=
  Below w.heap.size w wr ∧ ∃ lo hi : Nat, i = .int .i64 lo ∧ j = .int .i64 hi ∧ lo ≤ hi ∧ hi ≤ N ∧ (∀ t, t < lo → p t = false) ∧ (∀ t, hi ≤ t → t < N → p t = true)
set_option maxHeartbeats 1600000 in
set_option maxRecDepth 20000 in
theorem search_bud (p : Nat → Bool) (N : Nat) (u v : Value) (w : World) (hN : N ≤ 1000000)
    (hf : ∀ (W : World) (i : Nat), Below w.heap.size w W → i < N → Calls Try.prog 135 #[.int .i64 i, u, v] W fun e W' => e = .returned (.bool (p i)) ∧ Below W.heap.size W W')
    (hmono : ∀ a b, a ≤ b → p a = true → p b = true) :
    Calls Try.prog 97 #[.int .i64 N, .func (.func 135) #[] #[u, v]] w fun e w' => e = .returned (.int .i64 (lst p N)) ∧ Below w.heap.size w w' := by
  have HF := Lib.hid hf
  have HM := Lib.hid hmono
  have HLI := Lib.hid (fun m h1 h2 h3 => lst_is (p := p) (k := N) (m := m) h1 h2 h3)
  clear hf hmono
  go_enter Try.func97, Try.ntmps97
  go_wp2_with fail
  go_loopw [5, 6] (fun i j wr => Ss_bud p N w i j wr) (fun i j _ => (intOf j).toNat - (intOf i).toNat)
  case atStart => exact ⟨Below.refl _ _, 0, N, rfl, rfl, Nat.zero_le _, Nat.le_refl _, fun t ht => by omega, fun t h1 h2 => by omega⟩
  case round =>
    obtain ⟨hb, lo, hi, rfl, rfl, hlh, hhN, hf0, hf1⟩ := hrel
    have HB := Lib.hid hb
    have H0 := Lib.hid hf0
    have H1 := Lib.hid hf1
    clear hb hf0 hf1
    by_cases hlt : (lo : Int) < hi
    · obtain ⟨md, hmd⟩ : ∃ md : Nat, (lo + hi) / 2 = md := ⟨_, rfl⟩
      have hm1 : lo ≤ md := by omega
      have hm2 : md < hi := by omega
      have hmi : ((lo : Int) + hi) / 2 = (md : Int) := by omega
      have HMD := Lib.hid hmi
      clear hmd
      have w1 : IntKind.i64.wrap ((lo : Int) + hi) = (lo : Int) + hi := IntWalk.i64_in _ (by omega)
      go_wp2_with fail
      refine (HF.out _ md HB.out (by omega)).mono ?_
      generalize hpm : p md = pm
      have HPM := Lib.hid hpm
      clear hpm
      rintro e w2 ⟨rfl, hb⟩
      have HB2 := Lib.hid (HB.out.trans (hb.mono HB.out.size))
      clear hb
      cases pm
      · have HNF := Lib.hid (fun t (ht : t < md + 1) => show p t = false from by
          cases hpt : p t
          · rfl
          · have := HM.out t md (by omega) hpt
            rw [HPM.out] at this
            cases this)
        go_wp2_with fail
        go_roundw
        case rel => exact ⟨HB2.out, md + 1, hi, by go_num, rfl, by omega, hhN, HNF.out, H1.out⟩
        case measure => simp [intOf]; omega
      · have HNT := Lib.hid (fun t (h1 : md ≤ t) (_ : t < N) => HM.out md t h1 HPM.out)
        go_wp2_with fail
        go_roundw
        case rel => exact ⟨HB2.out, lo, md, rfl, by go_num, hm1, by omega, H0.out, HNT.out⟩
        case measure => simp [intOf]; omega
    · have hle : lo = hi := by omega
      subst hle
      have HE := Lib.hid (HLI.out lo hhN H0.out (fun h => H1.out lo (Nat.le_refl _) h))
      go_wp2_with fail
      go_ret
      exact ⟨ret_int (by rw [HE.out]), HB.out⟩
end Go.Proofs.Ytgchodielkodeaa
