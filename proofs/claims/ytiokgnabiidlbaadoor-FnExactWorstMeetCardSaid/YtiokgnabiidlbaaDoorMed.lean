/-
  What is proved: the contracts of impl.areWalkers and of IsWalker of the model and of the program. Conditions: slices that read as lists.
-/
import Derived.Test.YtiokgnabiidlbaaDoorMec
namespace Go.Proofs.YtiokgnabiidlbaaDoor
open Go.RowKit
set_option linter.unusedVariables false
set_option linter.unusedSimpArgs false

/-- v reads as the list ks of walkers -/
def ReadsW (w : World) (v : Value) (ks : List Wk) : Prop :=
  ∃ a c, v = .slice a ks.length c ∧ ks.length ≤ c ∧ ks.length ≤ maxLen ∧ ∀ (j : Nat) k, ks[j]? = some k → ∃ b o m, a = some ⟨b, o, none⟩ ∧ b < w.heap.size ∧
    w.cell? ⟨b, o + j * 4, none⟩ = some (.int .i64 k.s) ∧ w.cell? ⟨b, o + j * 4 + 1, none⟩ = some (.int .i64 k.f) ∧ w.cell? ⟨b, o + j * 4 + 2, none⟩ = some (.int .i64 k.d) ∧ w.cell? ⟨b, o + j * 4 + 3, none⟩ = some m ∧ ReadsI w m k.ms
theorem ReadsW.below {w w' : World} {v : Value} {ks : List Wk} (h : ReadsW w v ks) (hb : Below w.heap.size w w') : ReadsW w' v ks := by
  obtain ⟨a, c, hv, hc, hm, hx⟩ := h
  refine ⟨a, c, hv, hc, hm, fun j k hj => ?_⟩
  obtain ⟨b, o, m, ha, hlt, h0, h1, h2, h3, hr⟩ := hx j k hj
  exact ⟨b, o, m, ha, Nat.lt_of_lt_of_le hlt hb.size, (hb.cell (p := ⟨b, _, none⟩) hlt).trans h0, (hb.cell (p := ⟨b, _, none⟩) hlt).trans h1, (hb.cell (p := ⟨b, _, none⟩) hlt).trans h2, (hb.cell (p := ⟨b, _, none⟩) hlt).trans h3, hr.below hb⟩
/-- a valid road, and valid walkers on it -/
def wksB (n : Int) (g : Bool) (ks : List Wk) : Bool := roadB n g && ks.all (wkB n g)
theorem wksB_iff (n : Int) (g : Bool) (ks : List Wk) : wksB n g ks = true ↔ roadB n g = true ∧ ∀ (j : Nat) k, ks[j]? = some k → wkB n g k = true := by
  unfold wksB
  rw [Bool.and_eq_true, List.all_eq_true]
  constructor
  · rintro ⟨h, h2⟩
    exact ⟨h, fun j k hj => h2 k (List.mem_of_getElem? hj)⟩
  · rintro ⟨h, h2⟩
    refine ⟨h, fun k hk => ?_⟩
    obtain ⟨j, hj⟩ := List.getElem?_of_mem hk
    exact h2 j k hj
theorem wksB_no {n : Int} {g : Bool} {ks : List Wk} {j : Nat} {k : Wk} (hj : ks[j]? = some k) (h : wkB n g k = false) : wksB n g ks = false := by
  cases hb : wksB n g ks
  · rfl
  · rw [((wksB_iff n g ks).1 hb).2 j k hj] at h
    cases h
def AwRel (n : Int) (g : Bool) (ks : List Wk) (base : Nat) (w : World) (r i : Value) (wr : World) : Prop :=
  r = .bool false ∧ Boxed base n g w wr ∧ ∃ k : Nat, k ≤ ks.length ∧ i = .int .i64 k ∧ ∀ (j : Nat) x, j < k → ks[j]? = some x → wkB n g x = true
set_option maxHeartbeats 800000 in
set_option maxRecDepth 20000 in
theorem areWalkers_any (n : Int) (g : Bool) (v : Value) (ks : List Wk) (w : World) (hv : ReadsW w v ks) :
    Calls Tryd.prog 24 #[rd n g, v] w fun e w' => e = .returned (.bool (wksB n g ks)) ∧ Below w.heap.size w w' := by
  have HRO := Lib.hid (fun w => isRoad_any n g w)
  have HON := Lib.hid (fun k m w hv => isOn_any n g k m w hv)
  have HX := Lib.hid (Boxed.first w n g 30)
  have HV := Lib.hid hv
  obtain ⟨y, c, rfl, hc, hm, hx⟩ := hv
  unfold maxLen at hm
  have HL := Lib.hid hx
  clear hx
  unfold wkv rd at *
  go_enter Tryd.func24, Tryd.ntmps24
  go_wp2_with fail
  go_loopw [4, 9] (fun r i wr => AwRel n g ks w.heap.size w r i wr) (fun _ i _ => ks.length - (intOf i).toNat)
  case atStart => exact ⟨rfl, HX.out, 0, Nat.zero_le _, rfl, fun j x hj => by omega⟩
  case round =>
    obtain ⟨rfl, hx, k, hk, rfl, hpre⟩ := hrel
    clear HX
    have HX := Lib.hid hx
    have HP := Lib.hid hpre
    clear hx hpre
    have hb0 := HX.out.c0
    have hb1 := HX.out.c1
    by_cases hlt : k < ks.length
    · obtain ⟨x, hxk⟩ := get_some hlt
      obtain ⟨b, o, m, rfl, hbl, h0, h1, h2, h3, hr⟩ := HL.out k x hxk
      have hrr := hr
      obtain ⟨ma, mc, hmm, _⟩ := hrr
      generalize hml : x.ms.length = ml at hmm
      clear hml
      subst hmm
      have HK := Lib.hid hxk
      have HR := Lib.hid ((hr.below HX.out.below).below (below_new _ (.cells #[.int .i64 x.s, .int .i64 x.f, .int .i64 x.d, .slice ma ml mc] 32)))
      have HX2 := Lib.hid (HX.out.next (below_new _ (.cells #[.int .i64 x.s, .int .i64 x.f, .int .i64 x.d, .slice ma ml mc] 32)))
      have h0 := (HX.out.below.cell (p := ⟨b, _, none⟩) hbl).trans h0
      have h1 := (HX.out.below.cell (p := ⟨b, _, none⟩) hbl).trans h1
      have h2 := (HX.out.below.cell (p := ⟨b, _, none⟩) hbl).trans h2
      have h3 := (HX.out.below.cell (p := ⟨b, _, none⟩) hbl).trans h3
      clear hxk hr
      have hsz := HX.out.size
      have ha0 := HX2.out.c0
      have ha1 := HX2.out.c1
      go_wp2_with fail
      refine (HON.out x (.slice ma ml mc) _ HR.out).mono ?_
      rintro e w2 ⟨rfl, hb⟩
      have HX := Lib.hid (HX2.out.next hb)
      clear hb hb0 hb1 h0 h1 h2 h3 ha0 ha1 hsz
      cases hw : wkB n g x
      · have HF := Lib.hid (wksB_no HK.out hw)
        go_wp2_with fail
        go_ret
        exact ⟨ret_bool HF.out.symm, HX.out.below⟩
      · have HW := Lib.hid hw
        clear hw
        go_wp2_with fail
        go_roundw
        case rel =>
          refine ⟨rfl, HX.out, k + 1, by omega, by go_num, fun j z hj hz => ?_⟩
          by_cases e : j = k
          · subst e
            rw [HK.out] at hz
            cases hz
            exact HW.out
          · exact HP.out j z (by omega) hz
        case measure => simp [intOf]; omega
    · have HF := Lib.hid (show roadB n g = wksB n g ks by
        rw [Bool.eq_iff_iff, wksB_iff]
        exact ⟨fun h => ⟨h, fun j x hx => HP.out j x (by have := (List.getElem?_eq_some_iff.1 hx).1; omega) hx⟩, fun h => h.1⟩)
      go_wp2_with fail
      refine (HRO.out _).mono ?_
      rintro e w2 ⟨rfl, hb⟩
      have HX := Lib.hid (HX.out.next hb)
      clear hb hb0 hb1
      go_wp2_with fail
      go_ret
      exact ⟨ret_bool HF.out, HX.out.below⟩
end Go.Proofs.YtiokgnabiidlbaaDoor
