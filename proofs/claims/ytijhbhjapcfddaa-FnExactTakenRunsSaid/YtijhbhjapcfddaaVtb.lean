/-
  What is proved: the contract of spec.VisitTimes. Conditions: slices that read as tables.
-/
import Derived.Test.YtijhbhjapcfddaaVta
import Derived.Test.YtijhbhjapcfddaaPtc
namespace Go.Proofs.Ytijhbhjapcfddaa
open Go.RowKit
set_option linter.unusedVariables false
set_option linter.unusedSimpArgs false

/-- what VisitTimes answers -/
noncomputable def visR (n : Int) (g : Bool) (xss : List (List Int)) (p : Int) : List Int × Bool := if patD n g xss = true ∧ placeB n g p = true then (timV xss p (xss.getD 0 []).length, true) else ([], false)
theorem visR_no {n : Int} {g : Bool} {xss : List (List Int)} {p : Int} (h : ¬ (patD n g xss = true ∧ placeB n g p = true)) : visR n g xss p = ([], false) := by unfold visR; rw [if_neg h]
theorem visR_yes {n : Int} {g : Bool} {xss : List (List Int)} {p : Int} {L : Nat} (h : patD n g xss = true) (h2 : placeB n g p = true) (hL : (xss.getD 0 []).length = L) : visR n g xss p = (timV xss p L, true) := by unfold visR; rw [if_pos ⟨h, h2⟩, hL]
theorem visR_len (n : Int) (g : Bool) (xss : List (List Int)) (p : Int) : (visR n g xss p).1.length ≤ 60 := by
  unfold visR
  split
  · rename_i h
    obtain ⟨L, _, hL60, hL0, _⟩ := pat_rows ((patD_iff n g xss).1 h.1)
    rw [hL0]
    exact Nat.le_trans (pickV_len _ _) hL60
  · simp
theorem owns_VB {base : Nat} {R : List Int × Bool} {zs : List Int} {b : Bool} {w w' : World} {v : Value} (hR : R = (zs, b)) (ho : w'.ownsRow base 3 1 v zs.length (zs.map iv)) (hb : Below base w w') : OwnsB base R.1 R.2 w (.returned (.tuple #[v, .bool b])) w' := by
  subst hR
  exact ⟨v, rfl, ho, hb⟩
set_option maxHeartbeats 1600000 in
set_option maxRecDepth 20000 in
theorem spec_VisitTimes (n : Int) (g : Bool) (v : Value) (xss : List (List Int)) (p : Int) (w : World) (hv : ReadsL w v xss) :
    Calls Try.prog 55 #[rd n g, v, .int .i64 p] w (OwnsB w.heap.size (visR n g xss p).1 (visR n g xss p).2 w) := by
  have HGO := Lib.hid (fun v xss w hv => l5Good_any n g v xss w hv)
  have HPL := Lib.hid (fun w => l2Place_any n g p w)
  have HX := Lib.hid (Boxed.first w n g 27)
  have HV := Lib.hid hv
  cases hp : patD n g xss
  · have HR := Lib.hid (visR_no (n := n) (g := g) (xss := xss) (p := p) (fun h => by rw [hp] at h; cases h.1))
    have HP := Lib.hid hp
    clear hp
    generalize visR n g xss p = R at *
    unfold rd at *
    go_enter Try.func55, Try.ntmps55
    go_wp2_with fail
    refine (HGO.out _ _ _ (HV.out.below HX.out.below)).mono ?_
    rintro e w1 ⟨rfl, hb⟩
    have HX := Lib.hid (HX.out.next hb)
    have hx0 := HX.out.c0
    have hx1 := HX.out.c1
    clear hb
    rw [HP.out]
    have HO := Lib.hid (made_at w1 w.heap.size w1.heap.size rfl (Nat.le_of_lt HX.out.size))
    have HX2 := Lib.hid (HX.out.next (below_new w1 (.cells #[] 3)))
    go_wp2_with fail
    go_ret2
    exact owns_VB HR.out HO.out HX2.out.below
  · cases hq : placeB n g p
    · have HR := Lib.hid (visR_no (n := n) (g := g) (xss := xss) (p := p) (fun h => by rw [hq] at h; cases h.2))
      have HP := Lib.hid hp
      have HQ := Lib.hid hq
      clear hp hq
      generalize visR n g xss p = R at *
      unfold rd at *
      go_enter Try.func55, Try.ntmps55
      go_wp2_with fail
      refine (HGO.out _ _ _ (HV.out.below HX.out.below)).mono ?_
      rintro e w1 ⟨rfl, hb⟩
      have HX := Lib.hid (HX.out.next hb)
      have hx0 := HX.out.c0
      have hx1 := HX.out.c1
      clear hb
      rw [HP.out]
      go_wp2_with fail
      refine (HPL.out _).mono ?_
      rintro e w2 ⟨rfl, hb⟩
      have HX := Lib.hid (HX.out.next hb)
      clear hb hx0 hx1
      rw [HQ.out]
      have HO := Lib.hid (made_at w2 w.heap.size w2.heap.size rfl (Nat.le_of_lt HX.out.size))
      have HX2 := Lib.hid (HX.out.next (below_new w2 (.cells #[] 3)))
      go_wp2_with fail
      go_ret2
      exact owns_VB HR.out HO.out HX2.out.below
    · have hpx := (patD_iff n g xss).1 hp
      obtain ⟨L, hL1, hL60, hL0, hrx⟩ := pat_rows hpx
      have HR := Lib.hid (visR_yes hp hq hL0)
      have HT := Lib.hid (fun v w hv => l5Times_any v xss L p w hv (fun j xs h => (hrx j xs h).1) ⟨hL1, hL60⟩ ⟨hpx.1, hpx.2.1⟩)
      have HP := Lib.hid hp
      have HQ := Lib.hid hq
      clear hp hq hpx hrx hL0
      generalize visR n g xss p = R at *
      unfold rd at *
      go_enter Try.func55, Try.ntmps55
      go_wp2_with fail
      refine (HGO.out _ _ _ (HV.out.below HX.out.below)).mono ?_
      rintro e w1 ⟨rfl, hb⟩
      have HX := Lib.hid (HX.out.next hb)
      have hx0 := HX.out.c0
      have hx1 := HX.out.c1
      clear hb
      rw [HP.out]
      go_wp2_with fail
      refine (HPL.out _).mono ?_
      rintro e w2 ⟨rfl, hb⟩
      have HX := Lib.hid (HX.out.next hb)
      clear hb hx0 hx1
      rw [HQ.out]
      go_wp2_with fail
      refine (HT.out _ _ (HV.out.below HX.out.below)).mono ?_
      rintro e w3 ⟨z, rfl, ho, hb⟩
      have HO := Lib.hid (row_lower ho (Nat.le_of_lt HX.out.size))
      have HX := Lib.hid (HX.out.next hb)
      clear ho hb
      go_wp2_with fail
      go_ret2
      exact owns_VB HR.out HO.out HX.out.below
end Go.Proofs.Ytijhbhjapcfddaa
