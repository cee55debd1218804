/-
  What is proved: the contract of spec.TakenRuns. Conditions: lists that read as lists of numbers.
-/
import Derived.Test.YtijhbhjapcfddaaExq
namespace Go.Proofs.Ytijhbhjapcfddaa
open Go.RowKit
set_option linter.unusedVariables false
set_option linter.unusedSimpArgs false

set_option maxHeartbeats 1600000 in
set_option maxRecDepth 20000 in
theorem spec_TakenRuns (n : Int) (g : Bool) (v1 v2 : Value) (ss bs : List Int) (x : Int) (v3 : Value) (os : List Int) (back : Bool) (w : World) (h1 : ReadsI w v1 ss) (h2 : ReadsI w v2 bs) (h3 : ReadsI w v3 os) :
    Calls Try.prog 34 #[rd n g, v1, v2, .int .i64 x, v3, .bool back] w (OwnsB w.heap.size (takenR n g ss bs x os back).1 (takenR n g ss bs x os back).2 w) := by
  have HBU := Lib.hid (fun w h1 h2 => l6Budgets_any n g v1 v2 ss bs w h1 h2)
  have HPL := Lib.hid (fun w => l2Place_any n g x w)
  have HOR := Lib.hid (fun K w hv hK => l6Order_any v3 os K w hv hK)
  have HTK := Lib.hid (fun w h1 h2 h3 hb hx hg ho => l6Taken_any n g v1 v2 v3 ss bs os x back w h1 h2 h3 hb hx hg ho)
  have HX := Lib.hid (Boxed.first w n g 27)
  have HV1 := Lib.hid h1
  have HV2 := Lib.hid h2
  have HV3 := Lib.hid h3
  obtain ⟨y1, c1, hv1, _, hm1, _⟩ := h1
  obtain ⟨y3, c3, hv3, _, hm3, _⟩ := h3
  subst hv1 hv3
  unfold maxLen at hm1 hm3
  unfold rd at *
  go_enter Try.func34, Try.ntmps34
  go_wp2_with fail
  refine (HBU.out _ (HV1.out.below HX.out.below) (HV2.out.below HX.out.below)).mono ?_
  rintro e w1 ⟨rfl, hb⟩
  have HX := Lib.hid (HX.out.next hb)
  have h0 := HX.out.c0
  have h1 := HX.out.c1
  clear hb
  cases hbu : budB n g ss bs
  · have HR := Lib.hid (takenR_no (n := n) (g := g) (ss := ss) (bs := bs) (x := x) (os := os) (back := back) (fun h => by rw [hbu] at h; cases h.1))
    clear hbu
    have HO := Lib.hid (made_at w1 w.heap.size w1.heap.size rfl (Nat.le_of_lt HX.out.size))
    have HX2 := Lib.hid (HX.out.next (below_new w1 (.cells #[] 3)))
    go_wp2_with fail
    go_ret2
    exact owns_R HR.out ⟨_, rfl, HO.out, HX2.out.below⟩
  · have HBB := Lib.hid hbu
    have hss := (startsB_iff n g ss).1 ((budB_iff n g ss bs).1 hbu).1
    have hsl := hss.2.2.1
    have HROAD := Lib.hid hss.1
    clear hbu hss
    go_wp2_with fail
    refine (HPL.out _).mono ?_
    rintro e w2 ⟨rfl, hb⟩
    have HX := Lib.hid (HX.out.next hb)
    clear hb h0 h1
    have h0 := HX.out.c0
    have h1 := HX.out.c1
    cases hp : placeB n g x
    · have HR := Lib.hid (takenR_no (n := n) (g := g) (ss := ss) (bs := bs) (x := x) (os := os) (back := back) (fun h => by rw [(placeB_iff n g x).2 ⟨HROAD.out, h.2.1.1⟩] at hp; cases hp))
      clear hp
      have HO := Lib.hid (made_at w2 w.heap.size w2.heap.size rfl (Nat.le_of_lt HX.out.size))
      have HX2 := Lib.hid (HX.out.next (below_new w2 (.cells #[] 3)))
      go_wp2_with fail
      go_ret2
      exact owns_R HR.out ⟨_, rfl, HO.out, HX2.out.below⟩
    · have HPX := Lib.hid ((placeB_iff n g x).1 hp).2
      clear hp
      by_cases hgx : g = true ∨ x = 0
      · have HT2 := Lib.hid (fun w h1 h2 h3 ho => HTK.out w h1 h2 h3 HBB.out HPX.out hgx ho)
        have HRN := Lib.hid (fun (ho : ordB os ss.length = false) => takenR_no (n := n) (g := g) (ss := ss) (bs := bs) (x := x) (os := os) (back := back) (fun h => by rw [ho] at h; cases h.2.2))
        have HRY := Lib.hid (fun (ho : ordB os ss.length = true) => takenR_yes (n := n) (g := g) (ss := ss) (bs := bs) (x := x) (os := os) (back := back) ⟨HBB.out, ⟨HPX.out, hgx⟩, ho⟩)
        have hcase : (g = true) ∨ (g = false ∧ x = 0) := by
          cases g
          · rcases hgx with h | h
            · cases h
            · exact .inr ⟨rfl, h⟩
          · exact .inl rfl
        clear hgx HTK
        have hsn : ss.length ≤ 1000 := by omega
        rcases hcase with rfl | ⟨rfl, hx0⟩
        · go_wp2_with fail
          refine (HOR.out ss.length _ (HV3.out.below HX.out.below) hsn).mono ?_
          rintro e w3 ⟨rfl, rfl⟩
          cases ho : ordB os ss.length
          · have HR := Lib.hid (HRN.out ho)
            clear ho
            have HO := Lib.hid (made_at w3 w.heap.size w3.heap.size rfl (Nat.le_of_lt HX.out.size))
            have HX2 := Lib.hid (HX.out.next (below_new w3 (.cells #[] 3)))
            go_wp2_with fail
            go_ret2
            exact owns_R HR.out ⟨_, rfl, HO.out, HX2.out.below⟩
          · have HR := Lib.hid (HRY.out ho)
            have HLN := Lib.hid (tkS_range n true ss bs x os back os.length).2
            have HOO := Lib.hid ho
            clear ho
            go_wp2_with fail
            refine (HT2.out _ (HV1.out.below HX.out.below) (HV2.out.below HX.out.below) (HV3.out.below HX.out.below) HOO.out).mono ?_
            rintro e w4 ⟨u, rfl, ho, hb⟩
            have HO := Lib.hid (owns_lower ho (Nat.le_of_lt HX.out.size))
            have HX := Lib.hid (HX.out.next hb)
            clear hb ho h0 h1
            go_wp2_with fail
            go_ret2
            exact owns_R HR.out ⟨_, rfl, by rw [HLN.out]; exact HO.out, HX.out.below⟩
        · subst hx0
          go_wp2_with fail
          refine (HOR.out ss.length _ (HV3.out.below HX.out.below) hsn).mono ?_
          rintro e w3 ⟨rfl, rfl⟩
          cases ho : ordB os ss.length
          · have HR := Lib.hid (HRN.out ho)
            clear ho
            have HO := Lib.hid (made_at w3 w.heap.size w3.heap.size rfl (Nat.le_of_lt HX.out.size))
            have HX2 := Lib.hid (HX.out.next (below_new w3 (.cells #[] 3)))
            go_wp2_with fail
            go_ret2
            exact owns_R HR.out ⟨_, rfl, HO.out, HX2.out.below⟩
          · have HR := Lib.hid (HRY.out ho)
            have HLN := Lib.hid (tkS_range n false ss bs 0 os back os.length).2
            have HOO := Lib.hid ho
            clear ho
            go_wp2_with fail
            refine (HT2.out _ (HV1.out.below HX.out.below) (HV2.out.below HX.out.below) (HV3.out.below HX.out.below) HOO.out).mono ?_
            rintro e w4 ⟨u, rfl, ho, hb⟩
            have HO := Lib.hid (owns_lower ho (Nat.le_of_lt HX.out.size))
            have HX := Lib.hid (HX.out.next hb)
            clear hb ho h0 h1
            go_wp2_with fail
            go_ret2
            exact owns_R HR.out ⟨_, rfl, by rw [HLN.out]; exact HO.out, HX.out.below⟩
      · have HR := Lib.hid (takenR_no (n := n) (g := g) (ss := ss) (bs := bs) (x := x) (os := os) (back := back) (fun h => hgx h.2.1.2))
        have hg : g = false := by cases g; rfl; exact absurd (Or.inl rfl) hgx
        subst hg
        have hx0 : ¬ x = 0 := fun h => hgx (Or.inr h)
        have hx0b : (x != 0) = true := by rw [bne_iff_ne]; exact hx0
        have hx0c : (x == 0) = false := by rw [beq_eq_false_iff_ne]; exact hx0
        clear hgx
        have HO := Lib.hid (made_at w2 w.heap.size w2.heap.size rfl (Nat.le_of_lt HX.out.size))
        have HX2 := Lib.hid (HX.out.next (below_new w2 (.cells #[] 3)))
        go_wp2_with fail
        go_ret2
        exact owns_R HR.out ⟨_, rfl, HO.out, HX2.out.below⟩
end Go.Proofs.Ytijhbhjapcfddaa
