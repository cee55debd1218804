/-
  What is proved: the contracts of the model's words on runs that are taken: l1Has, l6Budgets, l6Order, l6Taken, TakenRuns. Conditions: lists that read as lists of numbers.
-/
import Derived.Test.YtgchodielkodeaaExn
import Derived.Test.YtgchodielkodeaaFn5
namespace Go.Proofs.Ytgchodielkodeaa
open Go.RowKit
set_option linter.unusedVariables false
set_option linter.unusedSimpArgs false

set_option maxHeartbeats 400000 in
theorem l1Has_any (v : Value) (xs : List Int) (p : Int) (w : World) (hv : ReadsI w v xs) :
    Calls Try.prog 114 #[v, .int .i64 p] w fun e w' => e = .returned (.bool (xs.contains p)) ∧ w' = w := by
  obtain ⟨y, c, rfl, hc, hm, hx⟩ := hv
  unfold maxLen at hm
  have HL := Lib.hid hx
  clear hx
  go_enter Try.func114, Try.ntmps114
  go_wp2
  go_loop [4, 5] (fun r i => r = .bool false ∧ ∃ k : Nat, k ≤ xs.length ∧ i = .int .i64 k ∧ ∀ (j : Nat) x, j < k → xs[j]? = some x → x ≠ p) (fun _ i => xs.length - (intOf i).toNat)
  case atStart => exact ⟨rfl, 0, Nat.zero_le _, rfl, fun j x hj => by omega⟩
  case round =>
    obtain ⟨rfl, k, hk, rfl, hpre⟩ := hrel
    have HP := Lib.hid hpre
    clear hpre
    by_cases hlt : k < xs.length
    · obtain ⟨x, hxk⟩ := get_some hlt
      obtain ⟨b, o, rfl, hbl, hcell⟩ := HL.out k x hxk
      have HK := Lib.hid hxk
      have hi0 : 0 ≤ (k : Int) := by omega
      have hi1 : (k : Int) < xs.length := by omega
      clear hxk
      by_cases hp : x = p
      · have hpb : (x == p) = true := by rw [hp]; simp
        have HR := Lib.hid (show xs.contains p = true by rw [← hp]; simpa using List.mem_of_getElem? HK.out)
        clear hp
        go_wp2_with fail
        go_ret
        exact ⟨ret_bool (by have h := HR.out; simp at h; simp [h]), rfl⟩
      · have hpb : (x == p) = false := by rw [beq_eq_false_iff_ne]; exact hp
        have HPX := Lib.hid hp
        clear hp
        go_wp2_with fail
        go_round
        case rel =>
          refine ⟨rfl, k + 1, by omega, by go_num, fun j z hj hz => ?_⟩
          by_cases e : j = k
          · subst e
            rw [HK.out] at hz
            cases hz
            exact HPX.out
          · exact HP.out j z (by omega) hz
        case measure => simp [intOf]; omega
    · have HR := Lib.hid (show xs.contains p = false by
        cases hc : xs.contains p
        · rfl
        · have hm : p ∈ xs := by simpa using hc
          obtain ⟨j, hj⟩ := List.getElem?_of_mem hm
          exact absurd rfl (HP.out j p (by have := (List.getElem?_eq_some_iff.1 hj).1; omega) hj))
      go_wp2_with fail
      go_ret
      exact ⟨ret_bool (by have h := HR.out; simp at h; simp [h]), rfl⟩
set_option maxHeartbeats 800000 in
theorem l6Budgets_any (n : Int) (g : Bool) (v1 v2 : Value) (ss bs : List Int) (w : World) (h1 : ReadsI w v1 ss) (h2 : ReadsI w v2 bs) :
    Calls Try.prog 103 #[rd n g, v1, v2] w fun e w' => e = .returned (.bool (budB n g ss bs)) ∧ Below w.heap.size w w' := by
  have HS := Lib.hid (fun w hv => l6Starts_any n g v1 ss w hv)
  have HI := Lib.hid (fun x w => inB_any x 0 99 w)
  have HX := Lib.hid (Boxed.first w n g 28)
  have HV1 := Lib.hid h1
  obtain ⟨y1, c1, hvv1, hc1, hm1, hx1⟩ := h1
  subst hvv1
  obtain ⟨y, c, hvv, hc, hm, hx⟩ := h2
  subst hvv
  unfold maxLen at hm hm1
  have HL := Lib.hid hx
  clear hx hx1
  unfold rd at *
  go_enter Try.func103, Try.ntmps103
  go_wp2_with fail
  go_loop [6, 7] (fun r i => r = .bool false ∧ ∃ k : Nat, k ≤ bs.length ∧ i = .int .i64 k ∧ ∀ (j : Nat) x, j < k → bs[j]? = some x → 0 ≤ x ∧ x ≤ 99) (fun _ i => bs.length - (intOf i).toNat)
  case atStart => exact ⟨rfl, 0, Nat.zero_le _, rfl, fun j x hj => by omega⟩
  case round =>
    obtain ⟨rfl, k, hk, rfl, hpre⟩ := hrel
    have HP := Lib.hid hpre
    clear hpre
    by_cases hlt : k < bs.length
    · obtain ⟨x, hxk⟩ := get_some hlt
      obtain ⟨b, o, rfl, hbl, hcell0⟩ := HL.out k x hxk
      have hcell : (w.alloc (.cells #[.int .i64 n, .bool g] 28)).cell? ⟨b, o + k, none⟩ = some (.int .i64 x) := (HX.out.below.cell (p := ⟨b, o + k, none⟩) hbl).trans hcell0
      have HK := Lib.hid hxk
      have hi0 : 0 ≤ (k : Int) := by omega
      have hi1 : (k : Int) < bs.length := by omega
      clear hxk hcell0
      go_wp2_with fail
      refine (HI.out _ _).mono ?_
      rintro e w1 ⟨rfl, rfl⟩
      cases hb : inB 0 99 x
      · have HR := Lib.hid (budB_no (n := n) (g := g) (ss := ss) (bs := bs) (fun h => by
          have h3 := ((withB_iff 4 0 99 bs).1 h.2.1).2.2 k x HK.out
          rw [(inB_iff 0 99 x).2 h3] at hb
          cases hb))
        clear hb
        go_wp2_with fail
        go_ret
        exact ⟨ret_bool HR.out.symm, HX.out.below⟩
      · have HN := Lib.hid ((inB_iff 0 99 x).1 hb)
        clear hb
        go_wp2_with fail
        go_round
        case rel =>
          refine ⟨rfl, k + 1, by omega, by go_num, fun j z hj hz => ?_⟩
          by_cases e : j = k
          · subst e
            rw [HK.out] at hz
            cases hz
            exact HN.out
          · exact HP.out j z (by omega) hz
        case measure => simp [intOf]; omega
    · have hke : k = bs.length := by omega
      have HPA := Lib.hid (fun j x hx => HP.out j x (by have := (List.getElem?_eq_some_iff.1 hx).1; omega) hx)
      clear hke
      go_wp2_with fail
      refine (HS.out _ (HV1.out.below HX.out.below)).mono ?_
      rintro e w2 ⟨rfl, hb⟩
      have HX := Lib.hid (HX.out.next hb)
      clear hb
      cases hs : startsB n g ss
      · have HR := Lib.hid (budB_no (n := n) (g := g) (ss := ss) (bs := bs) (fun h => by rw [hs] at h; cases h.1))
        clear hs
        go_wp2_with fail
        go_ret
        exact ⟨ret_bool HR.out.symm, HX.out.below⟩
      · have hss := (startsB_iff n g ss).1 hs
        by_cases hl : bs.length = ss.length
        · have HR := Lib.hid ((budB_iff n g ss bs).2 ⟨hs, (withB_iff 4 0 99 bs).2 ⟨by omega, by omega, HPA.out⟩, hl⟩)
          have hb : ((bs.length : Int) == (ss.length : Int)) = true := by rw [hl]; simp
          clear hl hs hss
          go_wp2_with fail
          go_ret
          exact ⟨ret_bool (by rw [HR.out] <;> first | rfl | exact hb), HX.out.below⟩
        · have HR := Lib.hid (budB_no (n := n) (g := g) (ss := ss) (bs := bs) (fun h => hl h.2.2))
          have hb : ((bs.length : Int) == (ss.length : Int)) = false := by rw [beq_eq_false_iff_ne]; omega
          clear hl hs hss
          go_wp2_with fail
          go_ret
          exact ⟨ret_bool (by rw [HR.out] <;> first | rfl | exact hb), HX.out.below⟩
end Go.Proofs.Ytgchodielkodeaa
