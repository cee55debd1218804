/-
  What is proved: the contract of the program's PauseOf. Conditions: tables that read as lists of lists of numbers, of at most 1048576 numbers.
-/
import Derived.Test.YtijhbhjapcfddaaVtm
namespace Go.Proofs.Ytijhbhjapcfddaa
open Go.RowKit
set_option linter.unusedVariables false
set_option linter.unusedSimpArgs false

theorem maxTo_row (f : Nat → Int) (N : Nat) : ∀ k, k ≤ N → maxTo 0 (rowF f N) k = mostV f k
  | 0, _ => rfl
  | k + 1, h => by
    have ih := maxTo_row f N k (by omega)
    show max (maxTo 0 (rowF f N) k) ((rowF f N).getD k 0) = max (mostV f k) (f k)
    rw [ih]
    simp [List.getD, rowF_at f N k (by omega)]
theorem pause_grt (n : Int) (g : Bool) (xss : List (List Int)) : grtR (idleR n g xss).1 (idleR n g xss).2 = pauR n g xss := by
  cases hp : patD n g xss
  · rw [idleR_no hp, pauR_no hp]
    exact grtR_no
  · have hpx := (patD_iff n g xss).1 hp
    obtain ⟨L, hL1, hL60, hL0, hrx⟩ := pat_rows hpx
    have hrr := (roadB_iff n g).1 hpx.2.2.2
    obtain ⟨N, rfl⟩ : ∃ N : Nat, n = N := ⟨n.toNat, by omega⟩
    rw [idleR_yes hp hL0]
    have hge : ∀ x ∈ rowF (idlF xss L) N, -1 ≤ x := by
      intro x hx
      obtain ⟨k, hk, he⟩ := List.getElem_of_mem hx
      have hk2 : k < N := by rw [rowF_len] at hk; exact hk
      have h1 := rowF_at (idlF xss L) N k hk2
      rw [List.getElem?_eq_getElem hk, he] at h1
      have h2 := idleV_in (ts := timV xss k L) (fun j x h => timV_in j x h) hL60
      have h3 := Option.some.inj h1
      rw [h3]
      exact h2.1
    cases ha : allV (idlF xss L) N
    · rw [pauR_neg hL0 ha]
      refine grtR_neg ?_
      have hex : ¬ ∀ j, j < N → 0 ≤ idlF xss L j := fun h => by rw [(allV_iff _ N).2 h] at ha; cases ha
      have : ∃ j, j < N ∧ idlF xss L j < 0 := Classical.byContradiction fun h => hex fun j hj => Classical.byContradiction fun h2 => h ⟨j, hj, by omega⟩
      obtain ⟨j, hj, hneg⟩ := this
      have hm := List.mem_of_getElem? (rowF_at (idlF xss L) N j hj)
      have := hge _ hm
      have e : idlF xss L j = -1 := by omega
      rw [e] at hm
      exact hm
    · rw [pauR_yes hp hL0 ha]
      have hall := (allV_iff _ N).1 ha
      have e := grtR_yes (xs := rowF (idlF xss L) N) (fun hm => by
        obtain ⟨k, hk, he⟩ := List.getElem_of_mem hm
        have hk2 : k < N := by rw [rowF_len] at hk; exact hk
        have h1 := rowF_at (idlF xss L) N k hk2
        rw [List.getElem?_eq_getElem hk, he] at h1
        have := Option.some.inj h1
        have := hall k hk2
        omega) hge (by rw [rowF_len]; omega)
      rw [rowF_len, maxTo_row _ N N (Nat.le_refl _)] at e
      exact e
set_option maxHeartbeats 800000 in
theorem impl_PauseOf (n : Int) (g : Bool) (v : Value) (xss : List (List Int)) (w : World) (hv : ReadsL w v xss) (hl : sizeT xss ≤ 1048576) :
    Calls Try.prog 60 #[rd n g, v] w fun e w' => e = .returned (.tuple #[.int .i64 (pauR n g xss).1, .bool (pauR n g xss).2]) ∧ Below w.heap.size w w' := by
  have HFV := Lib.hid (fun w hv => impl_IdleTimes n g v xss w hv hl)
  have HGR := Lib.hid (fun v w hv hl => greatest_any v (idleR n g xss).1 (idleR n g xss).2 w hv hl)
  have HX0 := Lib.hid (Boxed.first w n g 27)
  have HVB := Lib.hid (hv.below (below_new w (.cells #[.int .i64 n, .bool g] 27)))
  have HEQ := Lib.hid (pause_grt n g xss)
  have HLN := Lib.hid (idleR_len n g xss)
  have HL1 : Hid ((idleR n g xss).2 = true → 1 ≤ (idleR n g xss).1.length) := Lib.hid (by
    cases hp : patD n g xss
    · rw [idleR_no hp]
      intro h
      cases h
    · have hpx := (patD_iff n g xss).1 hp
      obtain ⟨L, _, _, hL0, _⟩ := pat_rows hpx
      have hrr := (roadB_iff n g).1 hpx.2.2.2
      obtain ⟨N, rfl⟩ : ∃ N : Nat, n = N := ⟨n.toNat, by omega⟩
      rw [idleR_yes hp hL0]
      intro _
      show 1 ≤ (rowF (idlF xss L) N).length
      rw [rowF_len]
      omega)
  clear hv
  generalize idleR n g xss = R at *
  obtain ⟨zs, b⟩ := R
  unfold rd at *
  go_enter Try.func60, Try.ntmps60
  go_wp2_with fail
  refine (HFV.out _ HVB.out).mono ?_
  rintro e w1 ⟨u, rfl, ho, hb⟩
  have HX := Lib.hid (HX0.out.next hb)
  have HO := Lib.hid ho
  clear hb HX0 ho
  go_wp2_with fail
  refine (HGR.out u _ (owns_reads HO.out (by have h9 := HLN.out; unfold maxLen; omega)) HL1.out).mono ?_
  rintro e w2 ⟨rfl, rfl⟩
  go_wp2_with fail
  go_ret2
  exact ⟨ret_R HEQ.out.symm, HX.out.below⟩
end Go.Proofs.Ytijhbhjapcfddaa
