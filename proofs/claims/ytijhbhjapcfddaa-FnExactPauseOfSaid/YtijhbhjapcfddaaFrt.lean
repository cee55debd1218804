/-
  What is proved: how a table among the arguments of a law is opened. Conditions: none.
-/
import Derived.Test.YtijhbhjapcfddaaFrm
import Derived.Deep.Matrix
namespace Go.Proofs.Ytijhbhjapcfddaa
open Go.ChangeShapes Go.WideShapes Go.ChangeAt Go.RowKit
set_option linter.unusedVariables false

theorem cellsInts : Try.prog.cellsOf 24 = 1 := by kernel_rfl
theorem add_none {x : Addr} {j : Nat} (h : x.spot = none) : x.add j = ⟨x.block, x.off + j, none⟩ := by
  obtain ⟨b, o, sp⟩ := x
  cases h
  unfold Addr.add
  by_cases h : j = 0 <;> simp [h]
theorem spot_zero {w : World} {x : Addr} {v : Value} (h : w.cell? (x.add 0) = some v) : x.spot = none := by
  obtain ⟨b, o, sp⟩ := x
  have := World.cell?_spot h
  simpa [Addr.add] using this
set_option maxRecDepth 100000 in
theorem open_table {H : Type} {enc : TypeId × Value → H} {W : World} {base : Nat} {held : Bool} {b0 : Nat} {r : Reach} {v : Value} {d : DataW H} {ps : List MemPlace}
    (hval : Value.okWide Try.prog W r b0 47 v) (hd : DataW.Trod enc Try.prog W base (fun _ => true) held 47 v d ps) : ∃ xss, ReadsL W v xss := by
  obtain ⟨a0, len0, cap0, rfl⟩ := okWide_slice Try.underlying47 hval
  obtain ⟨fuel, hf⟩ := hd
  rcases Go.Deep.open_int_rows Try.underlying47 Try.underlying24 Try.underlying3 cellsInts cellsInt hf with ⟨hcs, _⟩ | ⟨a, len, cap, A, L, C, Z, hcs, _, hl, hm, _, hx⟩
  · simp [Value.cells] at hcs
    obtain ⟨rfl, rfl, rfl⟩ := hcs
    exact ⟨[], none, 0, rfl, Nat.le_refl _, by simp, fun j x hj => by simp at hj⟩
  · simp [Value.cells] at hcs
    obtain ⟨rfl, rfl, rfl⟩ := hcs
    refine ⟨(List.range len0).map fun j => (Z j).take (L j), some a, cap0, by simp, by simpa using hl, by simp; omega, fun j xs hj => ?_⟩
    have hjl : j < len0 := by
      have := (List.getElem?_eq_some_iff.1 hj).1
      simpa using this
    have hxs : xs = (Z j).take (L j) := by
      simp [hjl] at hj
      exact hj.symm
    obtain ⟨hcell, hlc, hcm, hzl, _, hnil, hrow⟩ := hx j (by omega)
    have hsp := spot_zero (hx 0 (by omega)).1
    rw [add_none hsp] at hcell
    have hbk := World.block_lt_of_cell? _ _ hcell
    refine ⟨a.block, a.off, .slice (A j) (L j) (C j), by obtain ⟨b, o, sp⟩ := a; cases hsp; rfl, hbk, hcell, ?_⟩
    have hlen : xs.length = L j := by rw [hxs, List.length_take]; omega
    refine ⟨A j, C j, by rw [hlen], by omega, by omega, fun i x hi => ?_⟩
    have hil : i < L j := by have := (List.getElem?_eq_some_iff.1 hi).1; omega
    cases hA : A j with
    | none =>
      have := hnil hA
      omega
    | some a' =>
      have hcs := (hrow a' hA).2
      have hsp2 := spot_zero (hcs 0 (by omega))
      have hci := hcs i (by omega)
      rw [add_none hsp2] at hci
      have hx2 : (Z j).getD i 0 = x := by
        rw [hxs, List.getElem?_take, if_pos hil] at hi
        simp [List.getD, hi]
      rw [hx2] at hci
      have hbk2 := World.block_lt_of_cell? _ _ hci
      exact ⟨a'.block, a'.off, by obtain ⟨b, o, sp⟩ := a'; cases hsp2; rfl, hbk2, hci⟩
end Go.Proofs.Ytijhbhjapcfddaa
