/-
  What is proved: how a wire among the arguments of a law is opened. Conditions: none.
-/
import Derived.Test.YthbmiigndhoopaaFrm
import Derived.Test.YthbmiigndhoopaaLwa
namespace Go.Proofs.Ythbmiigndhoopaa
open Go.ChangeShapes Go.WideShapes Go.ChangeAt Go.RowKit
set_option linter.unusedVariables false

theorem cells_intsX {H : Type} {enc : TypeId × Value → H} {W : World} {base : Nat} {spare : Nat → Bool} {held : Bool} {c : Value} {y : DataW H × List MemPlace} {n : Nat} (hspare : ∀ b, spare b = true)
    (hf : DataW.trod enc Try.prog W base spare held n 22 [c] = some y) : ∃ xs, ReadsI W c xs := by
  rcases open_ints Try.underlying22 Try.underlying3 cellsInt hf with ⟨hcs, _⟩ | ⟨x, len0, cap0, zs, hcs, _, hl, hm, hz, _, hcell, _⟩
  · simp at hcs
    subst hcs
    exact ⟨[], none, 0, rfl, Nat.le_refl _, by simp, fun j x hj => by simp at hj⟩
  · simp at hcs
    subst hcs
    rw [hspare, if_pos rfl] at hz
    have hlen : (zs.take len0).length = len0 := by rw [List.length_take]; omega
    refine ⟨zs.take len0, some x, cap0, by rw [hlen], by omega, by omega, fun j y hj => ?_⟩
    obtain ⟨hj2, hy⟩ := List.getElem?_eq_some_iff.1 hj
    have hjl : j < zs.length := by omega
    have hc := hcell j hjl
    have hy2 : zs.getD j 0 = y := by
      rw [← hy, List.getElem_take]
      simp [List.getD, List.getElem?_eq_getElem hjl]
    rw [hy2] at hc
    obtain ⟨b, o, sp⟩ := x
    have hsp : sp = none := by
      have := World.cell?_spot (hcell 0 (by omega))
      simpa [Addr.add] using this
    subst hsp
    have ha : (⟨b, o, none⟩ : Addr).add j = ⟨b, o + j, none⟩ := by
      unfold Addr.add
      by_cases h : j = 0 <;> simp [h]
    rw [ha] at hc
    exact ⟨b, o, rfl, World.block_lt_of_cell? _ _ hc, hc⟩
theorem open_struct3 {H : Type} {enc : TypeId × Value → H} {W : World} {base : Nat} {spare : Nat → Bool} {held : Bool} {t : TypeId} {f0 f1 f2 : Field} {fuel : Nat} {cs : List Value} {x : DataW H × List MemPlace} (ht : Try.prog.underlying t = some (.struct #[f0, f1, f2])) (h : DataW.trod enc Try.prog W base spare held fuel t cs = some x) :
    ∃ y0 y1 y2 n, DataW.trod enc Try.prog W base spare held n f0.type ((cs.drop f0.offset).take (Try.prog.cellsOf f0.type)) = some y0 ∧
      DataW.trod enc Try.prog W base spare held n f1.type ((cs.drop f1.offset).take (Try.prog.cellsOf f1.type)) = some y1 ∧ DataW.trod enc Try.prog W base spare held n f2.type ((cs.drop f2.offset).take (Try.prog.cellsOf f2.type)) = some y2 := by
  obtain ⟨xs, n, _, rfl, hl, hlen, hf⟩ := DataW.trod_struct ht h
  match xs, hlen with
  | [y0, y1, y2], _ => exact ⟨y0, y1, y2, n, by simpa using hf 0 f0 rfl, by simpa using hf 1 f1 rfl, by simpa using hf 2 f2 rfl⟩
theorem cellsWire : Try.prog.cellsOf 36 = 3 := by kernel_rfl
theorem cellsIntsX : Try.prog.cellsOf 22 = 1 := by kernel_rfl
set_option maxRecDepth 100000 in
theorem open_wrcells {H : Type} {enc : TypeId × Value → H} {W : World} {base : Nat} {spare : Nat → Bool} {held : Bool} {c0 c1 c2 : Value} {y : DataW H × List MemPlace} {fuel : Nat} (hspare : ∀ b, spare b = true)
    (hf : DataW.trod enc Try.prog W base spare held fuel 36 [c0, c1, c2] = some y) : ∃ L ps ds, c0 = .int .i64 L ∧ ReadsI W c1 ps ∧ ReadsI W c2 ds := by
  obtain ⟨y0, y1, y2, m, hy0, hy1, hy2⟩ := open_struct3 Try.underlying36 hf
  obtain ⟨a0, e0, rfl, _⟩ := DataW.trod_int Try.underlying3 hy0
  simp [cellsInt] at e0
  have hy1' : DataW.trod enc Try.prog W base spare held m 22 [c1] = some y1 := by simpa [cellsIntsX] using hy1
  have hy2' : DataW.trod enc Try.prog W base spare held m 22 [c2] = some y2 := by simpa [cellsIntsX] using hy2
  obtain ⟨ps, hr1⟩ := cells_intsX hspare hy1'
  obtain ⟨ds, hr2⟩ := cells_intsX hspare hy2'
  exact ⟨a0, ps, ds, e0, hr1, hr2⟩
set_option maxRecDepth 100000 in
theorem open_wire {H : Type} {enc : TypeId × Value → H} {W : World} {base : Nat} {spare : Nat → Bool} {held : Bool} {b0 : Nat} {r : Reach} {v : Value} {d : DataW H} {ps : List MemPlace} (hspare : ∀ b, spare b = true)
    (hval : Value.okWide Try.prog W r b0 36 v) (hd : DataW.Trod enc Try.prog W base spare held 36 v d ps) : ∃ L vp vd xp xd, v = wrV L vp vd ∧ ReadsI W vp xp ∧ ReadsI W vd xd := by
  obtain ⟨cs, rfl, hsz⟩ := okWide_struct Try.underlying36 hval
  rw [cellsWire] at hsz
  obtain ⟨l⟩ := cs
  match l, hsz with
  | [c0, c1, c2], _ =>
  obtain ⟨fuel, hf⟩ := hd
  obtain ⟨L, xp, xd, h0, h1, h2⟩ := open_wrcells hspare hf
  exact ⟨L, c1, c2, xp, xd, by rw [h0], h1, h2⟩
end Go.Proofs.Ythbmiigndhoopaa
