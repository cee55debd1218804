/-
  What is proved: how a walker among the arguments of a law is opened. Conditions: none.
-/
import Derived.Test.YtiokgnabiidlbaaDoorFrm
import Derived.Test.YtiokgnabiidlbaaDoorMec
namespace Go.Proofs.YtiokgnabiidlbaaDoor
open Go.ChangeShapes Go.WideShapes Go.ChangeAt Go.RowKit
set_option linter.unusedVariables false

theorem cells_ints {H : Type} {enc : TypeId × Value → H} {W : World} {base : Nat} {spare : Nat → Bool} {held : Bool} {c : Value} {y : DataW H × List MemPlace} {n : Nat} (hspare : ∀ b, spare b = true)
    (hf : DataW.trod enc Tryd.prog W base spare held n 24 [c] = some y) : ∃ xs, ReadsI W c xs := by
  rcases open_ints Tryd.underlying24 Tryd.underlying3 cellsInt hf with ⟨hcs, _⟩ | ⟨x, len0, cap0, zs, hcs, _, hl, hm, hz, _, hcell, _⟩
  · simp at hcs
    subst hcs
    exact ⟨[], none, 0, rfl, Nat.le_refl _, by simp, fun j x hj => by simp at hj⟩
  · simp at hcs
    subst hcs
    rw [hspare, if_pos rfl] at hz
    have hlen : (zs.take len0).length = len0 := by rw [List.length_take]; omega
    refine ⟨zs.take len0, some x, cap0, by rw [hlen], by omega, by omega, fun j y hj => ?_⟩
    obtain ⟨hj2, hy⟩ := List.getElem?_eq_some_iff.1 hj
    have hjl : j < zs.length := by omega
    have hc := hcell j hjl
    have hy2 : zs.getD j 0 = y := by
      rw [← hy, List.getElem_take]
      simp [List.getD, List.getElem?_eq_getElem hjl]
    rw [hy2] at hc
    obtain ⟨b, o, sp⟩ := x
    have hsp : sp = none := by
      have := World.cell?_spot (hcell 0 (by omega))
      simpa [Addr.add] using this
    subst hsp
    have ha : (⟨b, o, none⟩ : Addr).add j = ⟨b, o + j, none⟩ := by
      unfold Addr.add
      by_cases h : j = 0 <;> simp [h]
    rw [ha] at hc
    exact ⟨b, o, rfl, World.block_lt_of_cell? _ _ hc, hc⟩
theorem open_struct4 {H : Type} {enc : TypeId × Value → H} {W : World} {base : Nat} {spare : Nat → Bool} {held : Bool} {t : TypeId} {f0 f1 f2 f3 : Field} {fuel : Nat} {cs : List Value} {x : DataW H × List MemPlace} (ht : Tryd.prog.underlying t = some (.struct #[f0, f1, f2, f3])) (h : DataW.trod enc Tryd.prog W base spare held fuel t cs = some x) :
    ∃ y0 y1 y2 y3 n, DataW.trod enc Tryd.prog W base spare held n f0.type ((cs.drop f0.offset).take (Tryd.prog.cellsOf f0.type)) = some y0 ∧
      DataW.trod enc Tryd.prog W base spare held n f1.type ((cs.drop f1.offset).take (Tryd.prog.cellsOf f1.type)) = some y1 ∧ DataW.trod enc Tryd.prog W base spare held n f2.type ((cs.drop f2.offset).take (Tryd.prog.cellsOf f2.type)) = some y2 ∧
      DataW.trod enc Tryd.prog W base spare held n f3.type ((cs.drop f3.offset).take (Tryd.prog.cellsOf f3.type)) = some y3 := by
  obtain ⟨xs, n, _, rfl, hl, hlen, hf⟩ := DataW.trod_struct ht h
  match xs, hlen with
  | [y0, y1, y2, y3], _ => exact ⟨y0, y1, y2, y3, n, by simpa using hf 0 f0 rfl, by simpa using hf 1 f1 rfl, by simpa using hf 2 f2 rfl, by simpa using hf 3 f3 rfl⟩
theorem cellsWalker : Tryd.prog.cellsOf 26 = 4 := by kernel_rfl
theorem cellsInts : Tryd.prog.cellsOf 24 = 1 := by kernel_rfl
set_option maxRecDepth 100000 in
theorem open_wkcells {H : Type} {enc : TypeId × Value → H} {W : World} {base : Nat} {spare : Nat → Bool} {held : Bool} {c0 c1 c2 c3 : Value} {y : DataW H × List MemPlace} {fuel : Nat} (hspare : ∀ b, spare b = true)
    (hf : DataW.trod enc Tryd.prog W base spare held fuel 26 [c0, c1, c2, c3] = some y) : ∃ k : Wk, c0 = .int .i64 k.s ∧ c1 = .int .i64 k.f ∧ c2 = .int .i64 k.d ∧ ReadsI W c3 k.ms := by
  obtain ⟨y0, y1, y2, y3, m, hy0, hy1, hy2, hy3⟩ := open_struct4 Tryd.underlying26 hf
  obtain ⟨a0, e0, rfl, _⟩ := DataW.trod_int Tryd.underlying3 hy0
  obtain ⟨a1, e1, rfl, _⟩ := DataW.trod_int Tryd.underlying3 hy1
  obtain ⟨a2, e2, rfl, _⟩ := DataW.trod_int Tryd.underlying3 hy2
  simp [cellsInt] at e0 e1 e2
  have hy3' : DataW.trod enc Tryd.prog W base spare held m 24 [c3] = some y3 := by simpa [cellsInts] using hy3
  obtain ⟨xs, hr⟩ := cells_ints hspare hy3'
  exact ⟨⟨a0, a1, a2, xs⟩, e0, e1, e2, hr⟩
set_option maxRecDepth 100000 in
theorem open_walker {H : Type} {enc : TypeId × Value → H} {W : World} {base : Nat} {spare : Nat → Bool} {held : Bool} {b0 : Nat} {r : Reach} {v : Value} {d : DataW H} {ps : List MemPlace} (hspare : ∀ b, spare b = true)
    (hval : Value.okWide Tryd.prog W r b0 26 v) (hd : DataW.Trod enc Tryd.prog W base spare held 26 v d ps) : ∃ k m, v = wkv k m ∧ ReadsI W m k.ms := by
  obtain ⟨cs, rfl, hsz⟩ := okWide_struct Tryd.underlying26 hval
  rw [cellsWalker] at hsz
  obtain ⟨l⟩ := cs
  match l, hsz with
  | [c0, c1, c2, c3], _ =>
  obtain ⟨fuel, hf⟩ := hd
  obtain ⟨k, h0, h1, h2, h3⟩ := open_wkcells hspare hf
  exact ⟨k, c3, by rw [h0, h1, h2]; rfl, h3⟩
end Go.Proofs.YtiokgnabiidlbaaDoor
