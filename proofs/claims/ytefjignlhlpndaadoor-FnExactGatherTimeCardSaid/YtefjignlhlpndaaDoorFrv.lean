/-
  What is proved: how a list of walkers among the arguments of a law is opened. Conditions: none.
-/
import Derived.Test.YtefjignlhlpndaaDoorFrw
import Derived.Test.YtefjignlhlpndaaDoorMed
import Derived.Deep.Slices
namespace Go.Proofs.YtefjignlhlpndaaDoor
open Go.ChangeShapes Go.WideShapes Go.ChangeAt Go.RowKit
set_option linter.unusedVariables false

theorem wadd_none {x : Addr} {j : Nat} (h : x.spot = none) : x.add j = ⟨x.block, x.off + j, none⟩ := by
  obtain ⟨b, o, sp⟩ := x
  cases h
  unfold Addr.add
  by_cases h : j = 0 <;> simp [h]
theorem wspot {w : World} {x : Addr} {v : Value} (h : w.cell? (x.add 0) = some v) : x.spot = none := by
  obtain ⟨b, o, sp⟩ := x
  have := World.cell?_spot h
  simpa [Addr.add] using this
instance : Inhabited Wk := ⟨⟨0, 0, 0, []⟩⟩
set_option maxRecDepth 100000 in
theorem open_walkers {H : Type} {enc : TypeId × Value → H} {W : World} {base : Nat} {held : Bool} {b0 : Nat} {r : Reach} {v : Value} {d : DataW H} {ps : List MemPlace}
    (hval : Value.okWide Tryd.prog W r b0 40 v) (hd : DataW.Trod enc Tryd.prog W base (fun _ => true) held 40 v d ps) : ∃ ks, ReadsW W v ks := by
  obtain ⟨a0, len0, cap0, rfl⟩ := okWide_slice Tryd.underlying40 hval
  obtain ⟨fuel, hf⟩ := hd
  rcases Go.Deep.open_slice Tryd.underlying40 hf with ⟨hcs, _⟩ | ⟨a, len, cap, m, n, D, Pl, hcs, _, hl, hm, hmm, _, hx⟩
  · simp [Value.cells] at hcs
    obtain ⟨rfl, rfl, rfl⟩ := hcs
    exact ⟨[], none, 0, rfl, Nat.le_refl _, by simp, fun j x hj => by simp at hj⟩
  · simp [Value.cells] at hcs
    obtain ⟨rfl, rfl, rfl⟩ := hcs
    have hmc : m = cap0 := by simpa using hmm
    subst hmc
    rw [cellsWalker] at hx
    have key : ∀ i, i < len0 → ∃ k : Wk, ∃ c3, W.cell? (a.add (i * 4)) = some (.int .i64 k.s) ∧ a.spot = none ∧ W.cell? ⟨a.block, a.off + i * 4 + 1, none⟩ = some (.int .i64 k.f) ∧ W.cell? ⟨a.block, a.off + i * 4 + 2, none⟩ = some (.int .i64 k.d) ∧ W.cell? ⟨a.block, a.off + i * 4 + 3, none⟩ = some c3 ∧ ReadsI W c3 k.ms := by
      intro i hi
      obtain ⟨cs', h1, h2⟩ := hx i (by omega)
      obtain ⟨_, hlen, hc⟩ := World.cells?_some h1
      match cs', hlen, h2, hc with
      | [c0, c1, c2, c3], _, h2, hc =>
        obtain ⟨k, e0, e1, e2, e3⟩ := open_wkcells (fun _ => rfl) h2
        have q0 := hc 0 (by omega)
        have q1 := hc 1 (by omega)
        have q2 := hc 2 (by omega)
        have q3 := hc 3 (by omega)
        have hz : (a.add (i * 4)).add 0 = a.add (i * 4) := rfl
        rw [hz] at q0
        have hsp : a.spot = none := by
          obtain ⟨cs0, h01, _⟩ := hx 0 (by omega)
          obtain ⟨_, hl0, hc0⟩ := World.cells?_some h01
          have p0 := hc0 0 (by omega)
          obtain ⟨u0, hu0⟩ : ∃ u, cs0[0]? = some u := ⟨cs0[0]'(by omega), List.getElem?_eq_getElem (by omega)⟩
          rw [hu0, Nat.zero_mul] at p0
          exact wspot (show W.cell? (a.add 0) = some u0 from p0)
        rw [wadd_none hsp] at q1 q2 q3
        rw [wadd_none (x := ⟨a.block, a.off + i * 4, none⟩) rfl] at q1 q2 q3
        refine ⟨k, c3, by rw [← e0]; exact q0, hsp, by rw [← e1]; exact q1, by rw [← e2]; exact q2, q3, e3⟩
    obtain ⟨f, hfk⟩ := Go.Deep.choose_lt (α := Wk) key
    refine ⟨(List.range len0).map f, some a, m, by simp, by simpa using hl, by simp; omega, fun j k hj => ?_⟩
    have hjl : j < len0 := by
      have := (List.getElem?_eq_some_iff.1 hj).1
      simpa using this
    have hk : f j = k := by simpa [hjl] using hj
    subst hk
    obtain ⟨c3, h0, hsp, h1, h2, h3, hr⟩ := hfk j hjl
    rw [wadd_none hsp] at h0
    have hbk := World.block_lt_of_cell? _ _ h0
    exact ⟨a.block, a.off, c3, by obtain ⟨b, o, sp⟩ := a; cases hsp; rfl, hbk, h0, h1, h2, h3, hr⟩
end Go.Proofs.YtefjignlhlpndaaDoor
