/-
  What is proved: how a carrier, a list of carriers and a list of legs among the arguments of a law are opened. Conditions: none.
-/
import Derived.Test.YtekahkeddpngpaaFrm
import Derived.Test.YtekahkeddpngpaaRlc
import Derived.Deep.Slices
namespace Go.Proofs.Ytekahkeddpngpaa
open Go.ChangeShapes Go.WideShapes Go.ChangeAt Go.RowKit
set_option linter.unusedVariables false

theorem wadd_none {x : Addr} {j : Nat} (h : x.spot = none) : x.add j = ⟨x.block, x.off + j, none⟩ := by
  obtain ⟨b, o, sp⟩ := x
  cases h
  unfold Addr.add
  by_cases h : j = 0 <;> simp [h]
theorem wspot {w : World} {x : Addr} {v : Value} (h : w.cell? (x.add 0) = some v) : x.spot = none := by
  obtain ⟨b, o, sp⟩ := x
  have := World.cell?_spot h
  simpa [Addr.add] using this
instance : Inhabited Cr := ⟨⟨0, 0, 0⟩⟩
instance : Inhabited Lg := ⟨⟨0, 0, 0⟩⟩
theorem open_struct3 {H : Type} {enc : TypeId × Value → H} {W : World} {base : Nat} {spare : Nat → Bool} {held : Bool} {t : TypeId} {f0 f1 f2 : Field} {fuel : Nat} {cs : List Value} {x : DataW H × List MemPlace} (ht : Try.prog.underlying t = some (.struct #[f0, f1, f2])) (h : DataW.trod enc Try.prog W base spare held fuel t cs = some x) :
    ∃ y0 y1 y2 n, DataW.trod enc Try.prog W base spare held n f0.type ((cs.drop f0.offset).take (Try.prog.cellsOf f0.type)) = some y0 ∧
      DataW.trod enc Try.prog W base spare held n f1.type ((cs.drop f1.offset).take (Try.prog.cellsOf f1.type)) = some y1 ∧ DataW.trod enc Try.prog W base spare held n f2.type ((cs.drop f2.offset).take (Try.prog.cellsOf f2.type)) = some y2 := by
  obtain ⟨xs, n, _, rfl, hl, hlen, hf⟩ := DataW.trod_struct ht h
  match xs, hlen with
  | [y0, y1, y2], _ => exact ⟨y0, y1, y2, n, by simpa using hf 0 f0 rfl, by simpa using hf 1 f1 rfl, by simpa using hf 2 f2 rfl⟩
theorem cellsCarrier : Try.prog.cellsOf 62 = 3 := by kernel_rfl
set_option maxRecDepth 100000 in
theorem open_crcells {H : Type} {enc : TypeId × Value → H} {W : World} {base : Nat} {spare : Nat → Bool} {held : Bool} {c0 c1 c2 : Value} {y : DataW H × List MemPlace} {fuel : Nat}
    (hf : DataW.trod enc Try.prog W base spare held fuel 62 [c0, c1, c2] = some y) : ∃ k : Cr, c0 = .int .i64 k.s ∧ c1 = .int .i64 k.r ∧ c2 = .int .i64 k.f := by
  obtain ⟨y0, y1, y2, m, hy0, hy1, hy2⟩ := open_struct3 Try.underlying62 hf
  obtain ⟨a0, e0, rfl, _⟩ := DataW.trod_int Try.underlying3 hy0
  obtain ⟨a1, e1, rfl, _⟩ := DataW.trod_int Try.underlying3 hy1
  obtain ⟨a2, e2, rfl, _⟩ := DataW.trod_int Try.underlying3 hy2
  simp [cellsInt] at e0 e1 e2
  exact ⟨⟨a0, a1, a2⟩, e0, e1, e2⟩
set_option maxRecDepth 100000 in
theorem open_carrier {H : Type} {enc : TypeId × Value → H} {W : World} {base : Nat} {spare : Nat → Bool} {held : Bool} {b0 : Nat} {r : Reach} {v : Value} {d : DataW H} {ps : List MemPlace}
    (hval : Value.okWide Try.prog W r b0 62 v) (hd : DataW.Trod enc Try.prog W base spare held 62 v d ps) : ∃ c, v = crv c := by
  obtain ⟨cs, rfl, hsz⟩ := okWide_struct Try.underlying62 hval
  rw [cellsCarrier] at hsz
  obtain ⟨l⟩ := cs
  match l, hsz with
  | [c0, c1, c2], _ =>
  obtain ⟨fuel, hf⟩ := hd
  obtain ⟨k, h0, h1, h2⟩ := open_crcells hf
  exact ⟨k, by rw [h0, h1, h2]⟩
set_option maxRecDepth 100000 in
theorem open_carriers {H : Type} {enc : TypeId × Value → H} {W : World} {base : Nat} {held : Bool} {b0 : Nat} {r : Reach} {v : Value} {d : DataW H} {ps : List MemPlace}
    (hval : Value.okWide Try.prog W r b0 39 v) (hd : DataW.Trod enc Try.prog W base (fun _ => true) held 39 v d ps) : ∃ ks, ReadsC W v ks := by
  obtain ⟨a0, len0, cap0, rfl⟩ := okWide_slice Try.underlying39 hval
  obtain ⟨fuel, hf⟩ := hd
  rcases Go.Deep.open_slice Try.underlying39 hf with ⟨hcs, _⟩ | ⟨a, len, cap, m, n, D, Pl, hcs, _, hl, hm, hmm, _, hx⟩
  · simp [Value.cells] at hcs
    obtain ⟨rfl, rfl, rfl⟩ := hcs
    exact ⟨[], none, 0, rfl, Nat.le_refl _, by simp, fun j x hj => by simp at hj⟩
  · simp [Value.cells] at hcs
    obtain ⟨rfl, rfl, rfl⟩ := hcs
    have hmc : m = cap0 := by simpa using hmm
    subst hmc
    rw [cellsCarrier] at hx
    have key : ∀ i, i < len0 → ∃ k : Cr, W.cell? (a.add (i * 3)) = some (.int .i64 k.s) ∧ a.spot = none ∧ W.cell? ⟨a.block, a.off + i * 3 + 1, none⟩ = some (.int .i64 k.r) ∧ W.cell? ⟨a.block, a.off + i * 3 + 2, none⟩ = some (.int .i64 k.f) := by
      intro i hi
      obtain ⟨cs', h1, h2⟩ := hx i (by omega)
      obtain ⟨_, hlen, hc⟩ := World.cells?_some h1
      match cs', hlen, h2, hc with
      | [c0, c1, c2], _, h2, hc =>
        obtain ⟨k, e0, e1, e2⟩ := open_crcells h2
        have q0 := hc 0 (by omega)
        have q1 := hc 1 (by omega)
        have q2 := hc 2 (by omega)
        have hz : (a.add (i * 3)).add 0 = a.add (i * 3) := rfl
        rw [hz] at q0
        have hsp : a.spot = none := by
          obtain ⟨cs0, h01, _⟩ := hx 0 (by omega)
          obtain ⟨_, hl0, hc0⟩ := World.cells?_some h01
          have p0 := hc0 0 (by omega)
          obtain ⟨u0, hu0⟩ : ∃ u, cs0[0]? = some u := ⟨cs0[0]'(by omega), List.getElem?_eq_getElem (by omega)⟩
          rw [hu0, Nat.zero_mul] at p0
          exact wspot (show W.cell? (a.add 0) = some u0 from p0)
        rw [wadd_none hsp] at q1 q2
        rw [wadd_none (x := ⟨a.block, a.off + i * 3, none⟩) rfl] at q1 q2
        exact ⟨k, by rw [← e0]; exact q0, hsp, by rw [← e1]; exact q1, by rw [← e2]; exact q2⟩
    obtain ⟨f, hfk⟩ := Go.Deep.choose_lt (α := Cr) key
    refine ⟨(List.range len0).map f, some a, m, by simp, by simpa using hl, by simp; omega, fun j k hj => ?_⟩
    have hjl : j < len0 := by
      have := (List.getElem?_eq_some_iff.1 hj).1
      simpa using this
    have hk : f j = k := by simpa [hjl] using hj
    subst hk
    obtain ⟨h0, hsp, h1, h2⟩ := hfk j hjl
    rw [wadd_none hsp] at h0
    have hbk := World.block_lt_of_cell? _ _ h0
    exact ⟨a.block, a.off, by obtain ⟨b, o, sp⟩ := a; cases hsp; rfl, hbk, h0, h1, h2⟩
end Go.Proofs.Ytekahkeddpngpaa
