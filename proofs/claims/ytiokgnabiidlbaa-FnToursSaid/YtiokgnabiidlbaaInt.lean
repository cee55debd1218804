/-
  What is proved: the contracts of the laws' own helpers on slices of numbers and on roads: laws.toRoad, laws.toIntS, laws.eqIntS, laws.markIntS, laws.heldIntS, laws.rInts. Conditions: those of each contract.
-/
import Derived.Test.YtiokgnabiidlbaaBas
import Derived.OwnWalk
import Derived.Maps.AppendAt
import Derived.Deep.QuietTactic
import Derived.BigQuiet
namespace Go.Proofs.Ytiokgnabiidlbaa
open Go.RowKit

theorem get_some {α : Type} {xs : List α} {k : Nat} (h : k < xs.length) : ∃ x, xs[k]? = some x := ⟨xs[k], List.getElem?_eq_getElem h⟩
theorem below_drewN (w : World) (m : Nat) : Below w.heap.size w (w.drewN m) := ⟨rfl, rfl, rfl, Nat.le_refl _, fun _ _ => rfl⟩
/-- the value of a number -/
abbrev iv (x : Int) : Value := .int .i64 x
/-- v reads as the list xs of numbers -/
def ReadsI (w : World) (v : Value) (xs : List Int) : Prop :=
  ∃ a c, v = .slice a xs.length c ∧ xs.length ≤ c ∧ xs.length ≤ maxLen ∧ ∀ (j : Nat) x, xs[j]? = some x → ∃ b o, a = some ⟨b, o, none⟩ ∧ b < w.heap.size ∧ w.cell? ⟨b, o + j, none⟩ = some (.int .i64 x)
theorem ReadsI.below {w w' : World} {v : Value} {xs : List Int} (h : ReadsI w v xs) (hb : Below w.heap.size w w') : ReadsI w' v xs := by
  obtain ⟨a, c, hv, hc, hm, hx⟩ := h
  refine ⟨a, c, hv, hc, hm, fun j x hj => ?_⟩
  obtain ⟨b, o, ha, hlt, hcell⟩ := hx j x hj
  exact ⟨b, o, ha, Nat.lt_of_lt_of_le hlt hb.size, (hb.cell (p := ⟨b, o + j, none⟩) hlt).trans hcell⟩
theorem infoInt : (Try.prog.info? 3).map (fun i => (i.zero, i.size, i.bytes)) = some (some (.int .i64 0), 1, 8) := by kernel_rfl
/-- the cells of a slice of n numbers of which the first k are those of xs -/
def cellsTo (xs : List Int) (k : Nat) : List Value := (xs.take k).map iv ++ List.replicate (xs.length - k) (iv 0)
theorem cellsTo_at (xs : List Int) (k : Nat) (h : k < xs.length) : (cellsTo xs k)[k]? = some (iv 0) := by
  unfold cellsTo
  have hl : ((xs.take k).map iv).length = k := by simp; omega
  rw [List.getElem?_append_right (by omega), hl, Nat.sub_self, List.getElem?_replicate, if_pos (by omega)]
theorem cellsTo_set (xs : List Int) (k : Nat) (x : Int) (h : xs[k]? = some x) : (cellsTo xs k).set k (.int .i64 x) = cellsTo xs (k + 1) := by
  obtain ⟨hk, rfl⟩ := List.getElem?_eq_some_iff.1 h
  unfold cellsTo
  have hl : ((xs.take k).map iv).length = k := by simp; omega
  rw [List.set_append_right _ _ (by omega), hl, Nat.sub_self, List.take_succ_eq_append_getElem hk, List.map_append, List.append_assoc]
  congr 1
  rw [show xs.length - k = (xs.length - (k + 1)) + 1 by omega, List.replicate_succ]
  rfl
theorem cellsTo_all (xs : List Int) : cellsTo xs xs.length = xs.map iv := by simp [cellsTo]
/-- the answer is a list of its own -/
def OwnsI (base : Nat) (xs : List Int) (w : World) (e : Ending) (w' : World) : Prop :=
  ∃ v, e = .returned v ∧ w'.ownsRow base 3 1 v xs.length (xs.map iv) ∧ Below base w w'
/-- the answer is a list of its own, and a truth -/
def OwnsB (base : Nat) (xs : List Int) (b : Bool) (w : World) (e : Ending) (w' : World) : Prop :=
  ∃ v, e = .returned (.tuple #[v, .bool b]) ∧ w'.ownsRow base 3 1 v xs.length (xs.map iv) ∧ Below base w w'
theorem owns_reads {base : Nat} {v : Value} {xs : List Int} {w : World} (h : w.ownsRow base 3 1 v xs.length (xs.map iv)) (hm : xs.length ≤ maxLen) : ReadsI w v xs := by
  have h' := h
  obtain ⟨hl, h2⟩ := h
  rcases h2 with ⟨rfl, h0⟩ | ⟨g, cap, cur, rfl, hg, hb, hnc, hcm, hcs, ht⟩
  · refine ⟨none, 0, by rw [h0], by omega, hm, fun j x hj => ?_⟩
    obtain ⟨hj, _⟩ := List.getElem?_eq_some_iff.1 hj
    omega
  · refine ⟨_, cap, rfl, hnc, hm, fun j x hj => ⟨g, 0, rfl, ?_, ?_⟩⟩
    · obtain ⟨hlt, _⟩ := Array.getElem?_eq_some_iff.1 hb
      exact hlt
    · obtain ⟨hj2, _⟩ := List.getElem?_eq_some_iff.1 hj
      rw [Nat.zero_add, h'.cellAt j (by omega), List.getElem?_map, hj]
      rfl
theorem owns_below {w w' : World} {base n : Nat} {v : Value} {xs : List Value} (h : w.ownsRow base 3 1 v n xs) (hb : Below w.heap.size w w') : w'.ownsRow base 3 1 v n xs := by
  obtain ⟨hl, h2⟩ := h
  refine ⟨hl, ?_⟩
  rcases h2 with h2 | ⟨g, cap, cur, hv, hg, hblk, h3⟩
  · exact .inl h2
  · exact .inr ⟨g, cap, cur, hv, hg, (hb.block g (Array.getElem?_eq_some_iff.1 hblk).1).trans hblk, h3⟩
theorem owns_lower {w : World} {base base' n : Nat} {v : Value} {xs : List Value} (h : w.ownsRow base 3 1 v n xs) (hb : base' ≤ base) : w.ownsRow base' 3 1 v n xs := by
  obtain ⟨hl, h2⟩ := h
  refine ⟨hl, ?_⟩
  rcases h2 with h2 | ⟨g, cap, cur, hv, hg, h3⟩
  · exact .inl h2
  · exact .inr ⟨g, cap, cur, hv, Nat.le_trans hb hg, h3⟩
/-- the marks from K on -/
def mts (K n : Nat) : List Int := (List.range n).map fun i => ((K + i : Nat) : Int)
theorem mts_len (K n : Nat) : (mts K n).length = n := by simp [mts]
theorem mts_at (K n k : Nat) (h : k < n) : (mts K n)[k]? = some ((K + k : Nat) : Int) := by simp [mts, h]
/-- the cells when k of n marks stand -/
def markTo (K k : Nat) (ys : List Value) : List Value := (mts K k).map iv ++ ys.drop k
theorem markTo_zero (K : Nat) (ys : List Value) : markTo K 0 ys = ys := by simp [markTo, mts]
theorem markTo_len (K k : Nat) (ys : List Value) (h : k ≤ ys.length) : (markTo K k ys).length = ys.length := by simp [markTo, mts_len]; omega
theorem markTo_set (K k : Nat) (ys : List Value) (h : k < ys.length) : (markTo K k ys).set k (.int .i64 ((K + k : Nat) : Int)) = markTo K (k + 1) ys := by
  unfold markTo
  have hl : ((mts K k).map iv).length = k := by simp [mts_len]
  rw [List.set_append_right _ _ (by omega), hl, Nat.sub_self, List.drop_eq_getElem_cons h]
  simp only [List.set_cons_zero]
  unfold mts
  rw [List.range_succ]
  simp
theorem markTo_all (K : Nat) (ys : List Value) : markTo K ys.length ys = (mts K ys.length).map iv := by simp [markTo]
theorem markTo_some (K k : Nat) (ys : List Value) (h : k < ys.length) : ∃ u, (markTo K k ys)[k]? = some u := get_some (by rw [markTo_len K k ys (by omega)]; exact h)
theorem owns_shape {w : World} {base n : Nat} {v : Value} {xs : List Value} (h : w.ownsRow base 3 1 v n xs) : ∃ a c, v = .slice a n c ∧ (0 < n → ∃ g, a = some ⟨g, 0, none⟩ ∧ base ≤ g ∧ g < w.heap.size) := by
  rcases h.2 with ⟨rfl, rfl⟩ | ⟨g, cap, cur, rfl, hg, hb, _⟩
  · exact ⟨none, 0, rfl, fun h => by omega⟩
  · exact ⟨_, cap, rfl, fun _ => ⟨g, rfl, hg, (Array.getElem?_eq_some_iff.1 hb).1⟩⟩
def MarkRel (K base : Nat) (v : Value) (ys : List Value) (w : World) (kk i : Value) (wr : World) : Prop :=
  ∃ k j : Nat, k ≤ ys.length ∧ j = K + k ∧ i = .int .i64 k ∧ kk = .int .i64 j ∧ wr.ownsRow base 3 1 v ys.length (markTo K k ys) ∧ w.grownBy wr v.ownBlock
def MarkPost (K base : Nat) (v : Value) (n : Nat) (w : World) (e : Ending) (w' : World) : Prop :=
  e = .returned (.int .i64 ((K + n : Nat) : Int)) ∧ w.grownBy w' v.ownBlock ∧ w'.ownsRow base 3 1 v n ((mts K n).map iv)
theorem grown_trans {w w1 w2 : World} {r : Option Nat} (h : w.grownBy w1 r) (h2 : w1.grownBy w2 r) : w.grownBy w2 r := by
  obtain ⟨a1, a2, a3, a4, a5⟩ := h
  obtain ⟨b1, b2, b3, b4, b5⟩ := h2
  exact ⟨b1.trans a1, b2.trans a2, b3.trans a3, Nat.le_trans a4 b4, fun b hb hr => (b5 b (Nat.lt_of_lt_of_le hb a4) hr).trans (a5 b hb hr)⟩
theorem grown_refl (w : World) (r : Option Nat) : w.grownBy w r := ⟨rfl, rfl, rfl, Nat.le_refl _, fun _ _ _ => rfl⟩
theorem owns_block {w : World} {base n : Nat} {v : Value} {xs : List Value} (h : w.ownsRow base 3 1 v n xs) : ∀ b, v.ownBlock = some b → base ≤ b ∧ b < w.heap.size := by
  intro b hb
  rcases h.2 with ⟨rfl, _⟩ | ⟨g, cap, cur, rfl, hg, hblk, _⟩
  · cases hb
  · cases hb
    exact ⟨hg, (Array.getElem?_eq_some_iff.1 hblk).1⟩
theorem below_grown {w w' : World} {v : Value} {m : Nat} (hg : w.grownBy w' v.ownBlock) (hbl : ∀ b, v.ownBlock = some b → m ≤ b) (hm : m ≤ w.heap.size) : Below m w w' :=
  (Below.refl _ _).grown hg hm hbl
theorem owns_apart {w w' : World} {base n : Nat} {v u : Value} {xs : List Value} (h : w.ownsRow base 3 1 v n xs) (hg : w.grownBy w' u.ownBlock) (hu : ∀ b, u.ownBlock = some b → b < base) : w'.ownsRow base 3 1 v n xs := by
  obtain ⟨hl, h2⟩ := h
  refine ⟨hl, ?_⟩
  obtain ⟨b1, b2, b3, b4, b5⟩ := hg
  rcases h2 with h2 | ⟨g, cap, cur, hv, hgb, hblk, h3⟩
  · exact .inl h2
  · refine .inr ⟨g, cap, cur, hv, hgb, (b5 g (Array.getElem?_eq_some_iff.1 hblk).1 (fun e => ?_)).trans hblk, h3⟩
    have := hu g e.symm
    omega
end Go.Proofs.Ytiokgnabiidlbaa
