/-
  What is proved: the contracts of impl.arePlaces, impl.hasSteps, impl.areWalks and spec.l2Walk: both say of a list whether it is a walk. Conditions: slices that read as lists of numbers.
-/
import Derived.Test.YtekahkeddpngpaaStp
import Derived.Test.YtekahkeddpngpaaInt
import Derived.Deep.RegionWith
import Derived.IntWalk
import Derived.Deep.RegionHeld3
namespace Go.Proofs.Ytekahkeddpngpaa
open Go.RowKit

/-- the answer is the truth of P -/
def Says (P : Prop) (w : World) (e : Ending) (w' : World) : Prop := ∃ b : Bool, e = .returned (.bool b) ∧ (b = true ↔ P) ∧ Below w.heap.size w w'
def Inside (n : Int) (xs : List Int) : Prop := ∀ (k : Nat) x, xs[k]? = some x → 0 ≤ x ∧ x < n
def Chain (n : Int) (g : Bool) (xs : List Int) : Prop := ∀ (k : Nat) a b, xs[k]? = some a → xs[k + 1]? = some b → gapI n g a b ≤ 1
def Walk (n : Int) (g : Bool) (xs : List Int) : Prop := roadB n g = true ∧ 1 ≤ xs.length ∧ xs.length ≤ 61 ∧ Inside n xs ∧ Chain n g xs
theorem says_no {P : Prop} {w w' : World} (h : ¬ P) (hb : Below w.heap.size w w') : Says P w (.returned (.bool false)) w' := ⟨false, rfl, ⟨fun h2 => (Bool.false_ne_true h2).elim, fun h2 => absurd h2 h⟩, hb⟩
theorem says_yes {P : Prop} {w w' : World} (h : P) (hb : Below w.heap.size w w') : Says P w (.returned (.bool true)) w' := ⟨true, rfl, ⟨fun _ => h, fun _ => rfl⟩, hb⟩
theorem head_snd (n : Int) (g : Bool) (p q : Int) : (headI n g p q).2 = true ↔ (afterI n g p = q ∨ beforeI n g p = q) := by
  unfold headI
  by_cases h : afterI n g p = q
  · simp [h]
  · by_cases h2 : beforeI n g p = q
    · simp [h, h2]
    · simp [h, h2]
theorem head_gap (n : Int) (g : Bool) (a b : Int) (hr : roadB n g = true) (ha : 0 ≤ a ∧ a < n) (hb : 0 ≤ b ∧ b < n) : ((headI n g a b).2 = true ∨ b = a) ↔ gapI n g a b ≤ 1 := by
  obtain ⟨h1, h2, h3⟩ := (roadB_iff n g).1 hr
  rw [head_snd]
  unfold afterI beforeI gapI
  cases g
  · simp only [Bool.false_eq_true, false_and, if_false]
    omega
  · have := h3 rfl
    simp only [true_and, if_true]
    by_cases c1 : a = n - 1
    · by_cases c2 : a = 0
      · omega
      · rw [if_pos c1, if_neg c2]
        omega
    · by_cases c2 : a = 0
      · rw [if_neg c1, if_pos c2]
        omega
      · rw [if_neg c1, if_neg c2]
        omega
def PlRel (n : Int) (xs : List Int) (r i : Value) : Prop := r = .bool false ∧ ∃ k : Nat, k ≤ xs.length ∧ i = .int .i64 k ∧ ∀ (j : Nat) x, j < k → xs[j]? = some x → 0 ≤ x ∧ x < n
set_option maxHeartbeats 400000 in
theorem arePlaces_any (n : Int) (g : Bool) (v : Value) (xs : List Int) (w : World) (hv : ReadsI w v xs) :
    Calls Try.prog 94 #[rd n g, v] w (Says (roadB n g = true ∧ Inside n xs) w) := by
  have hroad := Lib.hid (fun w => isRoad_any n g w)
  obtain ⟨a, c, rfl, hc, hm, hx⟩ := hv
  have HX := Lib.hid hx
  clear hx
  unfold maxLen at hm
  have HB := Lib.hid (Boxed.first w n g 27)
  unfold rd at *
  go_enter Try.func94, Try.ntmps94
  go_wp2_with fail
  generalize w.alloc (Obj.cells #[Value.int IntKind.i64 n, Value.bool g] 27) = w1 at *
  go_loop [4, 9] (fun r i => PlRel n xs r i) (fun _ i => xs.length - (intOf i).toNat)
  case atStart => exact ⟨rfl, 0, Nat.zero_le _, rfl, fun j x hj => by omega⟩
  case round =>
    obtain ⟨rfl, k, hk, rfl, hpre⟩ := hrel
    have HP := Lib.hid hpre
    clear hpre
    have hx0 := HB.out.c0
    by_cases hlt : k < xs.length
    · obtain ⟨x, hxk⟩ := get_some hlt
      obtain ⟨b, o, rfl, hbl, hcell⟩ := HX.out k x hxk
      have hcr : w1.cell? ⟨b, o + k, none⟩ = some (.int .i64 x) := (HB.out.below.cell (p := ⟨b, o + k, none⟩) hbl).trans hcell
      have HK := Lib.hid hxk
      clear hxk hcell
      by_cases h0 : x < 0
      · go_wp2_with fail
        go_ret
        exact says_no (fun h => by have := h.2 k x HK.out; omega) HB.out.below
      · by_cases h1 : n ≤ x
        · go_wp2_with fail
          go_ret
          exact says_no (fun h => by have := h.2 k x HK.out; omega) HB.out.below
        · go_wp2_with fail
          go_round
          case rel =>
            refine ⟨rfl, k + 1, by omega, by go_num, fun j y hj hy => ?_⟩
            rcases Nat.lt_succ_iff_lt_or_eq.1 hj with hj | rfl
            · exact HP.out j y hj hy
            · have e := HK.out.symm.trans hy
              cases e
              omega
          case measure => simp [intOf]; omega
    · have hx1 := HB.out.c1
      go_wp2_with fail
      refine (hroad.out _).mono ?_
      rintro e w2 ⟨rfl, hb⟩
      have HY := Lib.hid (HB.out.next hb)
      clear hb
      go_wp2_with fail
      go_ret
      refine ⟨_, rfl, ⟨fun h => ⟨h, fun j x hj => HP.out j x (by have := (List.getElem?_eq_some_iff.1 hj).1; omega) hj⟩, fun h => h.1⟩, HY.out.below⟩
/-- a boxed road and two cells of an older block -/
abbrev Keep4 (base : Nat) (n : Int) (g : Bool) (b i j : Nat) (u v : Value) (w w1 : World) : Prop :=
  Boxed base n g w w1 ∧ w1.cell? ⟨base, 0, none⟩ = some (.int .i64 n) ∧ w1.cell? ⟨base, 1, none⟩ = some (.bool g) ∧ w1.cell? ⟨b, i, none⟩ = some u ∧ w1.cell? ⟨b, j, none⟩ = some v
theorem keep4 {base : Nat} {n : Int} {g : Bool} {w w1 w2 : World} {b i j : Nat} {u v : Value} (h : Keep4 base n g b i j u v w w1) (hbl : b < base) (hb : Below w1.heap.size w1 w2) : Keep4 base n g b i j u v w w2 :=
  ⟨h.1.next hb, (h.1.next hb).c0, (h.1.next hb).c1, (hb.cell (p := ⟨b, i, none⟩) (Nat.lt_trans hbl h.1.size)).trans h.2.2.2.1, (hb.cell (p := ⟨b, j, none⟩) (Nat.lt_trans hbl h.1.size)).trans h.2.2.2.2⟩
theorem keep4_new {base : Nat} {n : Int} {g : Bool} {w w1 : World} {b i j : Nat} {u v : Value} (h : Boxed base n g w w1) (h3 : w1.cell? ⟨b, i, none⟩ = some u) (h4 : w1.cell? ⟨b, j, none⟩ = some v) : Keep4 base n g b i j u v w w1.drew :=
  ⟨h.next ⟨rfl, rfl, rfl, Nat.le_refl _, fun _ _ => rfl⟩, h.c0, h.c1, h3, h4⟩
end Go.Proofs.Ytekahkeddpngpaa
