/-
  What is proved: the contracts of MeetTime and MeetPlace of the model. Conditions: slices that read as lists of numbers.
-/
import Derived.Test.YtiokgnabiidlbaaDoorMel
import Derived.Test.YtiokgnabiidlbaaDoorNea
namespace Go.Proofs.YtiokgnabiidlbaaDoor
open Go.RowKit
set_option linter.unusedVariables false
set_option linter.unusedSimpArgs false

/-- what stays: the boxes of the road and of two walkers -/
structure Box3 (base : Nat) (n : Int) (g : Bool) (k : Wk) (m : Value) (k2 : Wk) (m2 : Value) (w wr : World) : Prop where
  road : Boxed base n g w wr
  one : Blk wr (base + 1) #[.int .i64 k.s, .int .i64 k.f, .int .i64 k.d, m] 32
  two : Blk wr (base + 1 + 1) #[.int .i64 k2.s, .int .i64 k2.f, .int .i64 k2.d, m2] 32
theorem Box3.first (w : World) (n : Int) (g : Bool) (k : Wk) (m : Value) (k2 : Wk) (m2 : Value) :
    Box3 w.heap.size n g k m k2 m2 w (((w.alloc (.cells #[.int .i64 n, .bool g] 30)).alloc (.cells #[.int .i64 k.s, .int .i64 k.f, .int .i64 k.d, m] 32)).alloc (.cells #[.int .i64 k2.s, .int .i64 k2.f, .int .i64 k2.d, m2] 32)) :=
  ⟨((Boxed.first w n g _).next (below_new _ _)).next (below_new _ _), (blk_at _ _ _ _ (by simp)).below (below_new _ _), blk_at _ _ _ _ (by simp)⟩
theorem Box3.next {base : Nat} {n : Int} {g : Bool} {k k2 : Wk} {m m2 : Value} {w wr w' : World} (h : Box3 base n g k m k2 m2 w wr) (hb : Below wr.heap.size wr w') : Box3 base n g k m k2 m2 w w' :=
  ⟨h.road.next hb, h.one.below hb, h.two.below hb⟩
theorem Box3.lt {base : Nat} {n : Int} {g : Bool} {k k2 : Wk} {m m2 : Value} {w wr : World} (h : Box3 base n g k m k2 m2 w wr) : base + 3 ≤ wr.heap.size := h.two.lt
/-- the walks of two walkers to the time 60 -/
def walks2 (n : Int) (g : Bool) (k k2 : Wk) : List (List Int) := [walkW n g k 60, walkW n g k2 60]
theorem walkW_len (n : Int) (g : Bool) (k : Wk) (m : Nat) : (walkW n g k m).length = m + 1 := pathL_len _ _
theorem walks2_len (n : Int) (g : Bool) (k k2 : Wk) : ∀ (j : Nat) xs, (walks2 n g k k2)[j]? = some xs → xs.length = 61 := by
  intro j xs hj
  match j, hj with
  | 0, hj => cases hj; exact walkW_len _ _ _ _
  | 1, hj => cases hj; exact walkW_len _ _ _ _
/-- what MeetTime answers -/
def mtimeR (n : Int) (g : Bool) (k k2 : Wk) : Int × Bool := if (wkB n g k && wkB n g k2) = true ∧ 0 ≤ meetT (walks2 n g k k2) then (meetT (walks2 n g k k2), true) else (0, false)
theorem mtimeR_no {n : Int} {g : Bool} {k k2 : Wk} (h : ¬ ((wkB n g k && wkB n g k2) = true ∧ 0 ≤ meetT (walks2 n g k k2))) : mtimeR n g k k2 = (0, false) := if_neg h
theorem mtimeR_yes {n : Int} {g : Bool} {k k2 : Wk} (h : (wkB n g k && wkB n g k2) = true ∧ 0 ≤ meetT (walks2 n g k k2)) : mtimeR n g k k2 = (meetT (walks2 n g k k2), true) := if_pos h
theorem ret_RB {R : Int × Bool} {a : Int} {b : Bool} (h : R = (a, b)) : Ending.returned (.tuple #[.int .i64 a, .bool b]) = .returned (.tuple #[.int .i64 R.1, .bool R.2]) := by rw [h]
set_option maxHeartbeats 800000 in
set_option maxRecDepth 20000 in
theorem l4Both_any (n : Int) (g : Bool) (k : Wk) (m : Value) (k2 : Wk) (m2 : Value) (w : World) (hv : ReadsI w m k.ms) (hv2 : ReadsI w m2 k2.ms) :
    Calls Tryd.prog 11 #[rd n g, wkv k m, wkv k2 m2] w fun e w' => e = .returned (.bool (wkB n g k && wkB n g k2)) ∧ Below w.heap.size w w' := by
  have HC1 := Lib.hid (fun w hv => l4Walker_any n g k m w hv)
  have HC2 := Lib.hid (fun w hv => l4Walker_any n g k2 m2 w hv)
  have HX := Lib.hid (Box3.first w n g k m k2 m2)
  have HV := Lib.hid hv
  have HV2 := Lib.hid hv2
  obtain ⟨ma, mc, rfl, _⟩ := hv
  obtain ⟨ma2, mc2, rfl, _⟩ := hv2
  generalize hml : k.ms.length = ml at *
  generalize hml2 : k2.ms.length = ml2 at *
  clear hml hml2
  unfold wkv rd at *
  go_enter Tryd.func11, Tryd.ntmps11
  go_wp2_with fail
  refine (HC1.out _ (HV.out.below HX.out.road.below)).mono ?_
  rintro e w1 ⟨rfl, hb⟩
  have HX := Lib.hid (HX.out.next hb)
  clear hb
  have h0 := HX.out.road.c0
  have h1 := HX.out.road.c1
  have p0 := HX.out.one.cell 0
  have p1 := HX.out.one.cell 1
  have p2 := HX.out.one.cell 2
  have p3 := HX.out.one.cell 3
  have q0 := HX.out.two.cell 0
  have q1 := HX.out.two.cell 1
  have q2 := HX.out.two.cell 2
  have q3 := HX.out.two.cell 3
  cases hb : wkB n g k
  · have HQ := Lib.hid hb
    clear hb
    go_wp2_with fail
    go_ret
    exact ⟨ret_bool (by first | rfl | rw [HQ.out]; rfl), HX.out.road.below⟩
  · have HQ := Lib.hid hb
    clear hb
    go_wp2_with fail
    refine (HC2.out _ (HV2.out.below HX.out.road.below)).mono ?_
    rintro e w2 ⟨rfl, hb⟩
    have HX := Lib.hid (HX.out.next hb)
    clear hb h0 h1 p0 p1 p2 p3 q0 q1 q2 q3
    go_wp2_with fail
    go_ret
    exact ⟨ret_bool (by first | rfl | rw [HQ.out]; rfl), HX.out.road.below⟩
end Go.Proofs.YtiokgnabiidlbaaDoor
