/-
  What is proved: impl.IsWalk, impl.GapOf and the model's answer alike; helpers on a list of lists. Conditions: those of each contract.
-/
import Derived.Test.YtiokgnabiidlbaaAre
namespace Go.Proofs.Ytiokgnabiidlbaa
open Go.RowKit

theorem ret_bool2 {a b c d : Bool} (h : a = b) (h2 : c = d) : Ending.returned (.tuple #[.bool a, .bool c]) = .returned (.tuple #[.bool b, .bool d]) := by rw [h, h2]
open Classical in
/-- whether xs is a walk -/
noncomputable def walkD (n : Int) (g : Bool) (xs : List Int) : Bool := decide (Walk n g xs)
theorem walkD_iff (n : Int) (g : Bool) (xs : List Int) : walkD n g xs = true ↔ Walk n g xs := by unfold walkD; simp
theorem walkD_no {n : Int} {g : Bool} {xs : List Int} (h : walkD n g xs = false) : ¬ Walk n g xs := fun h2 => by rw [(walkD_iff n g xs).2 h2] at h; cases h
theorem bool_of_iff {a b : Bool} {P : Prop} (h : a = true ↔ P) (h2 : b = true ↔ P) : a = b := by
  cases a <;> cases b <;> simp_all
theorem l2Walk_is (n : Int) (g : Bool) (v : Value) (xs : List Int) (w : World) (hv : ReadsI w v xs) :
    Calls Try.prog 45 #[rd n g, v] w fun e w' => e = .returned (.bool (walkD n g xs)) ∧ Below w.heap.size w w' :=
  (l2Walk_any n g v xs w hv).mono fun _ _ ⟨_, he, hi, hb⟩ => ⟨by rw [he, bool_of_iff hi (walkD_iff n g xs)], hb⟩
theorem areWalks_one (n : Int) (g : Bool) (v : Value) (xs : List Int) (w : World) (hv : ReadsL w v [xs]) :
    Calls Try.prog 43 #[rd n g, v] w fun e w' => e = .returned (.bool (walkD n g xs)) ∧ Below w.heap.size w w' :=
  (areWalks_any n g v [xs] w hv).mono fun _ _ ⟨_, he, hi, hb⟩ => ⟨by rw [he, bool_of_iff (hi.trans (allWalks_one n g xs)) (walkD_iff n g xs)], hb⟩
theorem and_iff {a b : Bool} {P Q : Prop} (h : a = true ↔ P) (h2 : b = true ↔ Q) : (a && b) = true ↔ P ∧ Q := by
  rw [Bool.and_eq_true, h, h2]
theorem areWalks_two (n : Int) (g : Bool) (v : Value) (xs ys : List Int) (w : World) (hv : ReadsL w v [xs, ys]) :
    Calls Try.prog 43 #[rd n g, v] w fun e w' => e = .returned (.bool (walkD n g xs && walkD n g ys)) ∧ Below w.heap.size w w' :=
  (areWalks_any n g v [xs, ys] w hv).mono fun _ _ ⟨_, he, hi, hb⟩ => ⟨by rw [he, bool_of_iff (hi.trans (allWalks_two n g xs ys)) (and_iff (walkD_iff n g xs) (walkD_iff n g ys))], hb⟩
theorem cell_new (w : World) (cs : Array Value) (t : TypeId) (j : Nat) : (w.alloc (.cells cs t)).cell? ⟨w.heap.size, j, none⟩ = cs[j]? := by
  have hg : (w.alloc (.cells cs t)).heap[w.heap.size]? = some (.cells cs t) := by
    unfold World.alloc
    exact Array.getElem?_push_size
  unfold World.cell?
  simp only [hg, Option.isSome_none, Bool.false_eq_true, if_false]
theorem one_list {w : World} {v : Value} {xs : List Int} {t : TypeId} (h : ReadsI w v xs) : ReadsL (w.alloc (.cells #[v] t)) (.slice (some ⟨w.heap.size, 0, none⟩) 1 1) [xs] := by
  refine ⟨_, 1, rfl, Nat.le_refl _, by simp [maxLen], fun j ys hj => ?_⟩
  match j, hj with
  | 0, hj =>
    cases hj
    exact ⟨_, 0, v, rfl, by simp, by rw [cell_new]; rfl, h.below (below_new w _)⟩
theorem one_list_drew {w : World} {v : Value} {xs : List Int} {t : TypeId} (h : ReadsI w v xs) : ReadsL (w.alloc (.cells #[v] t)).drew (.slice (some ⟨w.heap.size, 0, none⟩) 1 1) [xs] :=
  (one_list h).below (below_drewN _ 1)
theorem two_list {w : World} {v u : Value} {xs ys : List Int} {t : TypeId} (h : ReadsI w v xs) (h2 : ReadsI w u ys) : ReadsL (w.alloc (.cells #[v, u] t)) (.slice (some ⟨w.heap.size, 0, none⟩) 2 2) [xs, ys] := by
  refine ⟨_, 2, rfl, Nat.le_refl _, by simp [maxLen], fun j zs hj => ?_⟩
  match j, hj with
  | 0, hj =>
    cases hj
    exact ⟨_, 0, v, rfl, by simp, by rw [cell_new]; rfl, h.below (below_new w _)⟩
  | 1, hj =>
    cases hj
    exact ⟨_, 0, u, rfl, by simp, by rw [cell_new]; rfl, h2.below (below_new w _)⟩
abbrev KeepR (base : Nat) (n : Int) (g : Bool) (v : Value) (xs : List Int) (w w1 : World) : Prop :=
  Boxed base n g w w1 ∧ w1.cell? ⟨base, 0, none⟩ = some (.int .i64 n) ∧ w1.cell? ⟨base, 1, none⟩ = some (.bool g) ∧ ReadsI w1 v xs
theorem keepB {base : Nat} {n : Int} {g : Bool} {v : Value} {xs : List Int} {w w1 w2 : World} (h : KeepR base n g v xs w w1) (hb : Below w1.heap.size w1 w2) : KeepR base n g v xs w w2 :=
  ⟨h.1.next hb, (h.1.next hb).c0, (h.1.next hb).c1, h.2.2.2.below hb⟩
theorem keepA {base : Nat} {n : Int} {g : Bool} {v : Value} {xs : List Int} {w w1 : World} {o : Obj} (h : KeepR base n g v xs w w1) : KeepR base n g v xs w (w1.alloc o) := keepB h (below_new w1 o)
theorem keepRd {base : Nat} {n : Int} {g : Bool} {v : Value} {xs : List Int} {w w1 : World} (h : KeepR base n g v xs w w1) : ReadsI w1 v xs := h.2.2.2
theorem one_list_at {w : World} {v : Value} {xs : List Int} {t : TypeId} (h : ReadsI w v xs) (k : Nat) (hk : w.heap.size = k) : ReadsL (w.alloc (.cells #[v] t)) (.slice (some ⟨k, 0, none⟩) 1 1) [xs] := by
  subst hk
  exact one_list h
theorem two_list_at {w : World} {v u : Value} {xs ys : List Int} {t : TypeId} (h : ReadsI w v xs) (h2 : ReadsI w u ys) (k : Nat) (hk : w.heap.size = k) : ReadsL (w.alloc (.cells #[v, u] t)) (.slice (some ⟨k, 0, none⟩) 2 2) [xs, ys] := by
  subst hk
  exact two_list h h2
theorem spec_IsWalk (n : Int) (g : Bool) (v : Value) (xs : List Int) (w : World) (hv : ReadsI w v xs) :
    Calls Try.prog 11 #[rd n g, v] w fun e w' => e = .returned (.tuple #[.bool (walkD n g xs), .bool (roadB n g)]) ∧ Below w.heap.size w w' := by
  have HR := Lib.hid (fun w => l2Road_any n g w)
  have HW := Lib.hid (fun w hv => l2Walk_is n g v xs w hv)
  have HX := Lib.hid (Boxed.first w n g 25)
  have HV := Lib.hid hv
  clear hv
  unfold rd at *
  go_enter Try.func11, Try.ntmps11
  go_wp2_with fail
  refine (HR.out _).mono ?_
  rintro e w1 ⟨rfl, hb⟩
  have HX := Lib.hid (HX.out.next hb)
  have h0 := HX.out.c0
  have h1 := HX.out.c1
  clear hb
  cases hg : roadB n g
  · have hf : walkD n g xs = false := by cases h : walkD n g xs; rfl; exact absurd (((walkD_iff n g xs).1 h).1.symm.trans hg) (by simp)
    go_wp2_with fail
    go_ret2
    exact ⟨ret_bool2 hf.symm hg.symm, HX.out.below⟩
  · go_wp2_with fail
    refine (HW.out _ (HV.out.below HX.out.below)).mono ?_
    rintro e w2 ⟨rfl, hb⟩
    have HX := Lib.hid (HX.out.next hb)
    clear hb
    go_wp2_with fail
    go_ret2
    exact ⟨ret_bool2 rfl hg.symm, HX.out.below⟩
set_option maxRecDepth 20000 in
theorem impl_IsWalk (n : Int) (g : Bool) (v : Value) (xs : List Int) (w : World) (hv : ReadsI w v xs) :
    Calls Try.prog 10 #[rd n g, v] w fun e w' => e = .returned (.tuple #[.bool (walkD n g xs), .bool (roadB n g)]) ∧ Below w.heap.size w w' := by
  have HR := Lib.hid (fun w => isRoad_any n g w)
  have HW := Lib.hid (fun v w hv => areWalks_one n g v xs w hv)
  have HX := Lib.hid (Boxed.first w n g 25)
  have HV := Lib.hid (hv.below (below_new w (.cells #[.int .i64 n, .bool g] 25)))
  obtain ⟨y, c, hvv, _⟩ := hv
  subst hvv
  unfold rd at *
  go_enter Try.func10, Try.ntmps10
  go_wp2_with fail
  generalize w.alloc (Obj.cells #[Value.int IntKind.i64 n, Value.bool g] 25) = w1 at *
  have h0 := HX.out.c0
  have h1 := HX.out.c1
  go_region_held3 (fun w' => Boxed w.heap.size n g w w' ∧ w'.cell? ⟨w.heap.size, 0, none⟩ = some (.int .i64 n) ∧ w'.cell? ⟨w.heap.size, 1, none⟩ = some (.bool g) ∧ ReadsI w' (.slice y xs.length c) xs) (first | exact hS | exact ⟨HX.out.next (below_drewN _ 1), h0, h1, HV.out.below (below_drewN _ 1)⟩ | exact keepA (by assumption)) (first | (go_at_call 43; refine (HW.out _ _ (one_list_drew HV.out)).mono ?_; rintro e w2 ⟨rfl, hb⟩; have hS := keepB (by assumption) hb; clear hb) | (go_at_call 47; refine (HR.out _).mono ?_; rintro e w2 ⟨rfl, hb⟩; have hS := keepB (by assumption) hb; clear hb))
  have HZ := Lib.hid hS.1
  go_wp2_with fail
  go_ret2
  exact ⟨rfl, HZ.out.below⟩
end Go.Proofs.Ytiokgnabiidlbaa
